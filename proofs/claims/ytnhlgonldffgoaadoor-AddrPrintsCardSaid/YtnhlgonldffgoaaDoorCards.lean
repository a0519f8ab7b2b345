/-
  DERIVED. GIVEN WITH THE SEED: THE CARDS: each row of YtnhlgonldffgoaaDoorRows.lean that lists a variable, with what it lists TIED to the program's text (the seventh form; the later family's looks); each row that meets fmt, with fmt's text TOLD by the authors' own Lean function (tested against real Go, not proved from fmt's source: count such statements apart). THE CARD IS WHAT COUNTS. Prove the row's statement (the work); the ties are given (YtnhlgonldffgoaaDoorTie.lean); close each card by the builder's one call (the guide's Derived/Test/ToyasCard.lean, 'card_holds'). Laid BY PROGRAM, IN A SANDBOX (cutbox-door.mjs). By AI agents, Wed Nov 11 2026. No macro, syntax, notation, axiom, sorry.
-/
import Derived.Test.YtnhlgonldffgoaaDoorRows
import GoSem.ClaimSeven
namespace Go.Proofs.YtnhlgonldffgoaaDoor
namespace Rows

/-- THE TIED CARD OF 'crosswaylaw03.AddrParses'. -/
def addrParsesCard : Claim7 := { stood := { row := addrParsesRow, standIns := [], harness := (true, "fa09e0ba7bd8af16131ee9c5445e41560c137a52179460b7a6930f0b02020b79"), looks := true }, kinds := [], alts := [], laidByText := true, laidKinds := [.data, .data, .data, .sentinel, .sentinel], laidTests := true, laidLooks := .later }
def AddrParsesCardSaid : Prop := Claim7.holds Tryd.pinned (.plain (OpenSpec.ofChange addrParsesSpec)) addrParsesCard

/-- THE TIED CARD OF 'crosswaylaw03.AddrPrints'. -/
def addrPrintsCard : Claim7 := { stood := { row := addrPrintsRow, standIns := [], harness := (true, "fa09e0ba7bd8af16131ee9c5445e41560c137a52179460b7a6930f0b02020b79"), looks := true }, kinds := [], alts := [], laidByText := true, laidKinds := [.data, .data, .data, .sentinel, .sentinel], laidTests := true, laidLooks := .later }
def AddrPrintsCardSaid : Prop := Claim7.holds Tryd.pinned (.plain (OpenSpec.ofChange addrPrintsSpec)) addrPrintsCard

/-- THE TIED CARD OF 'crosswaylaw03.AddrSpelt'. -/
def addrSpeltCard : Claim7 := { stood := { row := addrSpeltRow, standIns := [], harness := (true, "fa09e0ba7bd8af16131ee9c5445e41560c137a52179460b7a6930f0b02020b79"), looks := true }, kinds := [], alts := [], laidByText := true, laidKinds := [.data, .data, .data, .sentinel, .sentinel], laidTests := true, laidLooks := .later }
def AddrSpeltCardSaid : Prop := Claim7.holds Tryd.pinned (.plain (OpenSpec.ofChange addrSpeltSpec)) addrSpeltCard

/-- THE TIED CARD OF 'crosswaylaw05.EtherLays'. -/
def etherLaysCard : Claim7 := { stood := { row := etherLaysRow, standIns := [], harness := (true, "fa09e0ba7bd8af16131ee9c5445e41560c137a52179460b7a6930f0b02020b79"), looks := true }, kinds := [], alts := [], laidByText := true, laidKinds := [.data], laidTests := true, laidLooks := .later }
def EtherLaysCardSaid : Prop := Claim7.holds Tryd.pinned (.plain (OpenSpec.ofChange etherLaysSpec)) etherLaysCard

/-- THE TIED CARD OF 'crosswaylaw05.EtherTakes'. -/
def etherTakesCard : Claim7 := { stood := { row := etherTakesRow, standIns := [], harness := (true, "fa09e0ba7bd8af16131ee9c5445e41560c137a52179460b7a6930f0b02020b79"), looks := true }, kinds := [], alts := [], laidByText := true, laidKinds := [.data], laidTests := true, laidLooks := .later }
def EtherTakesCardSaid : Prop := Claim7.holds Tryd.pinned (.plain (OpenSpec.ofChange etherTakesSpec)) etherTakesCard

/-- THE TIED CARD OF 'crosswaylaw05.EtherBack'. -/
def etherBackCard : Claim7 := { stood := { row := etherBackRow, standIns := [], harness := (true, "fa09e0ba7bd8af16131ee9c5445e41560c137a52179460b7a6930f0b02020b79"), looks := true }, kinds := [], alts := [], laidByText := true, laidKinds := [.data], laidTests := true, laidLooks := .later }
def EtherBackCardSaid : Prop := Claim7.holds Tryd.pinned (.plain (OpenSpec.ofChange etherBackSpec)) etherBackCard

/-- THE TIED CARD OF 'crosswaylaw05.EtherAgain'. -/
def etherAgainCard : Claim7 := { stood := { row := etherAgainRow, standIns := [], harness := (true, "fa09e0ba7bd8af16131ee9c5445e41560c137a52179460b7a6930f0b02020b79"), looks := true }, kinds := [], alts := [], laidByText := true, laidKinds := [.data], laidTests := true, laidLooks := .later }
def EtherAgainCardSaid : Prop := Claim7.holds Tryd.pinned (.plain (OpenSpec.ofChange etherAgainSpec)) etherAgainCard

/-- THE TIED CARD OF 'crosswaylaw05.EtherAsks'. -/
def etherAsksCard : Claim7 := { stood := { row := etherAsksRow, standIns := [], harness := (true, "fa09e0ba7bd8af16131ee9c5445e41560c137a52179460b7a6930f0b02020b79"), looks := true }, kinds := [], alts := [], laidByText := true, laidKinds := [.data], laidTests := true, laidLooks := .later }
def EtherAsksCardSaid : Prop := Claim7.holds Tryd.pinned (.plain (OpenSpec.ofChange etherAsksSpec)) etherAsksCard

/-- THE TIED CARD OF 'crosswaylaw05.EtherMacs'. -/
def etherMacsCard : Claim7 := { stood := { row := etherMacsRow, standIns := [], harness := (true, "fa09e0ba7bd8af16131ee9c5445e41560c137a52179460b7a6930f0b02020b79"), looks := true }, kinds := [], alts := [], laidByText := true, laidKinds := [.data], laidTests := true, laidLooks := .later }
def EtherMacsCardSaid : Prop := Claim7.holds Tryd.pinned (.plain (OpenSpec.ofChange etherMacsSpec)) etherMacsCard

/-- THE TIED CARD OF 'crosswaylaw05.EtherGroups'. -/
def etherGroupsCard : Claim7 := { stood := { row := etherGroupsRow, standIns := [], harness := (true, "fa09e0ba7bd8af16131ee9c5445e41560c137a52179460b7a6930f0b02020b79"), looks := true }, kinds := [], alts := [], laidByText := true, laidKinds := [.data], laidTests := true, laidLooks := .later }
def EtherGroupsCardSaid : Prop := Claim7.holds Tryd.pinned (.plain (OpenSpec.ofChange etherGroupsSpec)) etherGroupsCard

/-- THE SECOND FORM's CARD OF 'crosswaylaw03.AddrParses'. -/
def addrParsesUptoCard : Claim7 := { stood := { row := addrParsesUptoRow, standIns := [], harness := (true, "fa09e0ba7bd8af16131ee9c5445e41560c137a52179460b7a6930f0b02020b79"), looks := true }, kinds := [], alts := [], laidByText := true, laidKinds := [.data, .data, .data, .sentinel, .sentinel], laidTests := true, laidLooks := .later }
def AddrParsesUptoCardSaid : Prop := Claim7.holds Tryd.pinned (.plain (OpenSpec.upto addrParsesSpec)) addrParsesUptoCard

/-- THE SECOND FORM's CARD OF 'crosswaylaw03.AddrPrints'. -/
def addrPrintsUptoCard : Claim7 := { stood := { row := addrPrintsUptoRow, standIns := [], harness := (true, "fa09e0ba7bd8af16131ee9c5445e41560c137a52179460b7a6930f0b02020b79"), looks := true }, kinds := [], alts := [], laidByText := true, laidKinds := [.data, .data, .data, .sentinel, .sentinel], laidTests := true, laidLooks := .later }
def AddrPrintsUptoCardSaid : Prop := Claim7.holds Tryd.pinned (.plain (OpenSpec.upto addrPrintsSpec)) addrPrintsUptoCard

/-- THE SECOND FORM's CARD OF 'crosswaylaw03.AddrSpelt'. -/
def addrSpeltUptoCard : Claim7 := { stood := { row := addrSpeltUptoRow, standIns := [], harness := (true, "fa09e0ba7bd8af16131ee9c5445e41560c137a52179460b7a6930f0b02020b79"), looks := true }, kinds := [], alts := [], laidByText := true, laidKinds := [.data, .data, .data, .sentinel, .sentinel], laidTests := true, laidLooks := .later }
def AddrSpeltUptoCardSaid : Prop := Claim7.holds Tryd.pinned (.plain (OpenSpec.upto addrSpeltSpec)) addrSpeltUptoCard

/-- THE SECOND FORM's CARD OF 'crosswaylaw05.EtherLays'. -/
def etherLaysUptoCard : Claim7 := { stood := { row := etherLaysUptoRow, standIns := [], harness := (true, "fa09e0ba7bd8af16131ee9c5445e41560c137a52179460b7a6930f0b02020b79"), looks := true }, kinds := [], alts := [], laidByText := true, laidKinds := [.data], laidTests := true, laidLooks := .later }
def EtherLaysUptoCardSaid : Prop := Claim7.holds Tryd.pinned (.plain (OpenSpec.upto etherLaysSpec)) etherLaysUptoCard

/-- THE SECOND FORM's CARD OF 'crosswaylaw05.EtherTakes'. -/
def etherTakesUptoCard : Claim7 := { stood := { row := etherTakesUptoRow, standIns := [], harness := (true, "fa09e0ba7bd8af16131ee9c5445e41560c137a52179460b7a6930f0b02020b79"), looks := true }, kinds := [], alts := [], laidByText := true, laidKinds := [.data], laidTests := true, laidLooks := .later }
def EtherTakesUptoCardSaid : Prop := Claim7.holds Tryd.pinned (.plain (OpenSpec.upto etherTakesSpec)) etherTakesUptoCard

/-- THE SECOND FORM's CARD OF 'crosswaylaw05.EtherBack'. -/
def etherBackUptoCard : Claim7 := { stood := { row := etherBackUptoRow, standIns := [], harness := (true, "fa09e0ba7bd8af16131ee9c5445e41560c137a52179460b7a6930f0b02020b79"), looks := true }, kinds := [], alts := [], laidByText := true, laidKinds := [.data], laidTests := true, laidLooks := .later }
def EtherBackUptoCardSaid : Prop := Claim7.holds Tryd.pinned (.plain (OpenSpec.upto etherBackSpec)) etherBackUptoCard

/-- THE SECOND FORM's CARD OF 'crosswaylaw05.EtherAgain'. -/
def etherAgainUptoCard : Claim7 := { stood := { row := etherAgainUptoRow, standIns := [], harness := (true, "fa09e0ba7bd8af16131ee9c5445e41560c137a52179460b7a6930f0b02020b79"), looks := true }, kinds := [], alts := [], laidByText := true, laidKinds := [.data], laidTests := true, laidLooks := .later }
def EtherAgainUptoCardSaid : Prop := Claim7.holds Tryd.pinned (.plain (OpenSpec.upto etherAgainSpec)) etherAgainUptoCard

/-- THE SECOND FORM's CARD OF 'crosswaylaw05.EtherAsks'. -/
def etherAsksUptoCard : Claim7 := { stood := { row := etherAsksUptoRow, standIns := [], harness := (true, "fa09e0ba7bd8af16131ee9c5445e41560c137a52179460b7a6930f0b02020b79"), looks := true }, kinds := [], alts := [], laidByText := true, laidKinds := [.data], laidTests := true, laidLooks := .later }
def EtherAsksUptoCardSaid : Prop := Claim7.holds Tryd.pinned (.plain (OpenSpec.upto etherAsksSpec)) etherAsksUptoCard

/-- THE SECOND FORM's CARD OF 'crosswaylaw05.EtherMacs'. -/
def etherMacsUptoCard : Claim7 := { stood := { row := etherMacsUptoRow, standIns := [], harness := (true, "fa09e0ba7bd8af16131ee9c5445e41560c137a52179460b7a6930f0b02020b79"), looks := true }, kinds := [], alts := [], laidByText := true, laidKinds := [.data], laidTests := true, laidLooks := .later }
def EtherMacsUptoCardSaid : Prop := Claim7.holds Tryd.pinned (.plain (OpenSpec.upto etherMacsSpec)) etherMacsUptoCard

/-- THE SECOND FORM's CARD OF 'crosswaylaw05.EtherGroups'. -/
def etherGroupsUptoCard : Claim7 := { stood := { row := etherGroupsUptoRow, standIns := [], harness := (true, "fa09e0ba7bd8af16131ee9c5445e41560c137a52179460b7a6930f0b02020b79"), looks := true }, kinds := [], alts := [], laidByText := true, laidKinds := [.data], laidTests := true, laidLooks := .later }
def EtherGroupsUptoCardSaid : Prop := Claim7.holds Tryd.pinned (.plain (OpenSpec.upto etherGroupsSpec)) etherGroupsUptoCard
end Rows
end Go.Proofs.YtnhlgonldffgoaaDoor
