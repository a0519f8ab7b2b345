/-
  DERIVED. GIVEN WITH THE SEED: THE CARDS: each row of YtiocdojdncomhaaDoorRows.lean that lists a variable, with what it lists TIED to the program's text (the seventh form; the later family's looks); each row that meets fmt, with fmt's text TOLD by the authors' own Lean function (tested against real Go, not proved from fmt's source: count such statements apart). THE CARD IS WHAT COUNTS. Prove the row's statement (the work); the ties are given (YtiocdojdncomhaaDoorTie.lean); close each card by the builder's one call (the guide's Derived/Test/ToyasCard.lean, 'card_holds'). Laid BY PROGRAM, IN A SANDBOX (cutbox-door.mjs). By AI agents, Wed Nov 11 2026. No macro, syntax, notation, axiom, sorry.
-/
import Derived.Test.YtiocdojdncomhaaDoorRows
import GoSem.ClaimSeven
namespace Go.Proofs.YtiocdojdncomhaaDoor
namespace Rows

/-- THE TIED CARD OF 'crosswaylaw10.ArenaPlays'. -/
def arenaPlaysCard : Claim7 := { stood := { row := arenaPlaysRow, standIns := [], harness := (true, "6d91e915ac84532c26f04ad4e1ab2d5f352ccc20767926db8d57f85741bbba94"), looks := false }, kinds := [], alts := [], laidByText := true, laidKinds := [.data], laidTests := true, laidLooks := .later }
def ArenaPlaysCardSaid : Prop := Claim7.holds Tryd.pinned (.plain (OpenSpec.ofChange arenaPlaysSpec)) arenaPlaysCard

/-- THE TIED CARD OF 'crosswaylaw10.ArenaApart'. -/
def arenaApartCard : Claim7 := { stood := { row := arenaApartRow, standIns := [], harness := (true, "6d91e915ac84532c26f04ad4e1ab2d5f352ccc20767926db8d57f85741bbba94"), looks := false }, kinds := [], alts := [], laidByText := true, laidKinds := [.data], laidTests := true, laidLooks := .later }
def ArenaApartCardSaid : Prop := Claim7.holds Tryd.pinned (.plain (OpenSpec.ofChange arenaApartSpec)) arenaApartCard

/-- THE TIED CARD OF 'crosswaylaw10.ArenaWhole'. -/
def arenaWholeCard : Claim7 := { stood := { row := arenaWholeRow, standIns := [], harness := (true, "6d91e915ac84532c26f04ad4e1ab2d5f352ccc20767926db8d57f85741bbba94"), looks := false }, kinds := [], alts := [], laidByText := true, laidKinds := [.data], laidTests := true, laidLooks := .later }
def ArenaWholeCardSaid : Prop := Claim7.holds Tryd.pinned (.plain (OpenSpec.ofChange arenaWholeSpec)) arenaWholeCard

/-- THE TIED CARD OF 'crosswaylaw10.ArenaHistory'. -/
def arenaHistoryCard : Claim7 := { stood := { row := arenaHistoryRow, standIns := [], harness := (true, "6d91e915ac84532c26f04ad4e1ab2d5f352ccc20767926db8d57f85741bbba94"), looks := false }, kinds := [], alts := [], laidByText := true, laidKinds := [.data], laidTests := true, laidLooks := .later }
def ArenaHistoryCardSaid : Prop := Claim7.holds Tryd.pinned (.plain (OpenSpec.ofChange arenaHistorySpec)) arenaHistoryCard

/-- THE TIED CARD OF 'crosswaylaw10.ArenaRefuses'. -/
def arenaRefusesCard : Claim7 := { stood := { row := arenaRefusesRow, standIns := [], harness := (true, "6d91e915ac84532c26f04ad4e1ab2d5f352ccc20767926db8d57f85741bbba94"), looks := false }, kinds := [], alts := [], laidByText := true, laidKinds := [.data], laidTests := true, laidLooks := .later }
def ArenaRefusesCardSaid : Prop := Claim7.holds Tryd.pinned (.plain (OpenSpec.ofChange arenaRefusesSpec)) arenaRefusesCard

/-- THE SECOND FORM's CARD OF 'crosswaylaw10.ArenaPlays'. -/
def arenaPlaysUptoCard : Claim7 := { stood := { row := arenaPlaysUptoRow, standIns := [], harness := (true, "6d91e915ac84532c26f04ad4e1ab2d5f352ccc20767926db8d57f85741bbba94"), looks := false }, kinds := [], alts := [], laidByText := true, laidKinds := [.data], laidTests := true, laidLooks := .later }
def ArenaPlaysUptoCardSaid : Prop := Claim7.holds Tryd.pinned (.plain (OpenSpec.upto arenaPlaysSpec)) arenaPlaysUptoCard

/-- THE SECOND FORM's CARD OF 'crosswaylaw10.ArenaApart'. -/
def arenaApartUptoCard : Claim7 := { stood := { row := arenaApartUptoRow, standIns := [], harness := (true, "6d91e915ac84532c26f04ad4e1ab2d5f352ccc20767926db8d57f85741bbba94"), looks := false }, kinds := [], alts := [], laidByText := true, laidKinds := [.data], laidTests := true, laidLooks := .later }
def ArenaApartUptoCardSaid : Prop := Claim7.holds Tryd.pinned (.plain (OpenSpec.upto arenaApartSpec)) arenaApartUptoCard

/-- THE SECOND FORM's CARD OF 'crosswaylaw10.ArenaWhole'. -/
def arenaWholeUptoCard : Claim7 := { stood := { row := arenaWholeUptoRow, standIns := [], harness := (true, "6d91e915ac84532c26f04ad4e1ab2d5f352ccc20767926db8d57f85741bbba94"), looks := false }, kinds := [], alts := [], laidByText := true, laidKinds := [.data], laidTests := true, laidLooks := .later }
def ArenaWholeUptoCardSaid : Prop := Claim7.holds Tryd.pinned (.plain (OpenSpec.upto arenaWholeSpec)) arenaWholeUptoCard

/-- THE SECOND FORM's CARD OF 'crosswaylaw10.ArenaHistory'. -/
def arenaHistoryUptoCard : Claim7 := { stood := { row := arenaHistoryUptoRow, standIns := [], harness := (true, "6d91e915ac84532c26f04ad4e1ab2d5f352ccc20767926db8d57f85741bbba94"), looks := false }, kinds := [], alts := [], laidByText := true, laidKinds := [.data], laidTests := true, laidLooks := .later }
def ArenaHistoryUptoCardSaid : Prop := Claim7.holds Tryd.pinned (.plain (OpenSpec.upto arenaHistorySpec)) arenaHistoryUptoCard

/-- THE SECOND FORM's CARD OF 'crosswaylaw10.ArenaRefuses'. -/
def arenaRefusesUptoCard : Claim7 := { stood := { row := arenaRefusesUptoRow, standIns := [], harness := (true, "6d91e915ac84532c26f04ad4e1ab2d5f352ccc20767926db8d57f85741bbba94"), looks := false }, kinds := [], alts := [], laidByText := true, laidKinds := [.data], laidTests := true, laidLooks := .later }
def ArenaRefusesUptoCardSaid : Prop := Claim7.holds Tryd.pinned (.plain (OpenSpec.upto arenaRefusesSpec)) arenaRefusesUptoCard
end Rows
end Go.Proofs.YtiocdojdncomhaaDoor
