/-
  DERIVED. GIVEN WITH THE SEED: THE CARDS: each row of YtgfkmgbcajdcdaaGreatDoorRows.lean that lists a variable, with what it lists TIED to the program's text (the seventh form; the later family's looks); each row that meets fmt, with fmt's text TOLD by the authors' own Lean function (tested against real Go, not proved from fmt's source: count such statements apart). THE CARD IS WHAT COUNTS. Prove the row's statement (the work); the ties are given (YtgfkmgbcajdcdaaGreatDoorTie.lean); close each card by the builder's one call (the guide's Derived/Test/ToyasCard.lean, 'card_holds'). Laid BY PROGRAM, IN A SANDBOX (cutbox-door.mjs). By AI agents, Wed Nov 11 2026. No macro, syntax, notation, axiom, sorry.
-/
import Derived.Test.YtgfkmgbcajdcdaaGreatDoorRows
import GoSem.ClaimSeven
namespace Go.Proofs.YtgfkmgbcajdcdaaGreatDoor
namespace Rows

/-- THE TIED CARD OF 'crosswaylaw16.ResolveHops'. -/
def resolveHopsCard : Claim7 := { stood := { row := resolveHopsRow, standIns := [], harness := (true, "b85ea44435ed0b295a5d4e4c3e90984c7ce89f307f74335cb6c5a18147271206"), looks := false }, kinds := [], alts := [], laidByText := true, laidKinds := [.data], laidTests := true, laidLooks := .later }
def ResolveHopsCardSaid : Prop := Claim7.holds Tryz.pinned (.plain (OpenSpec.ofChange resolveHopsSpec)) resolveHopsCard

/-- THE TIED CARD OF 'crosswaylaw16.ResolveTables'. -/
def resolveTablesCard : Claim7 := { stood := { row := resolveTablesRow, standIns := [], harness := (true, "b85ea44435ed0b295a5d4e4c3e90984c7ce89f307f74335cb6c5a18147271206"), looks := false }, kinds := [], alts := [], laidByText := true, laidKinds := [.data], laidTests := true, laidLooks := .later }
def ResolveTablesCardSaid : Prop := Claim7.holds Tryz.pinned (.plain (OpenSpec.ofChange resolveTablesSpec)) resolveTablesCard

/-- THE TIED CARD OF 'crosswaylaw16.ResolveUp'. -/
def resolveUpCard : Claim7 := { stood := { row := resolveUpRow, standIns := [], harness := (true, "b85ea44435ed0b295a5d4e4c3e90984c7ce89f307f74335cb6c5a18147271206"), looks := false }, kinds := [], alts := [], laidByText := true, laidKinds := [.data], laidTests := true, laidLooks := .later }
def ResolveUpCardSaid : Prop := Claim7.holds Tryz.pinned (.plain (OpenSpec.ofChange resolveUpSpec)) resolveUpCard

/-- THE TIED CARD OF 'crosswaylaw16.ResolveLooks'. -/
def resolveLooksCard : Claim7 := { stood := { row := resolveLooksRow, standIns := [], harness := (true, "b85ea44435ed0b295a5d4e4c3e90984c7ce89f307f74335cb6c5a18147271206"), looks := false }, kinds := [], alts := [], laidByText := true, laidKinds := [.data], laidTests := true, laidLooks := .later }
def ResolveLooksCardSaid : Prop := Claim7.holds Tryz.pinned (.plain (OpenSpec.ofChange resolveLooksSpec)) resolveLooksCard

/-- THE TIED CARD OF 'crosswaylaw16.ResolveChanges'. -/
def resolveChangesCard : Claim7 := { stood := { row := resolveChangesRow, standIns := [], harness := (true, "b85ea44435ed0b295a5d4e4c3e90984c7ce89f307f74335cb6c5a18147271206"), looks := false }, kinds := [], alts := [], laidByText := true, laidKinds := [.data], laidTests := true, laidLooks := .later }
def ResolveChangesCardSaid : Prop := Claim7.holds Tryz.pinned (.plain (OpenSpec.ofChange resolveChangesSpec)) resolveChangesCard

/-- THE SECOND FORM's CARD OF 'crosswaylaw16.ResolveHops'. -/
def resolveHopsUptoCard : Claim7 := { stood := { row := resolveHopsUptoRow, standIns := [], harness := (true, "b85ea44435ed0b295a5d4e4c3e90984c7ce89f307f74335cb6c5a18147271206"), looks := false }, kinds := [], alts := [], laidByText := true, laidKinds := [.data], laidTests := true, laidLooks := .later }
def ResolveHopsUptoCardSaid : Prop := Claim7.holds Tryz.pinned (.plain (OpenSpec.upto resolveHopsSpec)) resolveHopsUptoCard

/-- THE SECOND FORM's CARD OF 'crosswaylaw16.ResolveTables'. -/
def resolveTablesUptoCard : Claim7 := { stood := { row := resolveTablesUptoRow, standIns := [], harness := (true, "b85ea44435ed0b295a5d4e4c3e90984c7ce89f307f74335cb6c5a18147271206"), looks := false }, kinds := [], alts := [], laidByText := true, laidKinds := [.data], laidTests := true, laidLooks := .later }
def ResolveTablesUptoCardSaid : Prop := Claim7.holds Tryz.pinned (.plain (OpenSpec.upto resolveTablesSpec)) resolveTablesUptoCard

/-- THE SECOND FORM's CARD OF 'crosswaylaw16.ResolveUp'. -/
def resolveUpUptoCard : Claim7 := { stood := { row := resolveUpUptoRow, standIns := [], harness := (true, "b85ea44435ed0b295a5d4e4c3e90984c7ce89f307f74335cb6c5a18147271206"), looks := false }, kinds := [], alts := [], laidByText := true, laidKinds := [.data], laidTests := true, laidLooks := .later }
def ResolveUpUptoCardSaid : Prop := Claim7.holds Tryz.pinned (.plain (OpenSpec.upto resolveUpSpec)) resolveUpUptoCard

/-- THE SECOND FORM's CARD OF 'crosswaylaw16.ResolveLooks'. -/
def resolveLooksUptoCard : Claim7 := { stood := { row := resolveLooksUptoRow, standIns := [], harness := (true, "b85ea44435ed0b295a5d4e4c3e90984c7ce89f307f74335cb6c5a18147271206"), looks := false }, kinds := [], alts := [], laidByText := true, laidKinds := [.data], laidTests := true, laidLooks := .later }
def ResolveLooksUptoCardSaid : Prop := Claim7.holds Tryz.pinned (.plain (OpenSpec.upto resolveLooksSpec)) resolveLooksUptoCard

/-- THE SECOND FORM's CARD OF 'crosswaylaw16.ResolveChanges'. -/
def resolveChangesUptoCard : Claim7 := { stood := { row := resolveChangesUptoRow, standIns := [], harness := (true, "b85ea44435ed0b295a5d4e4c3e90984c7ce89f307f74335cb6c5a18147271206"), looks := false }, kinds := [], alts := [], laidByText := true, laidKinds := [.data], laidTests := true, laidLooks := .later }
def ResolveChangesUptoCardSaid : Prop := Claim7.holds Tryz.pinned (.plain (OpenSpec.upto resolveChangesSpec)) resolveChangesUptoCard
end Rows
end Go.Proofs.YtgfkmgbcajdcdaaGreatDoor
