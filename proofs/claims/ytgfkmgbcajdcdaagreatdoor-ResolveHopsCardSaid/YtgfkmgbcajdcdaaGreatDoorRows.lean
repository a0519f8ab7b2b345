/-
  NARROWER THAN 'FOR EVERY INPUT', by the rows' own cells (each row's printed sentence says how): ResolveHops: laid · ResolveTables: laid · ResolveUp: laid · ResolveLooks: laid · ResolveChanges: laid.
  DERIVED. THE GIVEN ROWS OF THIS SEAT. 5 by the template 'for every input the law returns true; each argument reads behind the call as it read before'; 0 by the template 'total and deterministic' (their statements: YtgfkmgbcajdcdaaGreatDoorTotals.lean).
  GIVEN WITH THE SEED: the statements are not yours to turn. If you find one false, say at which input.
  Laid BY PROGRAM, IN A SANDBOX (cutbox-rows.mjs): the forced cells as the released guide's own fill.sh prints them over the translation 9658a41660cdca71… (all of the seat's roots in one cut). By AI agents, Wed Nov 11 2026. No macro, syntax, notation, axiom, sorry.
-/
import Derived.Test.YtgfkmgbcajdcdaaGreatDoorChecked
import GoSem.Claim
import GoSem.ClaimJoined
import GoSem.ClaimMapViews
import Derived.JoinedTies
import Derived.KernelRfl
namespace Go.Proofs.YtgfkmgbcajdcdaaGreatDoor
/- THE CELL 'sum', in the pinned program and in every row, IS THE sha256 OF THE DUMP (.gsa) THAT YtgfkmgbcajdcdaaGreatDoorProg.lean LOADS. Nothing in Lean hashes anything: it is a label: what it is worth is what the hold of that sum in a sandbox is worth. -/
noncomputable def Tryz.pinned : Pinned := { name := "ytgfkmgbcajdcdaagreatdoor", sum := "9658a41660cdca714decb1d148247710eefc0336a82ef552229ad25f6d2cc648", checked := Tryz.checked }
namespace Rows
def none {H : Type} : Left H := { results := [], args := [] }

/- WHAT THE LISTED PACKAGE-LEVEL VARIABLES READ AS WHEN THE CALL BEGINS. Each datum BY PROGRAM (the guide's laid-datum.mjs) off the statement by which the dump's own 'gosem.cut.vars' lays the variable. In a bare row this is a premise. The card (YtgfkmgbcajdcdaaGreatDoorCards.lean) ties it to the program's text. -/
def laid_crossway_rib_distances {H : Type} : DataW H := .agg [.lit (.int .i64 0), .lit (.int .i64 1), .lit (.int .i64 20), .lit (.int .i64 110), .lit (.int .i64 120)]

/-- 'crosswaylaw16.ResolveHops': WHATEVER THE INPUT: true; the input reads as it did. -/
def resolveHopsSpec : ChangeSpec := { name := "resolveHops", fn := fun _ => fun
  | [d1, d2] => { results := [.lit (.bool true)], args := [d1, d2] }
  | _ => none }
def resolveHopsRow : OpenClaim := { program := "ytgfkmgbcajdcdaagreatdoor", sum := "9658a41660cdca714decb1d148247710eefc0336a82ef552229ad25f6d2cc648", func := "crossway/crosswaylaw16.ResolveHops", spec := "resolveHops", inPlace := ["slices.overlaps[crossway/api.Path]"], unfollowed := true, recurses := true, named := ["crossway/rib.distances"], plainKeys := false, apart := false, laid := [("crossway/rib.distances", laid_crossway_rib_distances)] }
def ResolveHopsSaid : Prop := resolveHopsRow.holds Tryz.pinned (OpenSpec.ofChange resolveHopsSpec)

/-- ITS FALSE NEIGHBOUR: 'it returns false'. Refute it at one input. -/
def resolveHopsWrong : ChangeSpec := { name := "resolveHops", fn := fun _ => fun
  | [d1, d2] => { results := [.lit (.bool false)], args := [d1, d2] }
  | _ => none }
def ResolveHopsWrongFalsely : Prop := resolveHopsRow.holds Tryz.pinned (OpenSpec.ofChange resolveHopsWrong)

/-- 'crosswaylaw16.ResolveTables': WHATEVER THE INPUT: true; the input reads as it did. -/
def resolveTablesSpec : ChangeSpec := { name := "resolveTables", fn := fun _ => fun
  | [d] => { results := [.lit (.bool true)], args := [d] }
  | _ => none }
def resolveTablesRow : OpenClaim := { program := "ytgfkmgbcajdcdaagreatdoor", sum := "9658a41660cdca714decb1d148247710eefc0336a82ef552229ad25f6d2cc648", func := "crossway/crosswaylaw16.ResolveTables", spec := "resolveTables", inPlace := ["slices.overlaps[crossway/api.Path]"], unfollowed := true, recurses := true, named := ["crossway/rib.distances"], plainKeys := false, apart := false, laid := [("crossway/rib.distances", laid_crossway_rib_distances)] }
def ResolveTablesSaid : Prop := resolveTablesRow.holds Tryz.pinned (OpenSpec.ofChange resolveTablesSpec)

/-- ITS FALSE NEIGHBOUR: 'it returns false'. Refute it at one input. -/
def resolveTablesWrong : ChangeSpec := { name := "resolveTables", fn := fun _ => fun
  | [d] => { results := [.lit (.bool false)], args := [d] }
  | _ => none }
def ResolveTablesWrongFalsely : Prop := resolveTablesRow.holds Tryz.pinned (OpenSpec.ofChange resolveTablesWrong)

/-- 'crosswaylaw16.ResolveUp': WHATEVER THE INPUT: true; the input reads as it did. -/
def resolveUpSpec : ChangeSpec := { name := "resolveUp", fn := fun _ => fun
  | [d] => { results := [.lit (.bool true)], args := [d] }
  | _ => none }
def resolveUpRow : OpenClaim := { program := "ytgfkmgbcajdcdaagreatdoor", sum := "9658a41660cdca714decb1d148247710eefc0336a82ef552229ad25f6d2cc648", func := "crossway/crosswaylaw16.ResolveUp", spec := "resolveUp", inPlace := ["slices.overlaps[crossway/api.Path]"], unfollowed := true, recurses := true, named := ["crossway/rib.distances"], plainKeys := false, apart := false, laid := [("crossway/rib.distances", laid_crossway_rib_distances)] }
def ResolveUpSaid : Prop := resolveUpRow.holds Tryz.pinned (OpenSpec.ofChange resolveUpSpec)

/-- ITS FALSE NEIGHBOUR: 'it returns false'. Refute it at one input. -/
def resolveUpWrong : ChangeSpec := { name := "resolveUp", fn := fun _ => fun
  | [d] => { results := [.lit (.bool false)], args := [d] }
  | _ => none }
def ResolveUpWrongFalsely : Prop := resolveUpRow.holds Tryz.pinned (OpenSpec.ofChange resolveUpWrong)

/-- 'crosswaylaw16.ResolveLooks': WHATEVER THE INPUT: true; the input reads as it did. -/
def resolveLooksSpec : ChangeSpec := { name := "resolveLooks", fn := fun _ => fun
  | [d1, d2] => { results := [.lit (.bool true)], args := [d1, d2] }
  | _ => none }
def resolveLooksRow : OpenClaim := { program := "ytgfkmgbcajdcdaagreatdoor", sum := "9658a41660cdca714decb1d148247710eefc0336a82ef552229ad25f6d2cc648", func := "crossway/crosswaylaw16.ResolveLooks", spec := "resolveLooks", inPlace := ["slices.overlaps[crossway/api.Path]"], unfollowed := true, recurses := true, named := ["crossway/rib.distances"], plainKeys := false, apart := false, laid := [("crossway/rib.distances", laid_crossway_rib_distances)] }
def ResolveLooksSaid : Prop := resolveLooksRow.holds Tryz.pinned (OpenSpec.ofChange resolveLooksSpec)

/-- ITS FALSE NEIGHBOUR: 'it returns false'. Refute it at one input. -/
def resolveLooksWrong : ChangeSpec := { name := "resolveLooks", fn := fun _ => fun
  | [d1, d2] => { results := [.lit (.bool false)], args := [d1, d2] }
  | _ => none }
def ResolveLooksWrongFalsely : Prop := resolveLooksRow.holds Tryz.pinned (OpenSpec.ofChange resolveLooksWrong)

/-- 'crosswaylaw16.ResolveChanges': WHATEVER THE INPUT: true; the input reads as it did. -/
def resolveChangesSpec : ChangeSpec := { name := "resolveChanges", fn := fun _ => fun
  | [d1, d2] => { results := [.lit (.bool true)], args := [d1, d2] }
  | _ => none }
def resolveChangesRow : OpenClaim := { program := "ytgfkmgbcajdcdaagreatdoor", sum := "9658a41660cdca714decb1d148247710eefc0336a82ef552229ad25f6d2cc648", func := "crossway/crosswaylaw16.ResolveChanges", spec := "resolveChanges", inPlace := ["slices.overlaps[crossway/api.Path]"], unfollowed := true, recurses := true, named := ["crossway/rib.distances"], plainKeys := false, apart := false, laid := [("crossway/rib.distances", laid_crossway_rib_distances)] }
def ResolveChangesSaid : Prop := resolveChangesRow.holds Tryz.pinned (OpenSpec.ofChange resolveChangesSpec)

/-- ITS FALSE NEIGHBOUR: 'it returns false'. Refute it at one input. -/
def resolveChangesWrong : ChangeSpec := { name := "resolveChanges", fn := fun _ => fun
  | [d1, d2] => { results := [.lit (.bool false)], args := [d1, d2] }
  | _ => none }
def ResolveChangesWrongFalsely : Prop := resolveChangesRow.holds Tryz.pinned (OpenSpec.ofChange resolveChangesWrong)

/- THE SECOND FORM. 'bulk': how many values and letters a reading holds, each counted each time it is reached (what is shared counts as often as it is met; a slice's spare places count too). A statement '..UptoSaid' is the law's where the arguments, and the package variables that the reading takes, are together of bulk at most 1048576: NARROWER than '..Said'. Prove '..Said' where nothing that the law and all that it calls make is longer than what came in: it says more and counts as full. Else prove '..UptoSaid'. A law counts once. -/
mutual
def uptoBulk {H : Type} : DataW H → Nat
  | .lit (.string bytes) => bytes.length + 1
  | .lit _ => 1
  | .nil => 1
  | .ptr d => uptoBulk d + 1
  | .slice elems spare => uptoBulkAll elems + uptoBulkAll spare + 1
  | .agg parts => uptoBulkAll parts + 1
  | .iface _ d => uptoBulk d + 1
  | .map entries => uptoBulkEntries entries + 1
  | .held _ => 1
def uptoBulkAll {H : Type} : List (DataW H) → Nat
  | [] => 0
  | d :: r => uptoBulk d + uptoBulkAll r
def uptoBulkEntries {H : Type} : List (Lit × DataW H) → Nat
  | [] => 0
  | x :: r => uptoBulkEntry x + uptoBulkEntries r
def uptoBulkEntry {H : Type} : Lit × DataW H → Nat
  | (.string bytes, d) => bytes.length + uptoBulk d + 1
  | (_, d) => uptoBulk d + 1
 end
def uptoSmall : (H : Type) → List (DataW H) → Bool := fun _ ds => decide (uptoBulkAll ds ≤ 1048576)
def OpenSpec.upto (s : _root_.Go.ChangeSpec) : _root_.Go.OpenSpec := { _root_.Go.OpenSpec.ofChange s with cond := some uptoSmall }

/-- 'crosswaylaw16.ResolveHops', WHERE WHAT IT READS IS OF BULK AT MOST 1048576: true; the input reads as it did. -/
def resolveHopsUptoRow : OpenClaim := { program := "ytgfkmgbcajdcdaagreatdoor", sum := "9658a41660cdca714decb1d148247710eefc0336a82ef552229ad25f6d2cc648", func := "crossway/crosswaylaw16.ResolveHops", spec := "resolveHops", inPlace := ["slices.overlaps[crossway/api.Path]"], unfollowed := true, recurses := true, named := ["crossway/rib.distances"], plainKeys := false, apart := false, laid := [("crossway/rib.distances", laid_crossway_rib_distances)], narrowed := true }
def ResolveHopsUptoSaid : Prop := resolveHopsUptoRow.holds Tryz.pinned (OpenSpec.upto resolveHopsSpec)

/-- 'crosswaylaw16.ResolveTables', WHERE WHAT IT READS IS OF BULK AT MOST 1048576: true; the input reads as it did. -/
def resolveTablesUptoRow : OpenClaim := { program := "ytgfkmgbcajdcdaagreatdoor", sum := "9658a41660cdca714decb1d148247710eefc0336a82ef552229ad25f6d2cc648", func := "crossway/crosswaylaw16.ResolveTables", spec := "resolveTables", inPlace := ["slices.overlaps[crossway/api.Path]"], unfollowed := true, recurses := true, named := ["crossway/rib.distances"], plainKeys := false, apart := false, laid := [("crossway/rib.distances", laid_crossway_rib_distances)], narrowed := true }
def ResolveTablesUptoSaid : Prop := resolveTablesUptoRow.holds Tryz.pinned (OpenSpec.upto resolveTablesSpec)

/-- 'crosswaylaw16.ResolveUp', WHERE WHAT IT READS IS OF BULK AT MOST 1048576: true; the input reads as it did. -/
def resolveUpUptoRow : OpenClaim := { program := "ytgfkmgbcajdcdaagreatdoor", sum := "9658a41660cdca714decb1d148247710eefc0336a82ef552229ad25f6d2cc648", func := "crossway/crosswaylaw16.ResolveUp", spec := "resolveUp", inPlace := ["slices.overlaps[crossway/api.Path]"], unfollowed := true, recurses := true, named := ["crossway/rib.distances"], plainKeys := false, apart := false, laid := [("crossway/rib.distances", laid_crossway_rib_distances)], narrowed := true }
def ResolveUpUptoSaid : Prop := resolveUpUptoRow.holds Tryz.pinned (OpenSpec.upto resolveUpSpec)

/-- 'crosswaylaw16.ResolveLooks', WHERE WHAT IT READS IS OF BULK AT MOST 1048576: true; the input reads as it did. -/
def resolveLooksUptoRow : OpenClaim := { program := "ytgfkmgbcajdcdaagreatdoor", sum := "9658a41660cdca714decb1d148247710eefc0336a82ef552229ad25f6d2cc648", func := "crossway/crosswaylaw16.ResolveLooks", spec := "resolveLooks", inPlace := ["slices.overlaps[crossway/api.Path]"], unfollowed := true, recurses := true, named := ["crossway/rib.distances"], plainKeys := false, apart := false, laid := [("crossway/rib.distances", laid_crossway_rib_distances)], narrowed := true }
def ResolveLooksUptoSaid : Prop := resolveLooksUptoRow.holds Tryz.pinned (OpenSpec.upto resolveLooksSpec)

/-- 'crosswaylaw16.ResolveChanges', WHERE WHAT IT READS IS OF BULK AT MOST 1048576: true; the input reads as it did. -/
def resolveChangesUptoRow : OpenClaim := { program := "ytgfkmgbcajdcdaagreatdoor", sum := "9658a41660cdca714decb1d148247710eefc0336a82ef552229ad25f6d2cc648", func := "crossway/crosswaylaw16.ResolveChanges", spec := "resolveChanges", inPlace := ["slices.overlaps[crossway/api.Path]"], unfollowed := true, recurses := true, named := ["crossway/rib.distances"], plainKeys := false, apart := false, laid := [("crossway/rib.distances", laid_crossway_rib_distances)], narrowed := true }
def ResolveChangesUptoSaid : Prop := resolveChangesUptoRow.holds Tryz.pinned (OpenSpec.upto resolveChangesSpec)

end Rows
end Go.Proofs.YtgfkmgbcajdcdaaGreatDoor
