/-
  No cell of these rows narrows 'for every input' (looked for: loops, veiled, ifaces, maps, wideKeys, modest, calm, conditions, laid).
  DERIVED. THE GIVEN ROWS OF THIS SEAT. 4 by the template 'for every input the law returns true; each argument reads behind the call as it read before'; 0 by the template 'total and deterministic' (their statements: YtlbkphnbpenbcaaTotals.lean).
  GIVEN WITH THE SEED: the statements are not yours to turn. If you find one false, say at which input.
  Laid BY PROGRAM, IN A SANDBOX (cutbox-rows.mjs): the forced cells as the released guide's own fill.sh prints them over the translation 774cbfbdb78e58f2… (all of the seat's roots in one cut). By AI agents, Wed Nov 11 2026. No macro, syntax, notation, axiom, sorry.
-/
import Derived.Test.YtlbkphnbpenbcaaChecked
import GoSem.Claim
import GoSem.ClaimJoined
import GoSem.ClaimMapViews
import Derived.JoinedTies
import Derived.KernelRfl
namespace Go.Proofs.Ytlbkphnbpenbcaa
/- THE CELL 'sum', in the pinned program and in every row, IS THE sha256 OF THE DUMP (.gsa) THAT YtlbkphnbpenbcaaProg.lean LOADS. Nothing in Lean hashes anything: it is a label: what it is worth is what the hold of that sum in a sandbox is worth. -/
noncomputable def Try.pinned : Pinned := { name := "ytlbkphnbpenbcaa", sum := "774cbfbdb78e58f2ba24f633dbb7afd7bc81875b34a6b3f0240ed94f598c20f8", checked := Try.checked }
namespace Rows
def none {H : Type} : Left H := { results := [], args := [] }

/-- 'crosswaylaw19.NeighPlays': WHATEVER THE INPUT: true; the input reads as it did. -/
def neighPlaysSpec : ChangeSpec := { name := "neighPlays", fn := fun _ => fun
  | [d] => { results := [.lit (.bool true)], args := [d] }
  | _ => none }
def neighPlaysRow : OpenClaim := { program := "ytlbkphnbpenbcaa", sum := "774cbfbdb78e58f2ba24f633dbb7afd7bc81875b34a6b3f0240ed94f598c20f8", func := "crossway/crosswaylaw19.NeighPlays", spec := "neighPlays", unfollowed := true, recurses := true, plainKeys := false, apart := false }
def NeighPlaysSaid : Prop := neighPlaysRow.holds Try.pinned (OpenSpec.ofChange neighPlaysSpec)

/-- ITS FALSE NEIGHBOUR: 'it returns false'. Refute it at one input. -/
def neighPlaysWrong : ChangeSpec := { name := "neighPlays", fn := fun _ => fun
  | [d] => { results := [.lit (.bool false)], args := [d] }
  | _ => none }
def NeighPlaysWrongFalsely : Prop := neighPlaysRow.holds Try.pinned (OpenSpec.ofChange neighPlaysWrong)

/-- 'crosswaylaw19.NeighThrice': WHATEVER THE INPUT: true; the input reads as it did. -/
def neighThriceSpec : ChangeSpec := { name := "neighThrice", fn := fun _ => fun
  | [d1, d2, d3, d4, d5] => { results := [.lit (.bool true)], args := [d1, d2, d3, d4, d5] }
  | _ => none }
def neighThriceRow : OpenClaim := { program := "ytlbkphnbpenbcaa", sum := "774cbfbdb78e58f2ba24f633dbb7afd7bc81875b34a6b3f0240ed94f598c20f8", func := "crossway/crosswaylaw19.NeighThrice", spec := "neighThrice", unfollowed := true, recurses := true, plainKeys := false, apart := false }
def NeighThriceSaid : Prop := neighThriceRow.holds Try.pinned (OpenSpec.ofChange neighThriceSpec)

/-- ITS FALSE NEIGHBOUR: 'it returns false'. Refute it at one input. -/
def neighThriceWrong : ChangeSpec := { name := "neighThrice", fn := fun _ => fun
  | [d1, d2, d3, d4, d5] => { results := [.lit (.bool false)], args := [d1, d2, d3, d4, d5] }
  | _ => none }
def NeighThriceWrongFalsely : Prop := neighThriceRow.holds Try.pinned (OpenSpec.ofChange neighThriceWrong)

/-- 'crosswaylaw19.NeighAnswers': WHATEVER THE INPUT: true; the input reads as it did. -/
def neighAnswersSpec : ChangeSpec := { name := "neighAnswers", fn := fun _ => fun
  | [d1, d2, d3] => { results := [.lit (.bool true)], args := [d1, d2, d3] }
  | _ => none }
def neighAnswersRow : OpenClaim := { program := "ytlbkphnbpenbcaa", sum := "774cbfbdb78e58f2ba24f633dbb7afd7bc81875b34a6b3f0240ed94f598c20f8", func := "crossway/crosswaylaw19.NeighAnswers", spec := "neighAnswers", unfollowed := true, recurses := true, plainKeys := false, apart := false }
def NeighAnswersSaid : Prop := neighAnswersRow.holds Try.pinned (OpenSpec.ofChange neighAnswersSpec)

/-- ITS FALSE NEIGHBOUR: 'it returns false'. Refute it at one input. -/
def neighAnswersWrong : ChangeSpec := { name := "neighAnswers", fn := fun _ => fun
  | [d1, d2, d3] => { results := [.lit (.bool false)], args := [d1, d2, d3] }
  | _ => none }
def NeighAnswersWrongFalsely : Prop := neighAnswersRow.holds Try.pinned (OpenSpec.ofChange neighAnswersWrong)

/-- 'crosswaylaw19.NeighAges': WHATEVER THE INPUT: true; the input reads as it did. -/
def neighAgesSpec : ChangeSpec := { name := "neighAges", fn := fun _ => fun
  | [d1, d2, d3] => { results := [.lit (.bool true)], args := [d1, d2, d3] }
  | _ => none }
def neighAgesRow : OpenClaim := { program := "ytlbkphnbpenbcaa", sum := "774cbfbdb78e58f2ba24f633dbb7afd7bc81875b34a6b3f0240ed94f598c20f8", func := "crossway/crosswaylaw19.NeighAges", spec := "neighAges", unfollowed := true, recurses := true, plainKeys := false, apart := false }
def NeighAgesSaid : Prop := neighAgesRow.holds Try.pinned (OpenSpec.ofChange neighAgesSpec)

/-- ITS FALSE NEIGHBOUR: 'it returns false'. Refute it at one input. -/
def neighAgesWrong : ChangeSpec := { name := "neighAges", fn := fun _ => fun
  | [d1, d2, d3] => { results := [.lit (.bool false)], args := [d1, d2, d3] }
  | _ => none }
def NeighAgesWrongFalsely : Prop := neighAgesRow.holds Try.pinned (OpenSpec.ofChange neighAgesWrong)

/- THE SECOND FORM. 'bulk': how many values and letters a reading holds, each counted each time it is reached (what is shared counts as often as it is met; a slice's spare places count too). A statement '..UptoSaid' is the law's where the arguments, and the package variables that the reading takes, are together of bulk at most 1048576: NARROWER than '..Said'. Prove '..Said' where nothing that the law and all that it calls make is longer than what came in: it says more and counts as full. Else prove '..UptoSaid'. A law counts once. -/
mutual
def uptoBulk {H : Type} : DataW H → Nat
  | .lit (.string bytes) => bytes.length + 1
  | .lit _ => 1
  | .nil => 1
  | .ptr d => uptoBulk d + 1
  | .slice elems spare => uptoBulkAll elems + uptoBulkAll spare + 1
  | .agg parts => uptoBulkAll parts + 1
  | .iface _ d => uptoBulk d + 1
  | .map entries => uptoBulkEntries entries + 1
  | .held _ => 1
def uptoBulkAll {H : Type} : List (DataW H) → Nat
  | [] => 0
  | d :: r => uptoBulk d + uptoBulkAll r
def uptoBulkEntries {H : Type} : List (Lit × DataW H) → Nat
  | [] => 0
  | x :: r => uptoBulkEntry x + uptoBulkEntries r
def uptoBulkEntry {H : Type} : Lit × DataW H → Nat
  | (.string bytes, d) => bytes.length + uptoBulk d + 1
  | (_, d) => uptoBulk d + 1
 end
def uptoSmall : (H : Type) → List (DataW H) → Bool := fun _ ds => decide (uptoBulkAll ds ≤ 1048576)
def OpenSpec.upto (s : _root_.Go.ChangeSpec) : _root_.Go.OpenSpec := { _root_.Go.OpenSpec.ofChange s with cond := some uptoSmall }

/-- 'crosswaylaw19.NeighPlays', WHERE WHAT IT READS IS OF BULK AT MOST 1048576: true; the input reads as it did. -/
def neighPlaysUptoRow : OpenClaim := { program := "ytlbkphnbpenbcaa", sum := "774cbfbdb78e58f2ba24f633dbb7afd7bc81875b34a6b3f0240ed94f598c20f8", func := "crossway/crosswaylaw19.NeighPlays", spec := "neighPlays", unfollowed := true, recurses := true, plainKeys := false, apart := false, narrowed := true }
def NeighPlaysUptoSaid : Prop := neighPlaysUptoRow.holds Try.pinned (OpenSpec.upto neighPlaysSpec)

/-- 'crosswaylaw19.NeighThrice', WHERE WHAT IT READS IS OF BULK AT MOST 1048576: true; the input reads as it did. -/
def neighThriceUptoRow : OpenClaim := { program := "ytlbkphnbpenbcaa", sum := "774cbfbdb78e58f2ba24f633dbb7afd7bc81875b34a6b3f0240ed94f598c20f8", func := "crossway/crosswaylaw19.NeighThrice", spec := "neighThrice", unfollowed := true, recurses := true, plainKeys := false, apart := false, narrowed := true }
def NeighThriceUptoSaid : Prop := neighThriceUptoRow.holds Try.pinned (OpenSpec.upto neighThriceSpec)

/-- 'crosswaylaw19.NeighAnswers', WHERE WHAT IT READS IS OF BULK AT MOST 1048576: true; the input reads as it did. -/
def neighAnswersUptoRow : OpenClaim := { program := "ytlbkphnbpenbcaa", sum := "774cbfbdb78e58f2ba24f633dbb7afd7bc81875b34a6b3f0240ed94f598c20f8", func := "crossway/crosswaylaw19.NeighAnswers", spec := "neighAnswers", unfollowed := true, recurses := true, plainKeys := false, apart := false, narrowed := true }
def NeighAnswersUptoSaid : Prop := neighAnswersUptoRow.holds Try.pinned (OpenSpec.upto neighAnswersSpec)

/-- 'crosswaylaw19.NeighAges', WHERE WHAT IT READS IS OF BULK AT MOST 1048576: true; the input reads as it did. -/
def neighAgesUptoRow : OpenClaim := { program := "ytlbkphnbpenbcaa", sum := "774cbfbdb78e58f2ba24f633dbb7afd7bc81875b34a6b3f0240ed94f598c20f8", func := "crossway/crosswaylaw19.NeighAges", spec := "neighAges", unfollowed := true, recurses := true, plainKeys := false, apart := false, narrowed := true }
def NeighAgesUptoSaid : Prop := neighAgesUptoRow.holds Try.pinned (OpenSpec.upto neighAgesSpec)

end Rows
end Go.Proofs.Ytlbkphnbpenbcaa
