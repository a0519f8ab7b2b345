/-
  What ip4.Options hands back, as a slice that reads, or none.
-/
import Derived.Test.YtbhddodghbhjiaaFROpt
import Derived.Test.YtbhddodghbhjiaaFKept
import Derived.Test.YtbhddodghbhjiaaFSame
import Derived.BigRegion
namespace Go.Proofs.Ytbhddodghbhjiaa
open Go.RowKit
set_option linter.unusedVariables false

def eO (r : Option (List (List UInt8))) : Int := match r with
  | some _ => 0
  | none => 50
theorem out_ro {f : Nat} {s : ByteArray} {w : World} {R : Option (List (List UInt8))} (h : Calls Try.prog f #[.string s] w (OpOut w R)) :
    Calls Try.prog f #[.string s] w fun e w' => ∃ A c, e = .returned (.tuple #[.slice A (R.getD []).length c, .int .i64 (eO R)]) ∧ RO w' A (R.getD []).length (R.getD []) ∧ Below w.heap.size w w' := by
  refine Calls.mono h ?_
  intro e w' hp
  unfold OpOut at hp
  cases R with
  | none => obtain ⟨rfl, hb⟩ := hp; exact ⟨none, 0, rfl, ⟨rfl, fun h => absurd h (by simp)⟩, hb⟩
  | some os => obtain ⟨v, rfl, ho, hb, hg⟩ := hp; obtain ⟨A, c, rfl, hro, -⟩ := own_ro rfl ho; exact ⟨A, c, rfl, hro, hb⟩
end Go.Proofs.Ytbhddodghbhjiaa
