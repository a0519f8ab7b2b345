/-
  tally's Sum and Check of one slice.
-/
import Derived.Test.YtljdebpemdjliaaSum
namespace Go.Proofs.Ytljdebpemdjliaa
open Go.RowKit
set_option linter.unusedVariables false

theorem sum_one (w : World) (B : Nat) (A : Option Addr) (n c : Nat) (zs : List Int) (hz : RI .u8 w B A n zs) (hB : B ≤ w.heap.size) (hn : n ≤ 4611686018427387904) :
    Calls Try.prog 62 #[.slice (some ⟨w.heap.size, 0, none⟩) 1 1] (w.alloc (.cells #[.slice A n c] 39)) fun e w' => e = .returned (.int .u16 (fo (tot 0 zs))) ∧ w.alloc (.cells #[.slice A n c] 39) = w' := by
  have hr : RS (w.alloc (.cells #[.slice A n c] 39)) (some ⟨w.heap.size, 0, none⟩) 1 [zs] := by
    refine ⟨rfl, fun _ => ⟨_, _, rfl, fun j ys hj => ?_⟩⟩
    rcases j with _ | j
    · obtain rfl : zs = ys := by simpa using hj
      exact ⟨A, n, c, B, by rw [(Blk.new _ _ _).cell]; rfl, hz.alloc hB _⟩
    · simp at hj
  have h := sum_any _ _ 1 1 _ hr (by decide) (by simp [hz.1]; exact hn)
  simpa using h
end Go.Proofs.Ytljdebpemdjliaa
