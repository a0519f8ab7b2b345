/-
  What the laws of nd begin with.
-/
import Derived.Test.YtnligeelbajnpaaNAw
import Derived.Test.YtnligeelbajnpaaNFrm
namespace Go.Proofs.Ytnligeelbajnpaa
open Go.RowKit
set_option linter.unusedVariables false

/-- The two variables that a law begins with. -/
theorem nd_args (x : Sol) (y : Adv) (w : World) : ∃ W0, W0 = (w.alloc (.cells (solC x) 27)).alloc (.cells (advC y) 29) ∧ Blk W0 w.heap.size 27 (solC x) ∧ Blk W0 (w.heap.size + 1) 29 (advC y) ∧ Below w.heap.size w W0 := by
  refine ⟨_, rfl, (Blk.new w _ _).alloc _, ?_, ((Below.refl _ w).alloc (Nat.le_refl _) _).alloc (by simp) _⟩
  have := Blk.new (w.alloc (.cells (solC x) 27)) 29 (advC y)
  simpa using this
theorem ask_size (x : Sol) : (askR x).1.d.size ≤ 24 := by
  unfold askR
  split
  · show (strOfNums _).size ≤ 24; rw [strOfNums_size, datN_len]; split <;> omega
  · exact Nat.zero_le _
theorem tel_size (x : Adv) : (telR x).1.d.size ≤ 24 := by
  unfold telR
  split
  · show (strOfNums _).size ≤ 24; rw [strOfNums_size, datN_len]; split <;> omega
  · exact Nat.zero_le _
theorem ask_r (x : Sol) : (askR x).1.r = rstA false false false := by
  unfold askR
  split <;> rfl
theorem tel_r (x : Adv) : ∃ p a o, (telR x).1.r = rstA p a o := by
  unfold telR
  split
  · exact ⟨_, _, _, rfl⟩
  · exact ⟨false, false, false, rfl⟩
end Go.Proofs.Ytnligeelbajnpaa
