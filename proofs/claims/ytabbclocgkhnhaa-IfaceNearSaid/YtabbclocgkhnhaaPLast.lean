/-
  prefix.last of a valid range.
-/
import Derived.Test.YtabbclocgkhnhaaPBt
namespace Go.Proofs.Ytabbclocgkhnhaa
open Go.RowKit
set_option linter.unusedVariables false

theorem xor_mask (k : Nat) (hk : k ≤ 64) : (2 ^ 64 - 1) ^^^ (2 ^ 64 - 2 ^ k) = 2 ^ k - 1 := by
  apply Nat.eq_of_testBit_eq
  intro i
  have e : 2 ^ 64 - 2 ^ k = 2 ^ 64 - ((2 ^ k - 1) + 1) := by have := pw k; omega
  have hlt : 2 ^ k - 1 < 2 ^ 64 := by
    have h1 : 2 ^ k ≤ 2 ^ 64 := Nat.pow_le_pow_right (by decide) hk
    have := pw k; omega
  rw [Nat.testBit_xor, e, Nat.testBit_two_pow_sub_succ hlt, Nat.testBit_two_pow_sub_one, Nat.testBit_two_pow_sub_one]
  by_cases h1 : i < k
  · have h2 : i < 64 := by omega
    simp [h1, h2]
  · by_cases h2 : i < 64
    · simp [h1, h2]
    · simp [h1, h2]
theorem cell_alloc_old {W : World} {o : Obj} {b i : Nat} (h : b < W.heap.size) : (W.alloc o).cell? ⟨b, i, none⟩ = W.cell? ⟨b, i, none⟩ :=
  ((Below.refl W.heap.size W).alloc (Nat.le_refl _) o).cell (p := ⟨b, i, none⟩) h
theorem u64max : IntKind.u64.max = ((2 ^ 64 - 1 : Nat) : Int) := by decide
theorem onz_not (n : Int) (k : Nat) (hk : 64 - (min n.toNat 64) = k) (x : Nat) (hx : N64 x) (e : ct x k = x) :
    bits .or .u64 (x : Int) (bits .xor .u64 IntKind.u64.max (onz n)) = ((x + (2 ^ k - 1) : Nat) : Int) := by
  have h1 : (2 : Nat) ^ k ≤ 2 ^ 64 := Nat.pow_le_pow_right (by decide) (by omega)
  have h2 := pw k
  unfold onz
  rw [hk, u64max, u64_xor_nat _ _ (by decide) (by omega), xor_mask k (by omega), u64_or_nat x _ hx (by omega), or_rest x k e]

end Go.Proofs.Ytabbclocgkhnhaa
