/-
  prefix.ones, width, before, masks: of any numbers.
-/
import Derived.Test.YtabbclocgkhnhaaPNum
namespace Go.Proofs.Ytabbclocgkhnhaa
open Go.RowKit
set_option linter.unusedVariables false

/-- The number whose first n bits are 1. -/
def onz (n : Int) : Int := ((2 ^ 64 - 2 ^ (64 - (min n.toNat 64)) : Nat) : Int)
theorem onz_bd (n : Int) : 0 ≤ onz n ∧ onz n < 18446744073709551616 := by
  unfold onz
  have h1 : (2 : Nat) ^ (64 - (min n.toNat 64)) ≤ 2 ^ 64 := Nat.pow_le_pow_right (by decide) (by omega)
  have h2 := pw (64 - (min n.toNat 64))
  omega
theorem shl_all (j : Nat) (hj : j ≤ 64) : IntKind.u64.wrap (18446744073709551615 * 2 ^ j) = ((2 ^ 64 - 2 ^ j : Nat) : Int) := by
  have h1 : (2 : Nat) ^ j ≤ 2 ^ 64 := Nat.pow_le_pow_right (by decide) hj
  have h2 := pw j
  have e : ((2 : Int) ^ j) = ((2 ^ j : Nat) : Int) := by simp
  rw [e, IntKind.wrap_u64]
  generalize (2 : Nat) ^ j = p at *
  omega
theorem and_onz (x : Nat) (hx : N64 x) (n : Int) : bits .and .u64 (x : Int) (onz n) = ((ct x (64 - (min n.toNat 64)) : Nat) : Int) := by
  have h1 : (2 : Nat) ^ (64 - (min n.toNat 64)) ≤ 2 ^ 64 := Nat.pow_le_pow_right (by decide) (by omega)
  have h2 := pw (64 - (min n.toNat 64))
  unfold onz
  rw [u64_and_nat x _ hx (by omega), and_mask x _ hx.lt (by omega)]
theorem ret_u64 {a b : Int} (h : a = b) : Ending.returned (.int .u64 a) = .returned (.int .u64 b) := by rw [h]
set_option maxHeartbeats 1000000 in
theorem ones_any (n : Int) (w : World) :
    Calls Try.prog 79 #[.int .i64 n] w fun e w' => e = .returned (.int .u64 (onz n)) ∧ w = w' := by
  obtain ⟨y, hy⟩ : ∃ y, (if n < 0 then 0 else n) = y := ⟨_, rfl⟩
  obtain ⟨k, hk⟩ : ∃ k, (if 64 < y then 64 else y) = k := ⟨_, rfl⟩
  have hk0 : 0 ≤ k := by split at hy <;> split at hk <;> omega
  have hk1 : k ≤ 64 := by split at hy <;> split at hk <;> omega
  have hk2 : min n.toNat 64 = k.toNat := by split at hy <;> split at hk <;> omega
  have HK := Lib.hid hk2
  clear hk2
  go_enter Try.func79, Try.ntmps79
  go_wp2
  go_ret
  refine ⟨ret_u64 ?_, rfl⟩
  unfold onz
  rw [HK.out]
  rw [show 64 - k.toNat = (64 - k).toNat by omega]
  exact shl_all _ (by omega)

theorem width_at (s : Bool) (h l W : Int) (hW : (wd s : Int) = W) (w : World) :
    Calls Try.prog 74 #[adr s h l] w fun e w' => e = .returned (.int .i64 W) ∧ Below w.heap.size w w' := by
  subst hW
  cases s
  all_goals
    go_enter Try.func74, Try.ntmps74
    go_wp2
    go_ret
    exact ⟨rfl, (Below.refl _ _).alloc (Nat.le_refl _) _⟩
theorem before_at (s : Bool) (h l W : Int) (hW : (wd s : Int) = W) (w : World) :
    Calls Try.prog 78 #[adr s h l] w fun e w' => e = .returned (.int .i64 (128 - W)) ∧ Below w.heap.size w w' := by
  have h0 : 0 ≤ W := by rw [← hW]; omega
  have h1 : W ≤ 128 := by rw [← hW]; unfold wd; split <;> omega
  have H := Lib.hid (fun W' => width_at s h l W hW W')
  clear hW
  go_enter Try.func78, Try.ntmps78
  go_wp2_with fail
  refine Calls.mono (H.out _) ?_
  rintro e w1 ⟨rfl, hb⟩
  have L1 := Lib.hid (((Below.refl _ w).alloc (Nat.le_refl _) _).trans (hb.mono (by simp only [World.size_alloc]; omega)))
  clear hb
  go_wp2
  go_ret
  exact ⟨rfl, L1.out⟩
set_option maxHeartbeats 1000000 in
theorem masks_at (s : Bool) (h l b W : Int) (hW : (wd s : Int) = W) (hb0 : 0 ≤ b) (hb1 : b ≤ W) (w : World) :
    Calls Try.prog 75 #[adr s h l, .int .i64 b] w fun e w' => e = .returned (.tuple #[.int .u64 (onz (128 - W + b)), .int .u64 (onz (128 - W + b - 64))]) ∧ Below w.heap.size w w' := by
  have h0 : 0 ≤ W := by rw [← hW]; omega
  have h1 : W ≤ 128 := by rw [← hW]; unfold wd; split <;> omega
  have H := Lib.hid (fun W' => before_at s h l W hW W')
  clear hW
  go_enter Try.func75, Try.ntmps75
  go_wp2_with fail
  refine Calls.mono (H.out _) ?_
  rintro e w1 ⟨rfl, hb⟩
  have L1 := Lib.hid (((Below.refl _ w).alloc (Nat.le_refl _) _).trans (hb.mono (by simp only [World.size_alloc]; omega)))
  clear hb
  go_wp2_with fail
  refine Calls.mono (ones_any _ _) ?_
  rintro e w2 ⟨rfl, rfl⟩
  go_wp2_with fail
  refine Calls.mono (ones_any _ _) ?_
  rintro e w2 ⟨rfl, rfl⟩
  go_wp2
  go_ret2
  exact ⟨rfl, L1.out⟩
end Go.Proofs.Ytabbclocgkhnhaa
