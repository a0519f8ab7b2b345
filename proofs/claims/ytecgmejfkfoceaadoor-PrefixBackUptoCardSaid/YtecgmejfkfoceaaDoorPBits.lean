/-
  A number's bits one by one, and the number that bits make.
-/
import Derived.Test.YtecgmejfkfoceaaDoorPNum
namespace Go.Proofs.YtecgmejfkfoceaaDoor
set_option linter.unusedVariables false

/-- Bit i of a number of W bits, the highest first. -/
def bt (n W i : Nat) : Nat := n / 2 ^ (W - 1 - i) % 2
theorem bt_le (n W i : Nat) : bt n W i ≤ 1 := by unfold bt; omega
theorem bt_ct (n W b i : Nat) (hb : b ≤ W) (hi : i < W) : bt (ct n (W - b)) W i = if i < b then bt n W i else 0 := by
  unfold bt
  by_cases h : i < b
  · rw [if_pos h, div_mono (ct_div n (W - b)) (by omega)]
  · rw [if_neg h]
    obtain ⟨c, hc⟩ := Nat.exists_eq_add_of_le (show W - 1 - i + 1 ≤ W - b by omega)
    unfold ct
    rw [hc, Nat.pow_add, Nat.pow_succ]
    obtain ⟨Q, hQ⟩ : ∃ Q, Q = n / (2 ^ (W - 1 - i) * 2 * 2 ^ c) := ⟨_, rfl⟩
    rw [← hQ, show Q * (2 ^ (W - 1 - i) * 2 * 2 ^ c) = 2 ^ (W - 1 - i) * (2 * (Q * 2 ^ c)) by simp only [Nat.mul_assoc, Nat.mul_left_comm, Nat.mul_comm], Nat.mul_div_cancel_left _ (pw _), Nat.mul_mod_right]
theorem ct_up {n W b : Nat} (hb : b < W) : ct (ct n (W - b) + 2 ^ (W - b - 1)) (W - b - 1) = ct n (W - b) + 2 ^ (W - b - 1) := by
  obtain ⟨k, hk⟩ : ∃ k, k = W - b - 1 := ⟨_, rfl⟩
  rw [← hk, show W - b = k + 1 by omega]
  unfold ct
  rw [Nat.pow_succ, Nat.mul_comm (2 ^ k) 2, ← Nat.mul_assoc, ← Nat.succ_mul, Nat.mul_div_cancel _ (pw k)]
theorem bt_up (n W b i : Nat) (hb : b < W) (hi : i < W) : bt (ct n (W - b) + 2 ^ (W - b - 1)) W i = if i < b then bt n W i else if i = b then 1 else 0 := by
  by_cases h : i < b
  · rw [if_pos h]
    have h1 := bt_ct n W b i (by omega) hi
    rw [if_pos h] at h1
    rw [← h1]
    unfold bt
    obtain ⟨c, hc⟩ := Nat.exists_eq_add_of_le (show W - b ≤ W - 1 - i by omega)
    rw [hc, div_pow_add, div_pow_add]
    congr 2
    unfold ct
    rw [Nat.mul_comm (n / _), Nat.mul_add_div (pw _), Nat.div_eq_of_lt (Nat.pow_lt_pow_right (by decide) (by omega)), Nat.add_zero, Nat.mul_div_cancel_left _ (pw _)]
  · rw [if_neg h]
    by_cases h2 : i = b
    · rw [if_pos h2]
      subst h2
      unfold bt ct
      obtain ⟨k, hk⟩ : ∃ k, k = W - i - 1 := ⟨_, rfl⟩
      rw [show W - i = k + 1 by omega, show W - 1 - i = k by omega, show k + 1 - 1 = k by omega]
      rw [Nat.pow_succ, Nat.mul_comm (2 ^ k) 2, ← Nat.mul_assoc, ← Nat.succ_mul, Nat.mul_div_cancel _ (pw k)]
      omega
    · rw [if_neg h2]
      have h1 := bt_ct (ct n (W - b) + 2 ^ (W - b - 1)) W (b + 1) i (by omega) hi
      rw [if_neg (by omega), show W - (b + 1) = W - b - 1 by omega, ct_up hb] at h1
      exact h1

/-- The number that bits make. -/
def f2 (zs : List Int) : Int := zs.foldl (fun a z => a * 2 + z) 0
theorem f2_snoc (zs : List Int) (z : Int) : f2 (zs ++ [z]) = f2 zs * 2 + z := by unfold f2; rw [List.foldl_append]; rfl
/-- Bits of a number, as a list. -/
def IsBits (n W : Nat) (zs : List Int) : Prop := zs.length = W ∧ ∀ i, i < W → zs[i]? = some ((bt n W i : Nat) : Int)
theorem f2_take {n W : Nat} {zs : List Int} (h : IsBits n W zs) (hn : n < 2 ^ W) : ∀ j, j ≤ W → f2 (zs.take j) = ((n / 2 ^ (W - j) : Nat) : Int)
  | 0, _ => by rw [List.take_zero, Nat.sub_zero, Nat.div_eq_of_lt hn]; rfl
  | j + 1, hj => by
    obtain ⟨h1, h2⟩ := h
    have e : zs.take (j + 1) = zs.take j ++ [((bt n W j : Nat) : Int)] := by
      rw [List.take_add_one, h2 j (by omega)]; rfl
    rw [e, f2_snoc, f2_take ⟨h1, h2⟩ hn j (by omega)]
    unfold bt
    have := dv_step n (W - 1 - j)
    rw [show W - 1 - j + 1 = W - j by omega] at this
    rw [show W - (j + 1) = W - 1 - j by omega, this]
    omega
theorem f2_all {n W : Nat} {zs : List Int} (h : IsBits n W zs) (hn : n < 2 ^ W) : f2 zs = (n : Int) := by
  have := f2_take h hn W (Nat.le_refl _)
  rw [List.take_of_length_le (by rw [h.1]; exact Nat.le_refl _), Nat.sub_self, Nat.pow_zero, Nat.div_one] at this
  exact this
theorem f2_hi {h l : Nat} {zs : List Int} (hb : IsBits (nm h l) 128 zs) (hh : h < 2 ^ 64) (hl : l < 2 ^ 64) : f2 (zs.take 64) = (h : Int) := by
  have e : nm h l < 2 ^ 128 := by unfold nm; omega
  rw [f2_take hb e 64 (by decide), show 128 - 64 = 64 + 0 by decide, nm_bit_hi h l 0 hl, Nat.pow_zero, Nat.div_one]
theorem f2_lo {h l : Nat} {zs : List Int} (hb : IsBits (nm h l) 128 zs) (hl : l < 2 ^ 64) : f2 (zs.drop 64) = (l : Int) := by
  refine f2_all (W := 64) ⟨by rw [List.length_drop, hb.1], fun i hi => ?_⟩ hl
  rw [List.getElem?_drop, hb.2 (64 + i) (by omega)]
  unfold bt
  rw [show 128 - 1 - (64 + i) = 64 - 1 - i by omega, nm_bit_lo h l _ (by omega)]

/-- The last number that has the same bits but the lowest k. -/
theorem or_rest (x k : Nat) (hx : ct x k = x) : x ||| (2 ^ k - 1) = x + (2 ^ k - 1) :=
  nat_join k x _ (by rw [← hx]; unfold ct; exact Nat.mul_mod_left _ _) (by have := pw k; omega)
theorem nm_last (h l k : Nat) (hl : l < 2 ^ 64) (hk : k ≤ 128) (e1 : ct h (k - 64) = h) (e2 : ct l k = l) : nm (h + (2 ^ (k - 64) - 1)) (l + (2 ^ (min k 64) - 1)) = nm h l + (2 ^ k - 1) := by
  unfold nm
  rcases Nat.lt_or_ge k 64 with hk | hk
  · rw [show k - 64 = 0 by omega, show min k 64 = k by omega]
    omega
  · have hl0 : l = 0 := by
      rw [← e2]; exact ct_lt (Nat.lt_of_lt_of_le hl (Nat.pow_le_pow_right (by decide) hk))
    obtain ⟨c, rfl⟩ := Nat.exists_eq_add_of_le hk
    rw [show 64 + c - 64 = c by omega, show min (64 + c) 64 = 64 by omega, hl0, Nat.pow_add]
    have := pw c
    rw [Nat.add_mul, Nat.sub_mul, Nat.mul_comm (2 ^ 64) (2 ^ c)]
    have : 2 ^ 64 ≤ 2 ^ c * 2 ^ 64 := Nat.le_mul_of_pos_left _ this
    omega
theorem ct_last {n k : Nat} (hk : 0 < k) (e : ct n k = n) : ct (n + (2 ^ k - 1)) (k - 1) = n + 2 ^ (k - 1) := by
  obtain ⟨j, rfl⟩ : ∃ j, k = j + 1 := ⟨k - 1, by omega⟩
  rw [show j + 1 - 1 = j by omega]
  rw [← e]
  unfold ct
  obtain ⟨q, hq⟩ : ∃ q, q = n / 2 ^ (j + 1) := ⟨_, rfl⟩
  rw [← hq]
  have := pw j
  have e3 : q * 2 ^ (j + 1) + (2 ^ (j + 1) - 1) = 2 ^ j * (2 * q + 1) + (2 ^ j - 1) := by
    have a1 : q * 2 ^ (j + 1) = q * 2 ^ j * 2 := by rw [Nat.pow_succ, Nat.mul_assoc]
    have a2 : 2 ^ j * (2 * q + 1) = q * 2 ^ j * 2 + 2 ^ j := by rw [Nat.mul_add, Nat.mul_one, Nat.mul_comm 2 q, ← Nat.mul_assoc, Nat.mul_comm (2 ^ j) q]
    have a3 : (2 : Nat) ^ (j + 1) = 2 ^ j * 2 := Nat.pow_succ _ _
    omega
  rw [e3, Nat.mul_add_div this, Nat.div_eq_of_lt (by omega), Nat.add_zero, Nat.add_mul, Nat.one_mul, Nat.pow_succ]
  rw [Nat.mul_comm 2 q, Nat.mul_assoc, Nat.mul_comm 2 (2 ^ j)]
theorem ct_step {n k : Nat} (e : ct n k = n) : ct n (k - 1) = n := by
  have h : ct (ct n k) (k - 1) = ct n k := by
    rcases Nat.eq_zero_or_pos k with rfl | hk
    · rw [ct_zero, ct_zero]
    · obtain ⟨j, rfl⟩ : ∃ j, k = j + 1 := ⟨k - 1, by omega⟩
      rw [show j + 1 - 1 = j by omega]
      unfold ct
      rw [Nat.pow_succ, Nat.mul_comm (2 ^ j) 2, ← Nat.mul_assoc, Nat.mul_div_cancel _ (pw j)]
  rw [e] at h
  exact h
end Go.Proofs.YtecgmejfkfoceaaDoor
