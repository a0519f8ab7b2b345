/-
  Numbers of W bits: their first bits, what is left when all others are 0, how many first bits two of them share.
-/
import Derived.Laws.BitsAllLaws
namespace Go.Proofs.YtecgmejfkfoceaaDoor
set_option linter.unusedVariables false

theorem pw (k : Nat) : 0 < 2 ^ k := Nat.two_pow_pos k
/-- All of a number but its lowest k bits. -/
def ct (n k : Nat) : Nat := n / 2 ^ k * 2 ^ k
theorem ct_le (n k : Nat) : ct n k ≤ n := Nat.div_mul_le_self _ _
theorem ct_zero (n : Nat) : ct n 0 = n := by simp [ct]
theorem ct_ct (n k : Nat) : ct (ct n k) k = ct n k := by unfold ct; rw [Nat.mul_div_cancel _ (pw k)]
theorem ct_div (n k : Nat) : ct n k / 2 ^ k = n / 2 ^ k := by unfold ct; rw [Nat.mul_div_cancel _ (pw k)]
theorem ct_eq {n m k : Nat} : ct n k = ct m k ↔ n / 2 ^ k = m / 2 ^ k := by
  constructor
  · intro h; rw [← ct_div n, ← ct_div m, h]
  · intro h; unfold ct; rw [h]
theorem div_pow_add (n a b : Nat) : n / 2 ^ (a + b) = n / 2 ^ a / 2 ^ b := by rw [Nat.pow_add, Nat.div_div_eq_div_mul]
theorem div_mono {n m a b : Nat} (h : n / 2 ^ a = m / 2 ^ a) (hab : a ≤ b) : n / 2 ^ b = m / 2 ^ b := by
  obtain ⟨c, rfl⟩ := Nat.exists_eq_add_of_le hab
  rw [div_pow_add, div_pow_add, h]
theorem ct_lt {n k : Nat} (h : n < 2 ^ k) : ct n k = 0 := by unfold ct; rw [Nat.div_eq_of_lt h, Nat.zero_mul]
theorem ct_trans {n j k : Nat} (h : j ≤ k) : ct (ct n j) k = ct n k := by
  apply ct_eq.2
  exact div_mono (by rw [ct_div]) h

/-- The mask of the first 64 - k bits. -/
theorem and_mask (x k : Nat) (hx : x < 2 ^ 64) (hk : k ≤ 64) : x &&& (2 ^ 64 - 2 ^ k) = ct x k := by
  apply Nat.eq_of_testBit_eq
  intro i
  have e : 2 ^ 64 - 2 ^ k = 2 ^ 64 - ((2 ^ k - 1) + 1) := by have := pw k; omega
  have hlt : 2 ^ k - 1 < 2 ^ 64 := by
    have h1 : 2 ^ k ≤ 2 ^ 64 := Nat.pow_le_pow_right (by decide) hk
    have := pw k; omega
  unfold ct
  rw [Nat.testBit_and, e, Nat.testBit_two_pow_sub_succ hlt, Nat.testBit_two_pow_sub_one, ← Nat.shiftRight_eq_div_pow, ← Nat.shiftLeft_eq, Nat.testBit_shiftLeft, Nat.testBit_shiftRight]
  by_cases h1 : i < k
  · simp [h1]; omega
  · have h2 : k ≤ i := by omega
    rw [show k + (i - k) = i by omega]
    by_cases h3 : i < 64
    · simp [h1, h2, h3]
    · have : x.testBit i = false := Nat.testBit_lt_two_pow (Nat.lt_of_lt_of_le hx (Nat.pow_le_pow_right (by decide) (by omega)))
      simp [this]

/-- How many of the lowest k bits, from the highest on, two numbers share. -/
def cmn : Nat → Nat → Nat → Nat
  | 0, _, _ => 0
  | k + 1, n, m => if n / 2 ^ k % 2 = m / 2 ^ k % 2 then cmn k n m + 1 else 0
theorem cmn_succ (k n m : Nat) : cmn (k + 1) n m = if n / 2 ^ k % 2 = m / 2 ^ k % 2 then cmn k n m + 1 else 0 := rfl
theorem cmn_le : ∀ k n m, cmn k n m ≤ k
  | 0, _, _ => Nat.le_refl _
  | k + 1, n, m => by
    unfold cmn
    split
    · have := cmn_le k n m; omega
    · omega
theorem dv_step (n k : Nat) : n / 2 ^ k = n / 2 ^ (k + 1) * 2 + n / 2 ^ k % 2 := by
  rw [Nat.pow_succ, ← Nat.div_div_eq_div_mul]; omega
theorem div_bit {n m k : Nat} (h : n / 2 ^ (k + 1) = m / 2 ^ (k + 1)) : n / 2 ^ k = m / 2 ^ k ↔ n / 2 ^ k % 2 = m / 2 ^ k % 2 := by
  constructor
  · intro e; rw [e]
  · intro e; rw [dv_step n k, dv_step m k, h, e]
/-- As many first bits are the same just if the numbers that they make are. -/
theorem cmn_ge : ∀ (k n m : Nat), n / 2 ^ k = m / 2 ^ k → ∀ b, b ≤ k → (b ≤ cmn k n m ↔ n / 2 ^ (k - b) = m / 2 ^ (k - b))
  | 0, n, m, h, b, hb => by
    obtain rfl : b = 0 := by omega
    simpa [cmn] using h
  | k + 1, n, m, h, b, hb => by
    cases b with
    | zero => simpa using h
    | succ b =>
      unfold cmn
      rw [show k + 1 - (b + 1) = k - b by omega]
      by_cases e : n / 2 ^ k % 2 = m / 2 ^ k % 2
      · rw [if_pos e]
        have h1 := (div_bit h).2 e
        have := cmn_ge k n m h1 b (by omega)
        omega
      · rw [if_neg e]
        refine ⟨fun x => by omega, fun x => ?_⟩
        exact absurd ((div_bit h).1 (div_mono x (by omega))) e
theorem cmn_small (k j n m : Nat) (hn : n < 2 ^ k) (hm : m < 2 ^ k) : cmn (k + j) n m = cmn k n m + j := by
  induction j with
  | zero => rfl
  | succ j ih =>
    show cmn (k + j + 1) n m = _
    rw [cmn_succ]
    have e : 2 ^ k ≤ 2 ^ (k + j) := Nat.pow_le_pow_right (by decide) (by omega)
    rw [Nat.div_eq_of_lt (Nat.lt_of_lt_of_le hn e), Nat.div_eq_of_lt (Nat.lt_of_lt_of_le hm e), if_pos rfl, ih]
    omega
theorem cmn_self (k n : Nat) : cmn k n n = k := by
  induction k with
  | zero => rfl
  | succ k ih => unfold cmn; rw [if_pos rfl, ih]
theorem cmn_comm (k n m : Nat) : cmn k n m = cmn k m n := by
  induction k with
  | zero => rfl
  | succ k ih =>
    unfold cmn
    by_cases h : n / 2 ^ k % 2 = m / 2 ^ k % 2
    · rw [if_pos h, if_pos h.symm, ih]
    · rw [if_neg h, if_neg (fun e => h e.symm)]

/-- Two numbers of 64 bits, one behind the other. -/
def nm (h l : Nat) : Nat := h * 2 ^ 64 + l
theorem nm_ct (h l k : Nat) (hl : l < 2 ^ 64) : ct (nm h l) k = nm (ct h (k - 64)) (ct l k) := by
  unfold nm
  rcases Nat.lt_or_ge k 64 with hk | hk
  · rw [show k - 64 = 0 by omega, ct_zero]
    unfold ct
    have e : (2 : Nat) ^ 64 = 2 ^ (64 - k) * 2 ^ k := by rw [← Nat.pow_add]; congr 1; omega
    have e2 : h * 2 ^ 64 = 2 ^ k * (h * 2 ^ (64 - k)) := by rw [e, Nat.mul_comm (2 ^ (64 - k)), ← Nat.mul_assoc, Nat.mul_comm h, Nat.mul_assoc]
    rw [e2, Nat.mul_add_div (pw k), Nat.add_mul, Nat.mul_comm (2 ^ k) (h * 2 ^ (64 - k))]
  · have hl0 : ct l k = 0 := ct_lt (Nat.lt_of_lt_of_le hl (Nat.pow_le_pow_right (by decide) hk))
    rw [hl0]
    obtain ⟨c, rfl⟩ := Nat.exists_eq_add_of_le hk
    rw [show 64 + c - 64 = c by omega]
    unfold ct
    rw [div_pow_add, Nat.mul_comm h, Nat.mul_add_div (pw 64), Nat.div_eq_of_lt hl, Nat.add_zero, Nat.add_zero, Nat.pow_add]
    rw [Nat.mul_comm (2 ^ 64) (2 ^ c), ← Nat.mul_assoc]
theorem nm_inj {h l h' l' : Nat} (hl : l < 2 ^ 64) (hl' : l' < 2 ^ 64) : nm h l = nm h' l' ↔ h = h' ∧ l = l' := by
  unfold nm
  refine ⟨fun e => ?_, fun ⟨a, b⟩ => by rw [a, b]⟩
  omega
theorem nm_bit_hi (h l k : Nat) (hl : l < 2 ^ 64) : nm h l / 2 ^ (64 + k) = h / 2 ^ k := by
  unfold nm
  rw [div_pow_add, Nat.mul_comm h, Nat.mul_add_div (pw 64), Nat.div_eq_of_lt hl, Nat.add_zero]
theorem nm_bit_lo (h l k : Nat) (hk : k < 64) : nm h l / 2 ^ k % 2 = l / 2 ^ k % 2 := by
  unfold nm
  have e : (2 : Nat) ^ 64 = 2 ^ (64 - k) * 2 ^ k := by rw [← Nat.pow_add]; congr 1; omega
  have e2 : h * 2 ^ 64 = 2 ^ k * (h * 2 ^ (64 - k)) := by rw [e, Nat.mul_comm (2 ^ (64 - k)), ← Nat.mul_assoc, Nat.mul_comm h, Nat.mul_assoc]
  have e3 : (2 : Nat) ^ (64 - k) = 2 * 2 ^ (64 - k - 1) := by rw [← Nat.pow_succ']; congr 1; omega
  rw [e2, Nat.mul_add_div (pw k), e3, Nat.mul_left_comm, Nat.mul_add_mod]
end Go.Proofs.YtecgmejfkfoceaaDoor
