/-
  Several texts in one: PNum, POnes, POf, PHold, PLs.
-/
import Derived.Laws.BitsAllLaws
import Derived.Test.YtjlmgkdieffjcaaDoorValid

namespace Go.Proofs.YtjlmgkdieffjcaaDoor
set_option linter.unusedVariables false

theorem pw (k : Nat) : 0 < 2 ^ k := Nat.two_pow_pos k
/-- All of a number but its lowest k bits. -/
def ct (n k : Nat) : Nat := n / 2 ^ k * 2 ^ k
theorem ct_le (n k : Nat) : ct n k ≤ n := Nat.div_mul_le_self _ _
theorem ct_zero (n : Nat) : ct n 0 = n := by simp [ct]
theorem ct_ct (n k : Nat) : ct (ct n k) k = ct n k := by unfold ct; rw [Nat.mul_div_cancel _ (pw k)]
theorem ct_div (n k : Nat) : ct n k / 2 ^ k = n / 2 ^ k := by unfold ct; rw [Nat.mul_div_cancel _ (pw k)]
theorem ct_eq {n m k : Nat} : ct n k = ct m k ↔ n / 2 ^ k = m / 2 ^ k := by
  constructor
  · intro h; rw [← ct_div n, ← ct_div m, h]
  · intro h; unfold ct; rw [h]
theorem div_pow_add (n a b : Nat) : n / 2 ^ (a + b) = n / 2 ^ a / 2 ^ b := by rw [Nat.pow_add, Nat.div_div_eq_div_mul]
theorem div_mono {n m a b : Nat} (h : n / 2 ^ a = m / 2 ^ a) (hab : a ≤ b) : n / 2 ^ b = m / 2 ^ b := by
  obtain ⟨c, rfl⟩ := Nat.exists_eq_add_of_le hab
  rw [div_pow_add, div_pow_add, h]
theorem ct_lt {n k : Nat} (h : n < 2 ^ k) : ct n k = 0 := by unfold ct; rw [Nat.div_eq_of_lt h, Nat.zero_mul]
theorem ct_trans {n j k : Nat} (h : j ≤ k) : ct (ct n j) k = ct n k := by
  apply ct_eq.2
  exact div_mono (by rw [ct_div]) h

/-- The mask of the first 64 - k bits. -/
theorem and_mask (x k : Nat) (hx : x < 2 ^ 64) (hk : k ≤ 64) : x &&& (2 ^ 64 - 2 ^ k) = ct x k := by
  apply Nat.eq_of_testBit_eq
  intro i
  have e : 2 ^ 64 - 2 ^ k = 2 ^ 64 - ((2 ^ k - 1) + 1) := by have := pw k; omega
  have hlt : 2 ^ k - 1 < 2 ^ 64 := by
    have h1 : 2 ^ k ≤ 2 ^ 64 := Nat.pow_le_pow_right (by decide) hk
    have := pw k; omega
  unfold ct
  rw [Nat.testBit_and, e, Nat.testBit_two_pow_sub_succ hlt, Nat.testBit_two_pow_sub_one, ← Nat.shiftRight_eq_div_pow, ← Nat.shiftLeft_eq, Nat.testBit_shiftLeft, Nat.testBit_shiftRight]
  by_cases h1 : i < k
  · simp [h1]; omega
  · have h2 : k ≤ i := by omega
    rw [show k + (i - k) = i by omega]
    by_cases h3 : i < 64
    · simp [h1, h2, h3]
    · have : x.testBit i = false := Nat.testBit_lt_two_pow (Nat.lt_of_lt_of_le hx (Nat.pow_le_pow_right (by decide) (by omega)))
      simp [this]

/-- How many of the lowest k bits, from the highest on, two numbers share. -/
def cmn : Nat → Nat → Nat → Nat
  | 0, _, _ => 0
  | k + 1, n, m => if n / 2 ^ k % 2 = m / 2 ^ k % 2 then cmn k n m + 1 else 0
theorem cmn_succ (k n m : Nat) : cmn (k + 1) n m = if n / 2 ^ k % 2 = m / 2 ^ k % 2 then cmn k n m + 1 else 0 := rfl
theorem cmn_le : ∀ k n m, cmn k n m ≤ k
  | 0, _, _ => Nat.le_refl _
  | k + 1, n, m => by
    unfold cmn
    split
    · have := cmn_le k n m; omega
    · omega
theorem dv_step (n k : Nat) : n / 2 ^ k = n / 2 ^ (k + 1) * 2 + n / 2 ^ k % 2 := by
  rw [Nat.pow_succ, ← Nat.div_div_eq_div_mul]; omega
theorem div_bit {n m k : Nat} (h : n / 2 ^ (k + 1) = m / 2 ^ (k + 1)) : n / 2 ^ k = m / 2 ^ k ↔ n / 2 ^ k % 2 = m / 2 ^ k % 2 := by
  constructor
  · intro e; rw [e]
  · intro e; rw [dv_step n k, dv_step m k, h, e]
/-- As many first bits are the same just if the numbers that they make are. -/
theorem cmn_ge : ∀ (k n m : Nat), n / 2 ^ k = m / 2 ^ k → ∀ b, b ≤ k → (b ≤ cmn k n m ↔ n / 2 ^ (k - b) = m / 2 ^ (k - b))
  | 0, n, m, h, b, hb => by
    obtain rfl : b = 0 := by omega
    simpa [cmn] using h
  | k + 1, n, m, h, b, hb => by
    cases b with
    | zero => simpa using h
    | succ b =>
      unfold cmn
      rw [show k + 1 - (b + 1) = k - b by omega]
      by_cases e : n / 2 ^ k % 2 = m / 2 ^ k % 2
      · rw [if_pos e]
        have h1 := (div_bit h).2 e
        have := cmn_ge k n m h1 b (by omega)
        omega
      · rw [if_neg e]
        refine ⟨fun x => by omega, fun x => ?_⟩
        exact absurd ((div_bit h).1 (div_mono x (by omega))) e
theorem cmn_small (k j n m : Nat) (hn : n < 2 ^ k) (hm : m < 2 ^ k) : cmn (k + j) n m = cmn k n m + j := by
  induction j with
  | zero => rfl
  | succ j ih =>
    show cmn (k + j + 1) n m = _
    rw [cmn_succ]
    have e : 2 ^ k ≤ 2 ^ (k + j) := Nat.pow_le_pow_right (by decide) (by omega)
    rw [Nat.div_eq_of_lt (Nat.lt_of_lt_of_le hn e), Nat.div_eq_of_lt (Nat.lt_of_lt_of_le hm e), if_pos rfl, ih]
    omega
theorem cmn_self (k n : Nat) : cmn k n n = k := by
  induction k with
  | zero => rfl
  | succ k ih => unfold cmn; rw [if_pos rfl, ih]
theorem cmn_comm (k n m : Nat) : cmn k n m = cmn k m n := by
  induction k with
  | zero => rfl
  | succ k ih =>
    unfold cmn
    by_cases h : n / 2 ^ k % 2 = m / 2 ^ k % 2
    · rw [if_pos h, if_pos h.symm, ih]
    · rw [if_neg h, if_neg (fun e => h e.symm)]

/-- Two numbers of 64 bits, one behind the other. -/
def nm (h l : Nat) : Nat := h * 2 ^ 64 + l
theorem nm_ct (h l k : Nat) (hl : l < 2 ^ 64) : ct (nm h l) k = nm (ct h (k - 64)) (ct l k) := by
  unfold nm
  rcases Nat.lt_or_ge k 64 with hk | hk
  · rw [show k - 64 = 0 by omega, ct_zero]
    unfold ct
    have e : (2 : Nat) ^ 64 = 2 ^ (64 - k) * 2 ^ k := by rw [← Nat.pow_add]; congr 1; omega
    have e2 : h * 2 ^ 64 = 2 ^ k * (h * 2 ^ (64 - k)) := by rw [e, Nat.mul_comm (2 ^ (64 - k)), ← Nat.mul_assoc, Nat.mul_comm h, Nat.mul_assoc]
    rw [e2, Nat.mul_add_div (pw k), Nat.add_mul, Nat.mul_comm (2 ^ k) (h * 2 ^ (64 - k))]
  · have hl0 : ct l k = 0 := ct_lt (Nat.lt_of_lt_of_le hl (Nat.pow_le_pow_right (by decide) hk))
    rw [hl0]
    obtain ⟨c, rfl⟩ := Nat.exists_eq_add_of_le hk
    rw [show 64 + c - 64 = c by omega]
    unfold ct
    rw [div_pow_add, Nat.mul_comm h, Nat.mul_add_div (pw 64), Nat.div_eq_of_lt hl, Nat.add_zero, Nat.add_zero, Nat.pow_add]
    rw [Nat.mul_comm (2 ^ 64) (2 ^ c), ← Nat.mul_assoc]
theorem nm_inj {h l h' l' : Nat} (hl : l < 2 ^ 64) (hl' : l' < 2 ^ 64) : nm h l = nm h' l' ↔ h = h' ∧ l = l' := by
  unfold nm
  refine ⟨fun e => ?_, fun ⟨a, b⟩ => by rw [a, b]⟩
  omega
theorem nm_bit_hi (h l k : Nat) (hl : l < 2 ^ 64) : nm h l / 2 ^ (64 + k) = h / 2 ^ k := by
  unfold nm
  rw [div_pow_add, Nat.mul_comm h, Nat.mul_add_div (pw 64), Nat.div_eq_of_lt hl, Nat.add_zero]
theorem nm_bit_lo (h l k : Nat) (hk : k < 64) : nm h l / 2 ^ k % 2 = l / 2 ^ k % 2 := by
  unfold nm
  have e : (2 : Nat) ^ 64 = 2 ^ (64 - k) * 2 ^ k := by rw [← Nat.pow_add]; congr 1; omega
  have e2 : h * 2 ^ 64 = 2 ^ k * (h * 2 ^ (64 - k)) := by rw [e, Nat.mul_comm (2 ^ (64 - k)), ← Nat.mul_assoc, Nat.mul_comm h, Nat.mul_assoc]
  have e3 : (2 : Nat) ^ (64 - k) = 2 * 2 ^ (64 - k - 1) := by rw [← Nat.pow_succ']; congr 1; omega
  rw [e2, Nat.mul_add_div (pw k), e3, Nat.mul_left_comm, Nat.mul_add_mod]

/-- Bit i of a number of W bits, the highest first. -/
def bt (n W i : Nat) : Nat := n / 2 ^ (W - 1 - i) % 2
theorem bt_le (n W i : Nat) : bt n W i ≤ 1 := by unfold bt; omega
theorem bt_ct (n W b i : Nat) (hb : b ≤ W) (hi : i < W) : bt (ct n (W - b)) W i = if i < b then bt n W i else 0 := by
  unfold bt
  by_cases h : i < b
  · rw [if_pos h, div_mono (ct_div n (W - b)) (by omega)]
  · rw [if_neg h]
    obtain ⟨c, hc⟩ := Nat.exists_eq_add_of_le (show W - 1 - i + 1 ≤ W - b by omega)
    unfold ct
    rw [hc, Nat.pow_add, Nat.pow_succ]
    obtain ⟨Q, hQ⟩ : ∃ Q, Q = n / (2 ^ (W - 1 - i) * 2 * 2 ^ c) := ⟨_, rfl⟩
    rw [← hQ, show Q * (2 ^ (W - 1 - i) * 2 * 2 ^ c) = 2 ^ (W - 1 - i) * (2 * (Q * 2 ^ c)) by simp only [Nat.mul_assoc, Nat.mul_left_comm, Nat.mul_comm], Nat.mul_div_cancel_left _ (pw _), Nat.mul_mod_right]
theorem ct_up {n W b : Nat} (hb : b < W) : ct (ct n (W - b) + 2 ^ (W - b - 1)) (W - b - 1) = ct n (W - b) + 2 ^ (W - b - 1) := by
  obtain ⟨k, hk⟩ : ∃ k, k = W - b - 1 := ⟨_, rfl⟩
  rw [← hk, show W - b = k + 1 by omega]
  unfold ct
  rw [Nat.pow_succ, Nat.mul_comm (2 ^ k) 2, ← Nat.mul_assoc, ← Nat.succ_mul, Nat.mul_div_cancel _ (pw k)]
theorem bt_up (n W b i : Nat) (hb : b < W) (hi : i < W) : bt (ct n (W - b) + 2 ^ (W - b - 1)) W i = if i < b then bt n W i else if i = b then 1 else 0 := by
  by_cases h : i < b
  · rw [if_pos h]
    have h1 := bt_ct n W b i (by omega) hi
    rw [if_pos h] at h1
    rw [← h1]
    unfold bt
    obtain ⟨c, hc⟩ := Nat.exists_eq_add_of_le (show W - b ≤ W - 1 - i by omega)
    rw [hc, div_pow_add, div_pow_add]
    congr 2
    unfold ct
    rw [Nat.mul_comm (n / _), Nat.mul_add_div (pw _), Nat.div_eq_of_lt (Nat.pow_lt_pow_right (by decide) (by omega)), Nat.add_zero, Nat.mul_div_cancel_left _ (pw _)]
  · rw [if_neg h]
    by_cases h2 : i = b
    · rw [if_pos h2]
      subst h2
      unfold bt ct
      obtain ⟨k, hk⟩ : ∃ k, k = W - i - 1 := ⟨_, rfl⟩
      rw [show W - i = k + 1 by omega, show W - 1 - i = k by omega, show k + 1 - 1 = k by omega]
      rw [Nat.pow_succ, Nat.mul_comm (2 ^ k) 2, ← Nat.mul_assoc, ← Nat.succ_mul, Nat.mul_div_cancel _ (pw k)]
      omega
    · rw [if_neg h2]
      have h1 := bt_ct (ct n (W - b) + 2 ^ (W - b - 1)) W (b + 1) i (by omega) hi
      rw [if_neg (by omega), show W - (b + 1) = W - b - 1 by omega, ct_up hb] at h1
      exact h1

/-- The number that bits make. -/
def f2 (zs : List Int) : Int := zs.foldl (fun a z => a * 2 + z) 0
theorem f2_snoc (zs : List Int) (z : Int) : f2 (zs ++ [z]) = f2 zs * 2 + z := by unfold f2; rw [List.foldl_append]; rfl
/-- Bits of a number, as a list. -/
def IsBits (n W : Nat) (zs : List Int) : Prop := zs.length = W ∧ ∀ i, i < W → zs[i]? = some ((bt n W i : Nat) : Int)
theorem f2_take {n W : Nat} {zs : List Int} (h : IsBits n W zs) (hn : n < 2 ^ W) : ∀ j, j ≤ W → f2 (zs.take j) = ((n / 2 ^ (W - j) : Nat) : Int)
  | 0, _ => by rw [List.take_zero, Nat.sub_zero, Nat.div_eq_of_lt hn]; rfl
  | j + 1, hj => by
    obtain ⟨h1, h2⟩ := h
    have e : zs.take (j + 1) = zs.take j ++ [((bt n W j : Nat) : Int)] := by
      rw [List.take_add_one, h2 j (by omega)]; rfl
    rw [e, f2_snoc, f2_take ⟨h1, h2⟩ hn j (by omega)]
    unfold bt
    have := dv_step n (W - 1 - j)
    rw [show W - 1 - j + 1 = W - j by omega] at this
    rw [show W - (j + 1) = W - 1 - j by omega, this]
    omega
theorem f2_all {n W : Nat} {zs : List Int} (h : IsBits n W zs) (hn : n < 2 ^ W) : f2 zs = (n : Int) := by
  have := f2_take h hn W (Nat.le_refl _)
  rw [List.take_of_length_le (by rw [h.1]; exact Nat.le_refl _), Nat.sub_self, Nat.pow_zero, Nat.div_one] at this
  exact this
theorem f2_hi {h l : Nat} {zs : List Int} (hb : IsBits (nm h l) 128 zs) (hh : h < 2 ^ 64) (hl : l < 2 ^ 64) : f2 (zs.take 64) = (h : Int) := by
  have e : nm h l < 2 ^ 128 := by unfold nm; omega
  rw [f2_take hb e 64 (by decide), show 128 - 64 = 64 + 0 by decide, nm_bit_hi h l 0 hl, Nat.pow_zero, Nat.div_one]
theorem f2_lo {h l : Nat} {zs : List Int} (hb : IsBits (nm h l) 128 zs) (hl : l < 2 ^ 64) : f2 (zs.drop 64) = (l : Int) := by
  refine f2_all (W := 64) ⟨by rw [List.length_drop, hb.1], fun i hi => ?_⟩ hl
  rw [List.getElem?_drop, hb.2 (64 + i) (by omega)]
  unfold bt
  rw [show 128 - 1 - (64 + i) = 64 - 1 - i by omega, nm_bit_lo h l _ (by omega)]

/-- The last number that has the same bits but the lowest k. -/
theorem or_rest (x k : Nat) (hx : ct x k = x) : x ||| (2 ^ k - 1) = x + (2 ^ k - 1) :=
  nat_join k x _ (by rw [← hx]; unfold ct; exact Nat.mul_mod_left _ _) (by have := pw k; omega)
theorem nm_last (h l k : Nat) (hl : l < 2 ^ 64) (hk : k ≤ 128) (e1 : ct h (k - 64) = h) (e2 : ct l k = l) : nm (h + (2 ^ (k - 64) - 1)) (l + (2 ^ (min k 64) - 1)) = nm h l + (2 ^ k - 1) := by
  unfold nm
  rcases Nat.lt_or_ge k 64 with hk | hk
  · rw [show k - 64 = 0 by omega, show min k 64 = k by omega]
    omega
  · have hl0 : l = 0 := by
      rw [← e2]; exact ct_lt (Nat.lt_of_lt_of_le hl (Nat.pow_le_pow_right (by decide) hk))
    obtain ⟨c, rfl⟩ := Nat.exists_eq_add_of_le hk
    rw [show 64 + c - 64 = c by omega, show min (64 + c) 64 = 64 by omega, hl0, Nat.pow_add]
    have := pw c
    rw [Nat.add_mul, Nat.sub_mul, Nat.mul_comm (2 ^ 64) (2 ^ c)]
    have : 2 ^ 64 ≤ 2 ^ c * 2 ^ 64 := Nat.le_mul_of_pos_left _ this
    omega
theorem ct_last {n k : Nat} (hk : 0 < k) (e : ct n k = n) : ct (n + (2 ^ k - 1)) (k - 1) = n + 2 ^ (k - 1) := by
  obtain ⟨j, rfl⟩ : ∃ j, k = j + 1 := ⟨k - 1, by omega⟩
  rw [show j + 1 - 1 = j by omega]
  rw [← e]
  unfold ct
  obtain ⟨q, hq⟩ : ∃ q, q = n / 2 ^ (j + 1) := ⟨_, rfl⟩
  rw [← hq]
  have := pw j
  have e3 : q * 2 ^ (j + 1) + (2 ^ (j + 1) - 1) = 2 ^ j * (2 * q + 1) + (2 ^ j - 1) := by
    have a1 : q * 2 ^ (j + 1) = q * 2 ^ j * 2 := by rw [Nat.pow_succ, Nat.mul_assoc]
    have a2 : 2 ^ j * (2 * q + 1) = q * 2 ^ j * 2 + 2 ^ j := by rw [Nat.mul_add, Nat.mul_one, Nat.mul_comm 2 q, ← Nat.mul_assoc, Nat.mul_comm (2 ^ j) q]
    have a3 : (2 : Nat) ^ (j + 1) = 2 ^ j * 2 := Nat.pow_succ _ _
    omega
  rw [e3, Nat.mul_add_div this, Nat.div_eq_of_lt (by omega), Nat.add_zero, Nat.add_mul, Nat.one_mul, Nat.pow_succ]
  rw [Nat.mul_comm 2 q, Nat.mul_assoc, Nat.mul_comm 2 (2 ^ j)]
theorem ct_step {n k : Nat} (e : ct n k = n) : ct n (k - 1) = n := by
  have h : ct (ct n k) (k - 1) = ct n k := by
    rcases Nat.eq_zero_or_pos k with rfl | hk
    · rw [ct_zero, ct_zero]
    · obtain ⟨j, rfl⟩ : ∃ j, k = j + 1 := ⟨k - 1, by omega⟩
      rw [show j + 1 - 1 = j by omega]
      unfold ct
      rw [Nat.pow_succ, Nat.mul_comm (2 ^ j) 2, ← Nat.mul_assoc, Nat.mul_div_cancel _ (pw j)]
  rw [e] at h
  exact h

/-- How many bits an address has. -/
def wd (s : Bool) : Nat := if s then 128 else 32
def okn (s : Bool) (b : Int) : Bool := decide (0 ≤ b) && decide (b ≤ (wd s : Int))
/-- How many bits stand behind the first b. -/
def kk (s : Bool) (b : Int) : Nat := wd s - b.toNat
/-- Whether an address is held. -/
def hld (s : Bool) (h l : Nat) (b : Int) (s' : Bool) (h' l' : Nat) : Bool :=
  vld s' h' l' && okn s' b && decide (s' = s) && decide (ct h' (kk s' b - 64) = h) && decide (ct l' (kk s' b) = l)
def pvl (s : Bool) (h l : Nat) (b : Int) : Bool := hld s h l b s h l
def cov (s : Bool) (h l : Nat) (b : Int) (s' : Bool) (h' l' : Nat) (b' : Int) : Bool := pvl s' h' l' b' && decide (b ≤ b') && hld s h l b s' h' l'
def pls (s : Bool) (h l : Nat) (b : Int) (s' : Bool) (h' l' : Nat) (b' : Int) : Bool :=
  pvl s h l b && pvl s' h' l' b' && (lss s h l s' h' l' || (decide (s = s') && decide (h = h') && decide (l = l') && decide (b < b')))

def N64 (n : Nat) : Prop := n < 18446744073709551616
theorem N64.lt {n : Nat} (h : N64 n) : n < 2 ^ 64 := h
theorem kk_le (s : Bool) (b : Int) : kk s b ≤ 128 := by unfold kk wd; split <;> omega
theorem okn_iff {s : Bool} {b : Int} : okn s b = true ↔ 0 ≤ b ∧ b ≤ (wd s : Int) := by simp [okn]
theorem hld_iff {s : Bool} {h l : Nat} {b : Int} {s' : Bool} {h' l' : Nat} (hl : N64 l) (hl' : N64 l') :
    hld s h l b s' h' l' = true ↔ vld s' h' l' = true ∧ okn s' b = true ∧ s' = s ∧ ct (nm h' l') (kk s' b) = nm h l := by
  have e : ct (nm h' l') (kk s' b) = nm h l ↔ ct h' (kk s' b - 64) = h ∧ ct l' (kk s' b) = l := by
    rw [nm_ct h' l' _ hl'.lt]
    exact nm_inj (Nat.lt_of_le_of_lt (ct_le _ _) hl'.lt) hl.lt
  rw [e]
  unfold hld
  simp only [Bool.and_eq_true, decide_eq_true_eq]
  constructor
  · rintro ⟨⟨⟨⟨a, b⟩, c⟩, d⟩, e⟩; exact ⟨a, b, c, d, e⟩
  · rintro ⟨a, b, c, d, e⟩; exact ⟨⟨⟨⟨a, b⟩, c⟩, d⟩, e⟩
theorem pvl_iff {s : Bool} {h l : Nat} {b : Int} (hl : N64 l) : pvl s h l b = true ↔ vld s h l = true ∧ okn s b = true ∧ ct (nm h l) (kk s b) = nm h l := by
  unfold pvl
  rw [hld_iff hl hl]
  exact ⟨fun ⟨a, b, _, c⟩ => ⟨a, b, c⟩, fun ⟨a, b, c⟩ => ⟨a, b, rfl, c⟩⟩
/-- What is cut of a valid address is one. -/
theorem vld_ct {s : Bool} {h l h' l' k : Nat} (hl : N64 l) (hl' : N64 l') (hv : vld s h' l' = true) (e : ct (nm h' l') k = nm h l) : vld s h l = true := by
  cases s
  · obtain ⟨e1, e2⟩ := vld_four hv
    rw [nm_ct h' l' _ hl'.lt] at e
    obtain ⟨a, b⟩ := (nm_inj (Nat.lt_of_le_of_lt (ct_le _ _) hl'.lt) hl.lt).1 e
    have h1 := ct_le h' (k - 64)
    have h2 := ct_le l' k
    have h0 : h = 0 := by omega
    have h3 : (l : Int) ≤ 4294967295 := by omega
    subst h0
    simp [vld]; omega
  · rfl
/-- Whoever holds is valid; the address is. -/
theorem hld_pvl {s : Bool} {h l : Nat} {b : Int} {s' : Bool} {h' l' : Nat} (hl : N64 l) (hl' : N64 l') (hh : hld s h l b s' h' l' = true) : pvl s h l b = true := by
  obtain ⟨a, b, rfl, c⟩ := (hld_iff hl hl').1 hh
  refine (pvl_iff hl).2 ⟨vld_ct hl hl' a c, b, ?_⟩
  rw [← c, ct_ct]
theorem hld_via {s : Bool} {h l : Nat} {b : Int} {s' : Bool} {h' l' : Nat} (hl : N64 l) (hl' : N64 l') :
    hld s h l b s' h' l' = true ↔ pvl s h l b = true ∧ vld s' h' l' = true ∧ s = s' ∧ nm h l / 2 ^ kk s b = nm h' l' / 2 ^ kk s b := by
  constructor
  · intro hh
    refine ⟨hld_pvl hl hl' hh, ?_⟩
    obtain ⟨a, b, rfl, c⟩ := (hld_iff hl hl').1 hh
    refine ⟨a, rfl, ?_⟩
    rw [← c, ct_div]
  · rintro ⟨hp, a, rfl, c⟩
    obtain ⟨x, y, z⟩ := (pvl_iff hl).1 hp
    refine (hld_iff hl hl').2 ⟨a, y, rfl, ?_⟩
    rw [← z, ct_eq, c]
theorem cov_iff {s : Bool} {h l : Nat} {b : Int} {s' : Bool} {h' l' : Nat} {b' : Int} (hl : N64 l) (hl' : N64 l') :
    cov s h l b s' h' l' b' = true ↔ pvl s' h' l' b' = true ∧ b ≤ b' ∧ hld s h l b s' h' l' = true := by
  unfold cov
  simp only [Bool.and_eq_true, decide_eq_true_eq]
  exact ⟨fun ⟨⟨a, b⟩, c⟩ => ⟨a, b, c⟩, fun ⟨a, b, c⟩ => ⟨⟨a, b⟩, c⟩⟩
theorem kk_mono {s : Bool} {b b' : Int} (h : b ≤ b') : kk s b' ≤ kk s b := by unfold kk; omega

/-- Whoever is held by the lesser is held by the greater. -/
theorem nest_in {s : Bool} {h l : Nat} {b : Int} {s' : Bool} {h' l' : Nat} {b' : Int} {z : Bool} {m n : Nat} (hl : N64 l) (hl' : N64 l') (hn : N64 n)
    (x : cov s h l b s' h' l' b' = true) (y : hld s' h' l' b' z m n = true) : hld s h l b z m n = true := by
  obtain ⟨_, hb, x2⟩ := (cov_iff hl hl').1 x
  obtain ⟨a1, a2, rfl, a3⟩ := (hld_iff hl hl').1 x2
  obtain ⟨c1, c2, rfl, c3⟩ := (hld_iff hl' hn).1 y
  refine (hld_iff hl hn).2 ⟨c1, a2, rfl, ?_⟩
  rw [← a3, ← c3, ct_trans (kk_mono hb)]
/-- Of two that hold the same one covers the other. -/
theorem nest_or {s : Bool} {h l : Nat} {b : Int} {s' : Bool} {h' l' : Nat} {b' : Int} {z : Bool} {m n : Nat} (hl : N64 l) (hl' : N64 l') (hn : N64 n)
    (x : hld s h l b z m n = true) (y : hld s' h' l' b' z m n = true) (hb : b ≤ b') : cov s h l b s' h' l' b' = true := by
  refine (cov_iff hl hl').2 ⟨hld_pvl hl' hn y, hb, ?_⟩
  obtain ⟨a1, a2, rfl, a3⟩ := (hld_iff hl hn).1 x
  obtain ⟨c1, c2, rfl, c3⟩ := (hld_iff hl' hn).1 y
  refine (hld_iff hl hl').2 ⟨vld_ct hl' hn c1 c3, a2, rfl, ?_⟩
  rw [← a3, ← c3, ct_trans (kk_mono hb)]
theorem nest_eq {s : Bool} {h l : Nat} {b : Int} {s' : Bool} {h' l' : Nat} {b' : Int} (hl : N64 l) (hl' : N64 l') :
    (cov s h l b s' h' l' b' && cov s' h' l' b' s h l b) = (decide (s = s' ∧ h = h' ∧ l = l' ∧ b = b') && pvl s h l b) := by
  rw [Bool.eq_iff_iff]
  simp only [Bool.and_eq_true, decide_eq_true_eq]
  constructor
  · rintro ⟨x, y⟩
    obtain ⟨x1, x2, x3⟩ := (cov_iff hl hl').1 x
    obtain ⟨y1, y2, y3⟩ := (cov_iff hl' hl).1 y
    obtain rfl : b = b' := by omega
    obtain ⟨a1, a2, rfl, a3⟩ := (hld_iff hl hl').1 x3
    obtain ⟨_, _, c3⟩ := (pvl_iff hl').1 x1
    rw [c3] at a3
    obtain ⟨e1, e2⟩ := (nm_inj hl'.lt hl.lt).1 a3
    exact ⟨⟨rfl, e1.symm, e2.symm, rfl⟩, y1⟩
  · rintro ⟨⟨rfl, rfl, rfl, rfl⟩, p⟩
    have : cov s h l b s h l b = true := (cov_iff hl hl).2 ⟨p, Int.le_refl _, p⟩
    exact ⟨this, this⟩

/-- Where an address stands. -/
def rk (s : Bool) (h l : Nat) : Nat := (if s then 2 ^ 128 else 0) + nm h l
theorem rk_lt {s : Bool} {h l : Nat} (hh : N64 h) (hl : N64 l) : nm h l < 2 ^ 128 := by unfold N64 at *; unfold nm; omega
theorem rk_inj {s : Bool} {h l : Nat} {s' : Bool} {h' l' : Nat} (hh : N64 h) (hl : N64 l) (hh' : N64 h') (hl' : N64 l') :
    rk s h l = rk s' h' l' ↔ s = s' ∧ h = h' ∧ l = l' := by
  have a := rk_lt (s := s) hh hl
  have b := rk_lt (s := s') hh' hl'
  unfold N64 at *
  unfold rk nm at *
  cases s <;> cases s' <;> simp <;> omega
theorem lss_iff {s : Bool} {h l : Nat} {s' : Bool} {h' l' : Nat} (hh : N64 h) (hl : N64 l) (hh' : N64 h') (hl' : N64 l') :
    lss s h l s' h' l' = true ↔ vld s h l = true ∧ vld s' h' l' = true ∧ rk s h l < rk s' h' l' := by
  have a := rk_lt (s := s) hh hl
  have b := rk_lt (s := s') hh' hl'
  unfold lss
  simp only [Bool.and_eq_true, and_assoc]
  refine and_congr_right fun _ => and_congr_right fun _ => ?_
  unfold N64 at *
  unfold rk nm at *
  by_cases e : s = s'
  · subst e
    rw [if_neg (by simp)]
    by_cases e2 : (h : Int) = (h' : Int)
    · rw [if_neg (by simp [e2]), decide_eq_true_eq]; omega
    · rw [if_pos e2, decide_eq_true_eq]; omega
  · rw [if_pos e]
    cases s <;> cases s'
    · exact absurd rfl e
    · rw [if_neg (by decide), if_pos rfl]; simp only [true_iff]; omega
    · rw [if_pos rfl, if_neg (by decide)]; simp only [Bool.false_eq_true, false_iff]; omega
    · exact absurd rfl e
theorem pls_iff {s : Bool} {h l : Nat} {b : Int} {s' : Bool} {h' l' : Nat} {b' : Int} (hh : N64 h) (hl : N64 l) (hh' : N64 h') (hl' : N64 l') :
    pls s h l b s' h' l' b' = true ↔ pvl s h l b = true ∧ pvl s' h' l' b' = true ∧ (rk s h l < rk s' h' l' ∨ rk s h l = rk s' h' l' ∧ b < b') := by
  unfold pls
  rw [rk_inj hh hl hh' hl']
  simp only [Bool.and_eq_true, Bool.or_eq_true, decide_eq_true_eq, and_assoc]
  refine and_congr_right fun p => and_congr_right fun q => ?_
  rw [lss_iff hh hl hh' hl']
  have v := ((pvl_iff hl).1 p).1
  have v' := ((pvl_iff hl').1 q).1
  simp [v, v']
theorem cov_rk {s : Bool} {h l : Nat} {b : Int} {s' : Bool} {h' l' : Nat} {b' : Int} (hl : N64 l) (hl' : N64 l') (x : cov s h l b s' h' l' b' = true) :
    rk s h l ≤ rk s' h' l' ∧ b ≤ b' := by
  obtain ⟨_, hb, x2⟩ := (cov_iff hl hl').1 x
  obtain ⟨a1, a2, rfl, a3⟩ := (hld_iff hl hl').1 x2
  refine ⟨?_, hb⟩
  unfold rk
  have := ct_le (nm h' l') (kk s' b)
  omega
theorem pls_irr {s : Bool} {h l : Nat} {b : Int} (hh : N64 h) (hl : N64 l) : pls s h l b s h l b = false := by
  rw [Bool.eq_false_iff]; intro e
  obtain ⟨_, _, c⟩ := (pls_iff hh hl hh hl).1 e
  omega
theorem pls_asym {s : Bool} {h l : Nat} {b : Int} {s' : Bool} {h' l' : Nat} {b' : Int} (hh : N64 h) (hl : N64 l) (hh' : N64 h') (hl' : N64 l')
    (x : pls s h l b s' h' l' b' = true) : pls s' h' l' b' s h l b = false := by
  rw [Bool.eq_false_iff]; intro e
  obtain ⟨_, _, c⟩ := (pls_iff hh hl hh' hl').1 x
  obtain ⟨_, _, d⟩ := (pls_iff hh' hl' hh hl).1 e
  omega
theorem pls_total {s : Bool} {h l : Nat} {b : Int} {s' : Bool} {h' l' : Nat} {b' : Int} (hh : N64 h) (hl : N64 l) (hh' : N64 h') (hl' : N64 l')
    (p : pvl s h l b = true) (q : pvl s' h' l' b' = true) (x : pls s h l b s' h' l' b' = false) (y : pls s' h' l' b' s h l b = false) : s = s' ∧ h = h' ∧ l = l' ∧ b = b' := by
  have x' : ¬ pls s h l b s' h' l' b' = true := by rw [x]; decide
  have y' : ¬ pls s' h' l' b' s h l b = true := by rw [y]; decide
  rw [pls_iff hh hl hh' hl'] at x'
  rw [pls_iff hh' hl' hh hl] at y'
  have e : rk s h l = rk s' h' l' ∧ b = b' := by
    simp only [p, q, true_and] at x' y'
    omega
  obtain ⟨a, c, d⟩ := (rk_inj hh hl hh' hl').1 e.1
  exact ⟨a, c, d, e.2⟩
theorem pls_trans {s : Bool} {h l : Nat} {b : Int} {s' : Bool} {h' l' : Nat} {b' : Int} {z : Bool} {m n : Nat} {c : Int} (hh : N64 h) (hl : N64 l) (hh' : N64 h') (hl' : N64 l') (hm : N64 m) (hn : N64 n)
    (x : pls s h l b s' h' l' b' = true) (y : pls s' h' l' b' z m n c = true) : pls s h l b z m n c = true := by
  obtain ⟨p, q, e⟩ := (pls_iff hh hl hh' hl').1 x
  obtain ⟨_, r, d⟩ := (pls_iff hh' hl' hm hn).1 y
  exact (pls_iff hh hl hm hn).2 ⟨p, r, by omega⟩
theorem cov_front {s : Bool} {h l : Nat} {b : Int} {s' : Bool} {h' l' : Nat} {b' : Int} (hh : N64 h) (hl : N64 l) (hh' : N64 h') (hl' : N64 l')
    (x : cov s h l b s' h' l' b' = true) : pls s' h' l' b' s h l b = false := by
  rw [Bool.eq_false_iff]; intro e
  obtain ⟨_, _, c⟩ := (pls_iff hh' hl' hh hl).1 e
  obtain ⟨u, v⟩ := cov_rk hl hl' x
  omega

/-- The two numbers of the upper half's address; k bits stand behind the first ones. -/
def upH (h k : Nat) : Nat := ct (h + (2 ^ (k - 64) - 1)) (k - 1 - 64)
def upL (l k : Nat) : Nat := ct (l + (2 ^ (min k 64) - 1)) (k - 1)
theorem kk_succ {s : Bool} {b : Int} (h0 : 0 ≤ b) : kk s (b + 1) = kk s b - 1 := by unfold kk; omega
theorem kk_pos {s : Bool} {b : Int} (h0 : 0 ≤ b) (hb : b < (wd s : Int)) : 0 < kk s b := by unfold kk; omega
theorem mult_room {x k j : Nat} (e : ct x k = x) (hx : x < 2 ^ j) (hk : k ≤ j) : x + (2 ^ k - 1) < 2 ^ j := by
  obtain ⟨c, rfl⟩ := Nat.exists_eq_add_of_le hk
  unfold ct at e
  rw [Nat.pow_add] at hx ⊢
  have h1 : x / 2 ^ k < 2 ^ c := Nat.div_lt_of_lt_mul hx
  have h2 : (x / 2 ^ k + 1) * 2 ^ k ≤ 2 ^ c * 2 ^ k := Nat.mul_le_mul_right _ h1
  rw [Nat.add_mul, Nat.one_mul, e, Nat.mul_comm (2 ^ c)] at h2
  have := pw k
  omega
theorem ct_parts {h l k : Nat} (hl : N64 l) (e : ct (nm h l) k = nm h l) : ct h (k - 64) = h ∧ ct l k = l := by
  rw [nm_ct h l k hl.lt] at e
  exact (nm_inj (Nat.lt_of_le_of_lt (ct_le _ _) hl.lt) hl.lt).1 e
theorem ct_min {l k : Nat} (hl : N64 l) (e : ct l k = l) : ct l (min k 64) = l := by
  rcases Nat.lt_or_ge k 64 with h | h
  · rw [show min k 64 = k by omega]; exact e
  · rw [show min k 64 = 64 by omega]
    have h0 : l = 0 := by rw [← e]; exact ct_lt (Nat.lt_of_lt_of_le hl.lt (Nat.pow_le_pow_right (by decide) h))
    subst h0; simp [ct]
/-- The last address: both of its numbers, and that it is valid. -/
theorem last_ok {s : Bool} {h l : Nat} {b : Int} (hh : N64 h) (hl : N64 l) (p : pvl s h l b = true) :
    N64 (h + (2 ^ (kk s b - 64) - 1)) ∧ N64 (l + (2 ^ (min (kk s b) 64) - 1)) ∧ vld s ((h + (2 ^ (kk s b - 64) - 1) : Nat) : Int) ((l + (2 ^ (min (kk s b) 64) - 1) : Nat) : Int) = true := by
  obtain ⟨v, o, e⟩ := (pvl_iff hl).1 p
  obtain ⟨e1, e2⟩ := ct_parts hl e
  have k1 := kk_le s b
  refine ⟨mult_room e1 hh.lt (by omega), mult_room (ct_min hl e2) hl.lt (by omega), ?_⟩
  cases s
  · obtain ⟨a1, a2⟩ := vld_four v
    have k2 : kk false b ≤ 32 := by unfold kk wd; split <;> rename_i c <;> first | cases c | omega
    have h0 : h = 0 := by omega
    have h1 : l < 2 ^ 32 := by omega
    have := mult_room e2 h1 k2
    rw [show kk false b - 64 = 0 by omega, show min (kk false b) 64 = kk false b by omega]
    subst h0
    simp [vld]; omega
  · rfl
theorem up_spec {s : Bool} {h l : Nat} {b : Int} (hh : N64 h) (hl : N64 l) (p : pvl s h l b = true) (hb : b < (wd s : Int)) :
    N64 (upH h (kk s b)) ∧ N64 (upL l (kk s b)) ∧ nm (upH h (kk s b)) (upL l (kk s b)) = nm h l + 2 ^ (kk s b - 1) ∧ ct h (kk s b - 1 - 64) = h ∧ ct l (kk s b - 1) = l := by
  obtain ⟨v, o, e⟩ := (pvl_iff hl).1 p
  obtain ⟨e1, e2⟩ := ct_parts hl e
  obtain ⟨q1, q2, _⟩ := last_ok hh hl p
  obtain ⟨f1, f2⟩ := ct_parts hl (ct_step e)
  refine ⟨Nat.lt_of_le_of_lt (ct_le _ _) q1, Nat.lt_of_le_of_lt (ct_le _ _) q2, ?_, f1, f2⟩
  unfold upH upL
  rw [← nm_ct _ _ _ q2.lt, nm_last h l _ hl.lt (kk_le s b) e1 e2]
  exact ct_last (kk_pos (okn_iff.1 o).1 hb) e
/-- Both halves are valid. -/
theorem half_ok {s : Bool} {h l : Nat} {b : Int} (hh : N64 h) (hl : N64 l) (p : pvl s h l b = true) (hb : b < (wd s : Int)) :
    pvl s h l (b + 1) = true ∧ pvl s (upH h (kk s b)) (upL l (kk s b)) (b + 1) = true := by
  obtain ⟨v, o, e⟩ := (pvl_iff hl).1 p
  obtain ⟨u1, u2, u3, u4, u5⟩ := up_spec hh hl p hb
  obtain ⟨q1, q2, q3⟩ := last_ok hh hl p
  have o1 := okn_iff.1 o
  have o2 : okn s (b + 1) = true := okn_iff.2 ⟨by omega, by omega⟩
  have e4 := kk_succ (s := s) o1.1
  have e5 : ct (nm (upH h (kk s b)) (upL l (kk s b))) (kk s (b + 1)) = nm (upH h (kk s b)) (upL l (kk s b)) := by
    rw [e4, u3]
    have := ct_last (kk_pos o1.1 hb) e
    rw [← this, ct_ct]
  refine ⟨(pvl_iff hl).2 ⟨v, o2, ?_⟩, (pvl_iff u2).2 ⟨?_, o2, e5⟩⟩
  · rw [e4]; exact ct_step e
  · refine vld_ct u2 q2 q3 (k := kk s b - 1) ?_
    obtain ⟨e1, e2⟩ := ct_parts hl e
    rw [nm_last h l _ hl.lt (kk_le s b) e1 e2, u3]
    exact ct_last (kk_pos o1.1 hb) e
theorem ct_two {n N k : Nat} (hk : 0 < k) (e : ct N k = N) : ct n k = N ↔ ct n (k - 1) = N ∨ ct n (k - 1) = N + 2 ^ (k - 1) := by
  obtain ⟨j, rfl⟩ : ∃ j, k = j + 1 := ⟨k - 1, by omega⟩
  rw [show j + 1 - 1 = j by omega]
  have e1 : ct n (j + 1) = ct n j ∨ ct n (j + 1) + 2 ^ j = ct n j := by
    unfold ct
    have h1 := dv_step n j
    have h2 : n / 2 ^ j % 2 < 2 := Nat.mod_lt _ (by decide)
    obtain ⟨q, hq⟩ : ∃ q, q = n / 2 ^ (j + 1) := ⟨_, rfl⟩
    rw [← hq] at h1 ⊢
    have a1 : q * 2 ^ (j + 1) = q * 2 * 2 ^ j := by rw [Nat.pow_succ, Nat.mul_assoc, Nat.mul_comm 2]
    rcases Nat.lt_or_ge (n / 2 ^ j % 2) 1 with h3 | h3
    · left; rw [show n / 2 ^ j = q * 2 by omega, a1]
    · right; rw [show n / 2 ^ j = q * 2 + 1 by omega, Nat.add_mul, Nat.one_mul, a1]
  constructor
  · intro h; rcases e1 with g | g
    · left; omega
    · right; omega
  · have h3 : ct (ct n j) (j + 1) = ct n (j + 1) := ct_trans (Nat.le_succ _)
    rintro (h | h)
    · rw [← h3, h, e]
    · rw [← h3, h]
      have h4 := ct_two_aux j N e
      exact h4
where
  ct_two_aux (j N : Nat) (e : ct N (j + 1) = N) : ct (N + 2 ^ j) (j + 1) = N := by
    conv => rhs; rw [← e]
    apply ct_eq.2
    have : N = 2 ^ (j + 1) * (N / 2 ^ (j + 1)) := by rw [Nat.mul_comm]; exact e.symm
    rw [this, Nat.mul_add_div (pw _), Nat.mul_div_cancel_left _ (pw _), Nat.div_eq_of_lt (Nat.pow_lt_pow_right (by decide) (by omega)), Nat.add_zero]

set_option maxRecDepth 4000 in
theorem half_in {s : Bool} {h l : Nat} {b : Int} {s' : Bool} {h' l' : Nat} (hh : N64 h) (hl : N64 l) (hl' : N64 l') (p : pvl s h l b = true) (hb : b < (wd s : Int)) :
    hld s h l b s' h' l' = (hld s h l (b + 1) s' h' l' != hld s (upH h (kk s b)) (upL l (kk s b)) (b + 1) s' h' l') ∧ ¬ (hld s h l (b + 1) s' h' l' = true ∧ hld s (upH h (kk s b)) (upL l (kk s b)) (b + 1) s' h' l' = true) := by
  obtain ⟨v, o, e⟩ := (pvl_iff hl).1 p
  obtain ⟨u1, u2, u3, u4, u5⟩ := up_spec hh hl p hb
  have o1 := okn_iff.1 o
  have e4 := kk_succ (s := s) o1.1
  have hp := pw (kk s b - 1)
  have o2 : okn s (b + 1) = true := okn_iff.2 ⟨by omega, by omega⟩
  have A : hld s h l b s' h' l' = true ↔ (vld s' h' l' = true ∧ s' = s) ∧ ct (nm h' l') (kk s b) = nm h l := by
    rw [hld_iff hl hl']
    exact ⟨fun ⟨a, _, c, d⟩ => ⟨⟨a, c⟩, by rw [← c]; exact d⟩, fun ⟨⟨a, c⟩, d⟩ => ⟨a, by rw [c]; exact o, c, by rw [c]; exact d⟩⟩
  have B : hld s h l (b + 1) s' h' l' = true ↔ (vld s' h' l' = true ∧ s' = s) ∧ ct (nm h' l') (kk s b - 1) = nm h l := by
    rw [hld_iff hl hl', ← e4]
    exact ⟨fun ⟨a, _, c, d⟩ => ⟨⟨a, c⟩, by rw [← c]; exact d⟩, fun ⟨⟨a, c⟩, d⟩ => ⟨a, by rw [c]; exact o2, c, by rw [c]; exact d⟩⟩
  have C : hld s (upH h (kk s b)) (upL l (kk s b)) (b + 1) s' h' l' = true ↔ (vld s' h' l' = true ∧ s' = s) ∧ ct (nm h' l') (kk s b - 1) = nm h l + 2 ^ (kk s b - 1) := by
    rw [hld_iff u2 hl', ← u3, ← e4]
    constructor
    · rintro ⟨a, _, c, d⟩; subst c; exact ⟨⟨a, rfl⟩, d⟩
    · rintro ⟨⟨a, c⟩, d⟩; subst c; exact ⟨a, o2, rfl, d⟩
  rw [ct_two (kk_pos o1.1 hb) e] at A
  have D : ¬ (hld s h l (b + 1) s' h' l' = true ∧ hld s (upH h (kk s b)) (upL l (kk s b)) (b + 1) s' h' l' = true) := by
    rw [B, C]; rintro ⟨⟨_, x⟩, ⟨_, y⟩⟩
    rw [x] at y
    exact absurd y (Nat.ne_of_lt (Nat.lt_add_of_pos_right hp))
  have E : hld s h l b s' h' l' = true ↔ (hld s h l (b + 1) s' h' l' = true ∨ hld s (upH h (kk s b)) (upL l (kk s b)) (b + 1) s' h' l' = true) := by
    rw [A, B, C]
    exact ⟨fun ⟨x, y⟩ => y.elim (fun y => .inl ⟨x, y⟩) (fun y => .inr ⟨x, y⟩), fun h => h.elim (fun ⟨x, y⟩ => ⟨x, .inl y⟩) (fun ⟨x, y⟩ => ⟨x, .inr y⟩)⟩
  refine ⟨?_, D⟩
  clear A B C
  revert D E
  generalize hld s h l b s' h' l' = x
  generalize hld s h l (b + 1) s' h' l' = y
  generalize hld s (upH h (kk s b)) (upL l (kk s b)) (b + 1) s' h' l' = z
  cases x <;> cases y <;> cases z <;> simp
theorem cov_of {s : Bool} {h l : Nat} {b : Int} {h' l' : Nat} {b' : Int} (hl : N64 l) (hl' : N64 l') (p : pvl s h l b = true) (q : pvl s h' l' b' = true) (hb : b ≤ b') (e : ct (nm h' l') (kk s b) = nm h l) : cov s h l b s h' l' b' = true :=
  (cov_iff hl hl').2 ⟨q, hb, (hld_iff hl hl').2 ⟨((pvl_iff hl').1 q).1, ((pvl_iff hl).1 p).2.1, rfl, e⟩⟩
/-- How the whole and the halves stand to one another. -/
theorem half_around {s : Bool} {h l : Nat} {b : Int} (hh : N64 h) (hl : N64 l) (p : pvl s h l b = true) (hb : b < (wd s : Int)) :
    cov s h l b s h l (b + 1) = true ∧ cov s h l b s (upH h (kk s b)) (upL l (kk s b)) (b + 1) = true ∧ cov s h l (b + 1) s (upH h (kk s b)) (upL l (kk s b)) (b + 1) = false ∧
    cov s (upH h (kk s b)) (upL l (kk s b)) (b + 1) s h l (b + 1) = false ∧ cov s h l (b + 1) s h l b = false ∧ pls s h l b s h l (b + 1) = true ∧ pls s h l (b + 1) s (upH h (kk s b)) (upL l (kk s b)) (b + 1) = true := by
  obtain ⟨v, o, e⟩ := (pvl_iff hl).1 p
  obtain ⟨u1, u2, u3, u4, u5⟩ := up_spec hh hl p hb
  obtain ⟨p1, p2⟩ := half_ok hh hl p hb
  have o1 := okn_iff.1 o
  have e4 := kk_succ (s := s) o1.1
  have hp := pw (kk s b - 1)
  have z1 : ct (nm (upH h (kk s b)) (upL l (kk s b))) (kk s (b + 1)) = nm (upH h (kk s b)) (upL l (kk s b)) := ((pvl_iff u2).1 p2).2.2
  have z2 : ct (nm h l) (kk s (b + 1)) = nm h l := ((pvl_iff hl).1 p1).2.2
  refine ⟨cov_of hl hl p p1 (by omega) e, cov_of hl u2 p p2 (by omega) ?_, ?_, ?_, ?_, ?_, ?_⟩
  · rw [ct_two (kk_pos o1.1 hb) e]
    right
    rw [e4] at z1
    rw [z1, u3]
  · rw [Bool.eq_false_iff]; intro c
    obtain ⟨_, _, c3⟩ := (cov_iff hl u2).1 c
    obtain ⟨_, _, _, c4⟩ := (hld_iff hl u2).1 c3
    omega
  · rw [Bool.eq_false_iff]; intro c
    obtain ⟨_, _, c3⟩ := (cov_iff u2 hl).1 c
    obtain ⟨_, _, _, c4⟩ := (hld_iff u2 hl).1 c3
    omega
  · rw [Bool.eq_false_iff]; intro c
    obtain ⟨_, c2, _⟩ := (cov_iff hl hl).1 c
    omega
  · exact (pls_iff hh hl hh hl).2 ⟨p, p1, .inr ⟨rfl, by omega⟩⟩
  · refine (pls_iff hh hl u1 u2).2 ⟨p1, p2, .inl ?_⟩
    unfold rk; omega

def comV (s : Bool) (h l : Nat) (s' : Bool) (h' l' : Nat) : Int :=
  if vld s h l = true ∧ vld s' h' l' = true ∧ s = s' then (cmn (wd s) (nm h l) (nm h' l') : Int) else -1
theorem nm_wd {s : Bool} {h l : Nat} (hh : N64 h) (hl : N64 l) (v : vld s h l = true) : nm h l < 2 ^ wd s := by
  cases s
  · obtain ⟨a, b⟩ := vld_four v
    unfold nm wd
    have : h = 0 := by omega
    subst this
    simp; omega
  · exact rk_lt (s := true) hh hl
/-- The document's way of asking: as many first bits are shared. -/
theorem hld_com {s : Bool} {h l : Nat} {b : Int} {s' : Bool} {h' l' : Nat} (hh : N64 h) (hl : N64 l) (hh' : N64 h') (hl' : N64 l') :
    (pvl s h l b && decide (b ≤ comV s h l s' h' l')) = hld s h l b s' h' l' := by
  rw [Bool.eq_iff_iff, hld_via hl hl']
  simp only [Bool.and_eq_true, decide_eq_true_eq]
  refine and_congr_right fun p => ?_
  obtain ⟨v, o, e⟩ := (pvl_iff hl).1 p
  have o1 := okn_iff.1 o
  unfold comV
  by_cases c : vld s' h' l' = true ∧ s = s'
  · obtain ⟨v', rfl⟩ := c
    rw [if_pos ⟨v, v', rfl⟩]
    have h0 : nm h l / 2 ^ wd s = nm h' l' / 2 ^ wd s := by
      rw [Nat.div_eq_of_lt (nm_wd hh hl v), Nat.div_eq_of_lt (nm_wd hh' hl' v')]
    have := cmn_ge (wd s) (nm h l) (nm h' l') h0 b.toNat (by omega)
    have e2 : b ≤ (cmn (wd s) (nm h l) (nm h' l') : Int) ↔ b.toNat ≤ cmn (wd s) (nm h l) (nm h' l') := by omega
    rw [e2, this]
    exact ⟨fun x => ⟨v', rfl, x⟩, fun ⟨_, _, x⟩ => x⟩
  · rw [if_neg (fun x => c x.2)]
    refine ⟨fun x => by omega, fun ⟨x, y, _⟩ => absurd ⟨x, y⟩ c⟩
end Go.Proofs.YtjlmgkdieffjcaaDoor

namespace Go.Proofs.YtjlmgkdieffjcaaDoor
open Go.RowKit
set_option linter.unusedVariables false

/-- The number whose first n bits are 1. -/
def onz (n : Int) : Int := ((2 ^ 64 - 2 ^ (64 - (min n.toNat 64)) : Nat) : Int)
theorem onz_bd (n : Int) : 0 ≤ onz n ∧ onz n < 18446744073709551616 := by
  unfold onz
  have h1 : (2 : Nat) ^ (64 - (min n.toNat 64)) ≤ 2 ^ 64 := Nat.pow_le_pow_right (by decide) (by omega)
  have h2 := pw (64 - (min n.toNat 64))
  omega
theorem shl_all (j : Nat) (hj : j ≤ 64) : IntKind.u64.wrap (18446744073709551615 * 2 ^ j) = ((2 ^ 64 - 2 ^ j : Nat) : Int) := by
  have h1 : (2 : Nat) ^ j ≤ 2 ^ 64 := Nat.pow_le_pow_right (by decide) hj
  have h2 := pw j
  have e : ((2 : Int) ^ j) = ((2 ^ j : Nat) : Int) := by simp
  rw [e, IntKind.wrap_u64]
  generalize (2 : Nat) ^ j = p at *
  omega
theorem and_onz (x : Nat) (hx : N64 x) (n : Int) : bits .and .u64 (x : Int) (onz n) = ((ct x (64 - (min n.toNat 64)) : Nat) : Int) := by
  have h1 : (2 : Nat) ^ (64 - (min n.toNat 64)) ≤ 2 ^ 64 := Nat.pow_le_pow_right (by decide) (by omega)
  have h2 := pw (64 - (min n.toNat 64))
  unfold onz
  rw [u64_and_nat x _ hx (by omega), and_mask x _ hx.lt (by omega)]
theorem ret_u64 {a b : Int} (h : a = b) : Ending.returned (.int .u64 a) = .returned (.int .u64 b) := by rw [h]
set_option maxHeartbeats 1000000 in
theorem ones_any (n : Int) (w : World) :
    Calls Tryd.prog 84 #[.int .i64 n] w fun e w' => e = .returned (.int .u64 (onz n)) ∧ w = w' := by
  obtain ⟨y, hy⟩ : ∃ y, (if n < 0 then 0 else n) = y := ⟨_, rfl⟩
  obtain ⟨k, hk⟩ : ∃ k, (if 64 < y then 64 else y) = k := ⟨_, rfl⟩
  have hk0 : 0 ≤ k := by split at hy <;> split at hk <;> omega
  have hk1 : k ≤ 64 := by split at hy <;> split at hk <;> omega
  have hk2 : min n.toNat 64 = k.toNat := by split at hy <;> split at hk <;> omega
  have HK := Lib.hid hk2
  clear hk2
  go_enter Tryd.func84, Tryd.ntmps84
  go_wp2
  go_ret
  refine ⟨ret_u64 ?_, rfl⟩
  unfold onz
  rw [HK.out]
  rw [show 64 - k.toNat = (64 - k).toNat by omega]
  exact shl_all _ (by omega)

theorem width_at (s : Bool) (h l W : Int) (hW : (wd s : Int) = W) (w : World) :
    Calls Tryd.prog 67 #[adr s h l] w fun e w' => e = .returned (.int .i64 W) ∧ Below w.heap.size w w' := by
  subst hW
  cases s
  all_goals
    go_enter Tryd.func67, Tryd.ntmps67
    go_wp2
    go_ret
    exact ⟨rfl, (Below.refl _ _).alloc (Nat.le_refl _) _⟩
theorem before_at (s : Bool) (h l W : Int) (hW : (wd s : Int) = W) (w : World) :
    Calls Tryd.prog 83 #[adr s h l] w fun e w' => e = .returned (.int .i64 (128 - W)) ∧ Below w.heap.size w w' := by
  have h0 : 0 ≤ W := by rw [← hW]; omega
  have h1 : W ≤ 128 := by rw [← hW]; unfold wd; split <;> omega
  have H := Lib.hid (fun W' => width_at s h l W hW W')
  clear hW
  go_enter Tryd.func83, Tryd.ntmps83
  go_wp2_with fail
  refine Calls.mono (H.out _) ?_
  rintro e w1 ⟨rfl, hb⟩
  have L1 := Lib.hid (((Below.refl _ w).alloc (Nat.le_refl _) _).trans (hb.mono (by simp only [World.size_alloc]; omega)))
  clear hb
  go_wp2
  go_ret
  exact ⟨rfl, L1.out⟩
set_option maxHeartbeats 1000000 in
theorem masks_at (s : Bool) (h l b W : Int) (hW : (wd s : Int) = W) (hb0 : 0 ≤ b) (hb1 : b ≤ W) (w : World) :
    Calls Tryd.prog 68 #[adr s h l, .int .i64 b] w fun e w' => e = .returned (.tuple #[.int .u64 (onz (128 - W + b)), .int .u64 (onz (128 - W + b - 64))]) ∧ Below w.heap.size w w' := by
  have h0 : 0 ≤ W := by rw [← hW]; omega
  have h1 : W ≤ 128 := by rw [← hW]; unfold wd; split <;> omega
  have H := Lib.hid (fun W' => before_at s h l W hW W')
  clear hW
  go_enter Tryd.func68, Tryd.ntmps68
  go_wp2_with fail
  refine Calls.mono (H.out _) ?_
  rintro e w1 ⟨rfl, hb⟩
  have L1 := Lib.hid (((Below.refl _ w).alloc (Nat.le_refl _) _).trans (hb.mono (by simp only [World.size_alloc]; omega)))
  clear hb
  go_wp2_with fail
  refine Calls.mono (ones_any _ _) ?_
  rintro e w2 ⟨rfl, rfl⟩
  go_wp2_with fail
  refine Calls.mono (ones_any _ _) ?_
  rintro e w2 ⟨rfl, rfl⟩
  go_wp2
  go_ret2
  exact ⟨rfl, L1.out⟩
end Go.Proofs.YtjlmgkdieffjcaaDoor

namespace Go.Proofs.YtjlmgkdieffjcaaDoor
open Go.RowKit
set_option linter.unusedVariables false

/-- A range of first bits as a value. -/
abbrev pfx (s : Bool) (h l b : Int) : Value := .agg #[.bool s, .int .u64 h, .int .u64 l, .int .i64 b]
def ofP (s : Bool) (h l : Nat) (b : Int) : Value :=
  if vld s h l && okn s b then .tuple #[pfx s (ct h (kk s b - 64) : Nat) (ct l (kk s b) : Nat) b, .int .i64 0] else .tuple #[pfx false 0 0 0, .int .i64 1]
theorem mask_hi {s : Bool} {b W : Int} (hW : (wd s : Int) = W) (hb0 : 0 ≤ b) (hb1 : b ≤ W) (h : Nat) (hh : N64 h) :
    bits .and .u64 (h : Int) (onz (128 - W + b)) = ((ct h (kk s b - 64) : Nat) : Int) := by
  rw [and_onz h hh]
  have : wd s ≤ 128 := by unfold wd; split <;> omega
  rw [show 64 - min (128 - W + b).toNat 64 = kk s b - 64 by unfold kk; omega]
theorem mask_lo {s : Bool} {b W : Int} (hW : (wd s : Int) = W) (hb0 : 0 ≤ b) (hb1 : b ≤ W) (l : Nat) (hl : N64 l) :
    bits .and .u64 (l : Int) (onz (128 - W + b - 64)) = ((ct l (kk s b) : Nat) : Int) := by
  rw [and_onz l hl]
  have : wd s ≤ 128 := by unfold wd; split <;> omega
  rw [show 64 - min (128 - W + b - 64).toNat 64 = min (kk s b) 64 by unfold kk; omega]
  rcases Nat.lt_or_ge (kk s b) 64 with h | h
  · rw [show min (kk s b) 64 = kk s b by omega]
  · rw [show min (kk s b) 64 = 64 by omega, ct_lt hl.lt, ct_lt (Nat.lt_of_lt_of_le hl.lt (Nat.pow_le_pow_right (by decide) h))]

theorem Blk.c4 {w : World} {g : Nat} {t : TypeId} {a b c d : Value} (h : Blk w g t #[a, b, c, d]) : w.cell? ⟨g, 0, none⟩ = some a ∧ w.cell? ⟨g, 1, none⟩ = some b ∧ w.cell? ⟨g, 2, none⟩ = some c ∧ w.cell? ⟨g, 3, none⟩ = some d :=
  ⟨by rw [h.cell]; rfl, by rw [h.cell]; rfl, by rw [h.cell]; rfl, by rw [h.cell]; rfl⟩
theorem okn_no {s : Bool} {b W : Int} (hW : (wd s : Int) = W) (e : okn s b = false) (h0 : ¬ b < 0) : b > W := by
  rw [← hW]
  simp only [okn, Bool.and_eq_false_iff, decide_eq_false_iff_not] at e
  omega

set_option maxRecDepth 100000 in
set_option maxHeartbeats 4000000 in
theorem ofP_any (s : Bool) (h l : Nat) (b : Int) (hh : N64 h) (hl : N64 l) (w : World) :
    Calls Tryd.prog 56 #[adr s h l, .int .i64 b] w fun e w' => e = .returned (ofP s h l b) ∧ Below w.heap.size w w' := by
  obtain ⟨V, hV⟩ : ∃ V, vld s h l = V := ⟨_, rfl⟩
  obtain ⟨W, hW⟩ : ∃ W, (wd s : Int) = W := ⟨_, rfl⟩
  have h0 : 0 ≤ W := by rw [← hW]; omega
  have h1 : W ≤ 128 := by rw [← hW]; unfold wd; split <;> omega
  have HV := Lib.hid (fun w => valid_at s h l w hV)
  have HW := Lib.hid (fun w => width_at s h l W hW w)
  obtain ⟨R, hR⟩ : ∃ R, ofP s h l b = R := ⟨_, rfl⟩
  rw [hR]
  by_cases hk : V = true ∧ okn s b = true
  · obtain ⟨rfl, ho⟩ := hk
    obtain ⟨o1, o2⟩ := okn_iff.1 ho
    rw [hW] at o2
    obtain ⟨X, hX⟩ : ∃ X, ((ct h (kk s b - 64) : Nat) : Int) = X := ⟨_, rfl⟩
    obtain ⟨Y, hY⟩ : ∃ Y, ((ct l (kk s b) : Nat) : Int) = Y := ⟨_, rfl⟩
    have e1 : ofP s h l b = .tuple #[pfx s X Y b, .int .i64 0] := by unfold ofP; rw [hV, ho, hX, hY]; rfl
    have HR := Lib.hid (e1.symm.trans hR)
    obtain ⟨M1, hM1⟩ : ∃ M, onz (128 - W + b) = M := ⟨_, rfl⟩
    obtain ⟨M2, hM2⟩ : ∃ M, onz (128 - W + b - 64) = M := ⟨_, rfl⟩
    have HM := Lib.hid (fun w => masks_at s h l b W hW o1 o2 w)
    have b1 := mask_hi hW o1 o2 h hh
    have b2 := mask_lo hW o1 o2 l hl
    rw [hM1, hM2] at HM
    rw [hM1, hX] at b1
    rw [hM2, hY] at b2
    have n1 : ¬ b < 0 := by omega
    have n2 : ¬ b > W := by omega
    have B1 := Lib.hid b1
    have B2 := Lib.hid b2
    clear hV hW e1 hR ho hM1 hM2 hX hY b1 b2
    go_enter Tryd.func56, Tryd.ntmps56
    go_wp2_with fail
    refine Calls.mono (HV.out _) ?_
    rintro e w1 ⟨rfl, hb⟩
    have K1 := Lib.hid ((Blk.new w 24 #[.bool s, .int .u64 h, .int .u64 l]).alloc (.cells #[.bool false, .int .u64 0, .int .u64 0, .int .i64 0] 37) |>.below hb (by simp only [World.size_alloc]; omega))
    have R1 := Lib.hid ((Blk.new (w.alloc (.cells #[.bool s, .int .u64 h, .int .u64 l] 24)) 37 #[.bool false, .int .u64 0, .int .u64 0, .int .i64 0]).below hb (by simp only [World.size_alloc]; omega))
    have L1 := Lib.hid ((((Below.refl _ w).alloc (Nat.le_refl _) _).alloc (by simp) _).trans (hb.mono (by simp only [World.size_alloc]; omega)))
    have s1 : w.heap.size + 1 < w1.heap.size := by have := hb.size; simp only [World.size_alloc] at this; omega
    rw [World.size_alloc] at R1
    obtain ⟨f1, f2, f3⟩ := K1.out.c3
    clear hb
    go_wp2_with fail
    refine Calls.mono (HW.out _) ?_
    rintro e w2 ⟨rfl, hb⟩
    clear f1 f2 f3
    have K2 := Lib.hid (K1.out.below hb (by omega))
    have R2 := Lib.hid (R1.out.below hb s1)
    have L2 := Lib.hid (L1.out.trans (hb.mono L1.out.size))
    have s2 : w.heap.size + 1 < w2.heap.size := by have := hb.size; omega
    obtain ⟨f1, f2, f3⟩ := K2.out.c3
    clear hb
    go_wp2_with fail
    refine Calls.mono (HM.out _) ?_
    rintro e w3 ⟨rfl, hb⟩
    clear f1 f2 f3
    have K3 := Lib.hid (K2.out.below hb (by omega))
    have R3 := Lib.hid (R2.out.below hb s2)
    have L3 := Lib.hid (L2.out.trans (hb.mono L2.out.size))
    obtain ⟨f1, f2, f3⟩ := K3.out.c3
    obtain ⟨g1, g2, g3, g4⟩ := R3.out.c4
    have z0 := R3.out.frozen 0
    have z1 := R3.out.frozen 1
    have z2 := R3.out.frozen 2
    have z3 := R3.out.frozen 3
    have y1 := K3.out.frozen 1
    have y2 := K3.out.frozen 2
    have b1 := B1.out
    have b2 := B2.out
    clear hb
    go_wp2
    exact bodyPost_ret (v := .tuple #[pfx s X Y b, .int .i64 0]) (by simp [results, Tryd.results56, go_sem, g1, g2, g3, g4]) rfl ⟨by rw [HR.out], by (repeat (refine Below.setCell ?_ (by simp) _)); exact L3.out⟩
  · have e1 : ofP s h l b = .tuple #[pfx false 0 0 0, .int .i64 1] := by
      unfold ofP
      rw [if_neg (by rw [hV]; simpa using hk)]
    have HR := Lib.hid (e1.symm.trans hR)
    cases V
    · clear hV hW e1 hR hk
      go_enter Tryd.func56, Tryd.ntmps56
      go_wp2_with fail
      refine Calls.mono (HV.out _) ?_
      rintro e w1 ⟨rfl, hb⟩
      have K1 := Lib.hid ((Blk.new w 24 #[.bool s, .int .u64 h, .int .u64 l]).alloc (.cells #[.bool false, .int .u64 0, .int .u64 0, .int .i64 0] 37) |>.below hb (by simp only [World.size_alloc]; omega))
      have R1 := Lib.hid ((Blk.new (w.alloc (.cells #[.bool s, .int .u64 h, .int .u64 l] 24)) 37 #[.bool false, .int .u64 0, .int .u64 0, .int .i64 0]).below hb (by simp only [World.size_alloc]; omega))
      have L1 := Lib.hid ((((Below.refl _ w).alloc (Nat.le_refl _) _).alloc (by simp) _).trans (hb.mono (by simp only [World.size_alloc]; omega)))
      have s1 : w.heap.size + 1 < w1.heap.size := by have := hb.size; simp only [World.size_alloc] at this; omega
      rw [World.size_alloc] at R1
      obtain ⟨f1, f2, f3⟩ := K1.out.c3
      clear hb
      obtain ⟨g1, g2, g3, g4⟩ := R1.out.c4
      have z0 := R1.out.frozen 0
      have z1 := R1.out.frozen 1
      have z2 := R1.out.frozen 2
      have z3 := R1.out.frozen 3
      go_wp2
      exact bodyPost_ret (v := .tuple #[pfx false 0 0 0, .int .i64 1]) (by simp [results, Tryd.results56, go_sem, g1, g2, g3, g4]) rfl ⟨by rw [HR.out], by (repeat (refine Below.setCell ?_ (by simp) _)); exact L1.out⟩
    · by_cases hneg : b < 0
      · clear hV hW e1 hR hk
        go_enter Tryd.func56, Tryd.ntmps56
        go_wp2_with fail
        refine Calls.mono (HV.out _) ?_
        rintro e w1 ⟨rfl, hb⟩
        have K1 := Lib.hid ((Blk.new w 24 #[.bool s, .int .u64 h, .int .u64 l]).alloc (.cells #[.bool false, .int .u64 0, .int .u64 0, .int .i64 0] 37) |>.below hb (by simp only [World.size_alloc]; omega))
        have R1 := Lib.hid ((Blk.new (w.alloc (.cells #[.bool s, .int .u64 h, .int .u64 l] 24)) 37 #[.bool false, .int .u64 0, .int .u64 0, .int .i64 0]).below hb (by simp only [World.size_alloc]; omega))
        have L1 := Lib.hid ((((Below.refl _ w).alloc (Nat.le_refl _) _).alloc (by simp) _).trans (hb.mono (by simp only [World.size_alloc]; omega)))
        have s1 : w.heap.size + 1 < w1.heap.size := by have := hb.size; simp only [World.size_alloc] at this; omega
        rw [World.size_alloc] at R1
        obtain ⟨f1, f2, f3⟩ := K1.out.c3
        clear hb
        obtain ⟨g1, g2, g3, g4⟩ := R1.out.c4
        have z0 := R1.out.frozen 0
        have z1 := R1.out.frozen 1
        have z2 := R1.out.frozen 2
        have z3 := R1.out.frozen 3
        go_wp2
        exact bodyPost_ret (v := .tuple #[pfx false 0 0 0, .int .i64 1]) (by simp [results, Tryd.results56, go_sem, g1, g2, g3, g4]) rfl ⟨by rw [HR.out], by (repeat (refine Below.setCell ?_ (by simp) _)); exact L1.out⟩
      · have hgt : b > W := okn_no hW (by simpa using hk) hneg
        clear hV hW e1 hR hk
        go_enter Tryd.func56, Tryd.ntmps56
        go_wp2_with fail
        refine Calls.mono (HV.out _) ?_
        rintro e w1 ⟨rfl, hb⟩
        have K1 := Lib.hid ((Blk.new w 24 #[.bool s, .int .u64 h, .int .u64 l]).alloc (.cells #[.bool false, .int .u64 0, .int .u64 0, .int .i64 0] 37) |>.below hb (by simp only [World.size_alloc]; omega))
        have R1 := Lib.hid ((Blk.new (w.alloc (.cells #[.bool s, .int .u64 h, .int .u64 l] 24)) 37 #[.bool false, .int .u64 0, .int .u64 0, .int .i64 0]).below hb (by simp only [World.size_alloc]; omega))
        have L1 := Lib.hid ((((Below.refl _ w).alloc (Nat.le_refl _) _).alloc (by simp) _).trans (hb.mono (by simp only [World.size_alloc]; omega)))
        have s1 : w.heap.size + 1 < w1.heap.size := by have := hb.size; simp only [World.size_alloc] at this; omega
        rw [World.size_alloc] at R1
        obtain ⟨f1, f2, f3⟩ := K1.out.c3
        clear hb
        go_wp2_with fail
        refine Calls.mono (HW.out _) ?_
        rintro e w2 ⟨rfl, hb⟩
        clear f1 f2 f3
        have R2 := Lib.hid (R1.out.below hb s1)
        have L2 := Lib.hid (L1.out.trans (hb.mono L1.out.size))
        clear hb
        obtain ⟨g1, g2, g3, g4⟩ := R2.out.c4
        have z0 := R2.out.frozen 0
        have z1 := R2.out.frozen 1
        have z2 := R2.out.frozen 2
        have z3 := R2.out.frozen 3
        go_wp2
        exact bodyPost_ret (v := .tuple #[pfx false 0 0 0, .int .i64 1]) (by simp [results, Tryd.results56, go_sem, g1, g2, g3, g4]) rfl ⟨by rw [HR.out], by (repeat (refine Below.setCell ?_ (by simp) _)); exact L2.out⟩
end Go.Proofs.YtjlmgkdieffjcaaDoor

namespace Go.Proofs.YtjlmgkdieffjcaaDoor
open Go.RowKit
set_option linter.unusedVariables false

theorem ofP_at (s : Bool) (h l : Nat) (b : Int) (hh : N64 h) (hl : N64 l) {v : Value} (e : ofP s h l b = v) (w : World) :
    Calls Tryd.prog 56 #[adr s h l, .int .i64 b] w fun e w' => e = .returned v ∧ Below w.heap.size w w' := by
  subst e; exact ofP_any s h l b hh hl w
theorem ofP_yes {s : Bool} {h l : Nat} {b : Int} (hk : vld s h l = true ∧ okn s b = true) : ofP s h l b = .tuple #[pfx s (ct h (kk s b - 64) : Nat) (ct l (kk s b) : Nat) b, .int .i64 0] := by
  unfold ofP; rw [hk.1, hk.2]; rfl
theorem ofP_no {s : Bool} {h l : Nat} {b : Int} (hk : ¬ (vld s h l = true ∧ okn s b = true)) : ofP s h l b = .tuple #[pfx false 0 0 0, .int .i64 1] := by
  unfold ofP
  rw [if_neg (by simpa using hk)]
theorem hld_not {s : Bool} {h l : Nat} {b : Int} {s' : Bool} {h' l' : Nat} (hk : ¬ (vld s' h' l' = true ∧ okn s' b = true)) : hld s h l b s' h' l' = false := by
  rw [Bool.eq_false_iff]; intro e
  unfold hld at e
  simp only [Bool.and_eq_true, decide_eq_true_eq] at e
  exact hk e.1.1.1
theorem hld_if {s : Bool} {h l : Nat} {b : Int} {s' : Bool} {h' l' : Nat} (hk : vld s' h' l' = true ∧ okn s' b = true) :
    hld s h l b s' h' l' = decide (s' = s ∧ ((ct h' (kk s' b - 64) : Nat) : Int) = h ∧ ((ct l' (kk s' b) : Nat) : Int) = l) := by
  unfold hld
  rw [hk.1, hk.2]
  rw [Bool.eq_iff_iff]
  simp only [Bool.and_eq_true, decide_eq_true_eq, Bool.true_and, and_assoc]
  exact and_congr_right fun _ => and_congr (by omega) (by omega)

set_option maxRecDepth 100000 in
set_option maxHeartbeats 4000000 in
theorem holds_any (s : Bool) (h l : Nat) (b : Int) (s' : Bool) (h' l' : Nat) (hh : N64 h') (hl : N64 l') (w : World) :
    Calls Tryd.prog 36 #[pfx s h l b, adr s' h' l'] w fun e w' => e = .returned (.bool (hld s h l b s' h' l')) ∧ Below w.heap.size w w' := by
  obtain ⟨R, hR⟩ : ∃ R, hld s h l b s' h' l' = R := ⟨_, rfl⟩
  rw [hR]
  by_cases hk : vld s' h' l' = true ∧ okn s' b = true
  · have e1 := ofP_yes hk
    rw [hld_if hk] at hR
    obtain ⟨X, hX⟩ : ∃ X, ((ct h' (kk s' b - 64) : Nat) : Int) = X := ⟨_, rfl⟩
    obtain ⟨Y, hY⟩ : ∃ Y, ((ct l' (kk s' b) : Nat) : Int) = Y := ⟨_, rfl⟩
    rw [hX, hY] at e1 hR
    obtain ⟨H, hH⟩ : ∃ H : Int, (h : Int) = H := ⟨_, rfl⟩
    obtain ⟨M, hM⟩ : ∃ M : Int, (l : Int) = M := ⟨_, rfl⟩
    rw [hH, hM] at hR
    rw [hH, hM]
    have HO := Lib.hid (fun w => ofP_at s' h' l' b hh hl e1 w)
    clear e1 hk hX hY hH hM
    have HR := Lib.hid hR
    clear hR
    by_cases c : s' = s ∧ X = H ∧ Y = M
    · obtain ⟨rfl, rfl, rfl⟩ := c
      go_enter Tryd.func36, Tryd.ntmps36
      go_wp2_with fail
      refine Calls.mono (HO.out _) ?_
      rintro e w1 ⟨rfl, hb⟩
      have K1 := Lib.hid ((Blk.new w 37 #[.bool s', .int .u64 X, .int .u64 Y, .int .i64 b]).alloc (.cells #[.bool s', .int .u64 h', .int .u64 l'] 24) |>.below hb (by simp only [World.size_alloc]; omega))
      have Q1 := Lib.hid ((Blk.new (w.alloc (.cells #[.bool s', .int .u64 X, .int .u64 Y, .int .i64 b] 37)) 24 #[.bool s', .int .u64 h', .int .u64 l']).below hb (by simp only [World.size_alloc]; omega))
      rw [World.size_alloc] at Q1
      have L1 := Lib.hid ((((Below.refl _ w).alloc (Nat.le_refl _) _).alloc (by simp) _).trans (hb.mono (by simp only [World.size_alloc]; omega)))
      have s1 : w.heap.size + 1 < w1.heap.size := by have := hb.size; simp only [World.size_alloc] at this; omega
      clear hb
      obtain ⟨f0, f1, f2, f3⟩ := K1.out.c4
      obtain ⟨g0, g1, g2⟩ := Q1.out.c3
      have N1 := Lib.hid (L1.out.alloc L1.out.size (.cells #[.bool s', .int .u64 X, .int .u64 Y, .int .i64 b] 37))
      have K9 := Lib.hid (K1.out.alloc (.cells #[.bool s', .int .u64 X, .int .u64 Y, .int .i64 b] 37))
      obtain ⟨m0, m1, m2, m3⟩ := K9.out.c4
      go_wp2
      go_ret
      exact ⟨ret_bool (by rw [← HR.out]; simp [*]), N1.out⟩
    · by_cases c1 : s' = s
      · subst c1
        by_cases c2 : X = H
        · subst c2
          have c3 : ¬ Y = M := fun e => c ⟨rfl, rfl, e⟩
          go_enter Tryd.func36, Tryd.ntmps36
          go_wp2_with fail
          refine Calls.mono (HO.out _) ?_
          rintro e w1 ⟨rfl, hb⟩
          have K1 := Lib.hid ((Blk.new w 37 #[.bool s', .int .u64 X, .int .u64 M, .int .i64 b]).alloc (.cells #[.bool s', .int .u64 h', .int .u64 l'] 24) |>.below hb (by simp only [World.size_alloc]; omega))
          have Q1 := Lib.hid ((Blk.new (w.alloc (.cells #[.bool s', .int .u64 X, .int .u64 M, .int .i64 b] 37)) 24 #[.bool s', .int .u64 h', .int .u64 l']).below hb (by simp only [World.size_alloc]; omega))
          rw [World.size_alloc] at Q1
          have L1 := Lib.hid ((((Below.refl _ w).alloc (Nat.le_refl _) _).alloc (by simp) _).trans (hb.mono (by simp only [World.size_alloc]; omega)))
          have s1 : w.heap.size + 1 < w1.heap.size := by have := hb.size; simp only [World.size_alloc] at this; omega
          clear hb
          obtain ⟨f0, f1, f2, f3⟩ := K1.out.c4
          obtain ⟨g0, g1, g2⟩ := Q1.out.c3
          have N1 := Lib.hid (L1.out.alloc L1.out.size (.cells #[.bool s', .int .u64 X, .int .u64 Y, .int .i64 b] 37))
          have K9 := Lib.hid (K1.out.alloc (.cells #[.bool s', .int .u64 X, .int .u64 Y, .int .i64 b] 37))
          obtain ⟨m0, m1, m2, m3⟩ := K9.out.c4
          go_wp2
          go_ret
          exact ⟨ret_bool (by rw [← HR.out]; simp [*]), N1.out⟩
        · skip
          go_enter Tryd.func36, Tryd.ntmps36
          go_wp2_with fail
          refine Calls.mono (HO.out _) ?_
          rintro e w1 ⟨rfl, hb⟩
          have K1 := Lib.hid ((Blk.new w 37 #[.bool s', .int .u64 H, .int .u64 M, .int .i64 b]).alloc (.cells #[.bool s', .int .u64 h', .int .u64 l'] 24) |>.below hb (by simp only [World.size_alloc]; omega))
          have Q1 := Lib.hid ((Blk.new (w.alloc (.cells #[.bool s', .int .u64 H, .int .u64 M, .int .i64 b] 37)) 24 #[.bool s', .int .u64 h', .int .u64 l']).below hb (by simp only [World.size_alloc]; omega))
          rw [World.size_alloc] at Q1
          have L1 := Lib.hid ((((Below.refl _ w).alloc (Nat.le_refl _) _).alloc (by simp) _).trans (hb.mono (by simp only [World.size_alloc]; omega)))
          have s1 : w.heap.size + 1 < w1.heap.size := by have := hb.size; simp only [World.size_alloc] at this; omega
          clear hb
          obtain ⟨f0, f1, f2, f3⟩ := K1.out.c4
          obtain ⟨g0, g1, g2⟩ := Q1.out.c3
          have N1 := Lib.hid (L1.out.alloc L1.out.size (.cells #[.bool s', .int .u64 X, .int .u64 Y, .int .i64 b] 37))
          have K9 := Lib.hid (K1.out.alloc (.cells #[.bool s', .int .u64 X, .int .u64 Y, .int .i64 b] 37))
          obtain ⟨m0, m1, m2, m3⟩ := K9.out.c4
          go_wp2
          go_ret
          exact ⟨ret_bool (by rw [← HR.out]; simp [*]), N1.out⟩
      · cases s <;> cases s'
        · exact absurd rfl c1
        · skip
          go_enter Tryd.func36, Tryd.ntmps36
          go_wp2_with fail
          refine Calls.mono (HO.out _) ?_
          rintro e w1 ⟨rfl, hb⟩
          have K1 := Lib.hid ((Blk.new w 37 #[.bool false, .int .u64 H, .int .u64 M, .int .i64 b]).alloc (.cells #[.bool true, .int .u64 h', .int .u64 l'] 24) |>.below hb (by simp only [World.size_alloc]; omega))
          have Q1 := Lib.hid ((Blk.new (w.alloc (.cells #[.bool false, .int .u64 H, .int .u64 M, .int .i64 b] 37)) 24 #[.bool true, .int .u64 h', .int .u64 l']).below hb (by simp only [World.size_alloc]; omega))
          rw [World.size_alloc] at Q1
          have L1 := Lib.hid ((((Below.refl _ w).alloc (Nat.le_refl _) _).alloc (by simp) _).trans (hb.mono (by simp only [World.size_alloc]; omega)))
          have s1 : w.heap.size + 1 < w1.heap.size := by have := hb.size; simp only [World.size_alloc] at this; omega
          clear hb
          obtain ⟨f0, f1, f2, f3⟩ := K1.out.c4
          obtain ⟨g0, g1, g2⟩ := Q1.out.c3
          have N1 := Lib.hid (L1.out.alloc L1.out.size (.cells #[.bool true, .int .u64 X, .int .u64 Y, .int .i64 b] 37))
          have K9 := Lib.hid (K1.out.alloc (.cells #[.bool true, .int .u64 X, .int .u64 Y, .int .i64 b] 37))
          obtain ⟨m0, m1, m2, m3⟩ := K9.out.c4
          go_wp2
          go_ret
          exact ⟨ret_bool (by rw [← HR.out]; simp [*]), N1.out⟩
        · skip
          go_enter Tryd.func36, Tryd.ntmps36
          go_wp2_with fail
          refine Calls.mono (HO.out _) ?_
          rintro e w1 ⟨rfl, hb⟩
          have K1 := Lib.hid ((Blk.new w 37 #[.bool true, .int .u64 H, .int .u64 M, .int .i64 b]).alloc (.cells #[.bool false, .int .u64 h', .int .u64 l'] 24) |>.below hb (by simp only [World.size_alloc]; omega))
          have Q1 := Lib.hid ((Blk.new (w.alloc (.cells #[.bool true, .int .u64 H, .int .u64 M, .int .i64 b] 37)) 24 #[.bool false, .int .u64 h', .int .u64 l']).below hb (by simp only [World.size_alloc]; omega))
          rw [World.size_alloc] at Q1
          have L1 := Lib.hid ((((Below.refl _ w).alloc (Nat.le_refl _) _).alloc (by simp) _).trans (hb.mono (by simp only [World.size_alloc]; omega)))
          have s1 : w.heap.size + 1 < w1.heap.size := by have := hb.size; simp only [World.size_alloc] at this; omega
          clear hb
          obtain ⟨f0, f1, f2, f3⟩ := K1.out.c4
          obtain ⟨g0, g1, g2⟩ := Q1.out.c3
          have N1 := Lib.hid (L1.out.alloc L1.out.size (.cells #[.bool false, .int .u64 X, .int .u64 Y, .int .i64 b] 37))
          have K9 := Lib.hid (K1.out.alloc (.cells #[.bool false, .int .u64 X, .int .u64 Y, .int .i64 b] 37))
          obtain ⟨m0, m1, m2, m3⟩ := K9.out.c4
          go_wp2
          go_ret
          exact ⟨ret_bool (by rw [← HR.out]; simp [*]), N1.out⟩
        · exact absurd rfl c1
  · have e1 := ofP_no hk
    have HO := Lib.hid (fun w => ofP_at s' h' l' b hh hl e1 w)
    rw [hld_not hk] at hR
    subst hR
    clear e1 hk
    go_enter Tryd.func36, Tryd.ntmps36
    go_wp2_with fail
    refine Calls.mono (HO.out _) ?_
    rintro e w1 ⟨rfl, hb⟩
    have K1 := Lib.hid ((Blk.new w 37 #[.bool s, .int .u64 h, .int .u64 l, .int .i64 b]).alloc (.cells #[.bool s', .int .u64 h', .int .u64 l'] 24) |>.below hb (by simp only [World.size_alloc]; omega))
    have Q1 := Lib.hid ((Blk.new (w.alloc (.cells #[.bool s, .int .u64 h, .int .u64 l, .int .i64 b] 37)) 24 #[.bool s', .int .u64 h', .int .u64 l']).below hb (by simp only [World.size_alloc]; omega))
    rw [World.size_alloc] at Q1
    have L1 := Lib.hid ((((Below.refl _ w).alloc (Nat.le_refl _) _).alloc (by simp) _).trans (hb.mono (by simp only [World.size_alloc]; omega)))
    have s1 : w.heap.size + 1 < w1.heap.size := by have := hb.size; simp only [World.size_alloc] at this; omega
    clear hb
    obtain ⟨f0, f1, f2, f3⟩ := K1.out.c4
    obtain ⟨g0, g1, g2⟩ := Q1.out.c3
    have N1 := Lib.hid (L1.out.alloc L1.out.size (.cells #[.bool false, .int .u64 0, .int .u64 0, .int .i64 0] 37))
    go_wp2
    go_ret
    exact ⟨rfl, N1.out⟩

theorem holds_at (s : Bool) (h l : Nat) (b : Int) (s' : Bool) (h' l' : Nat) (hh : N64 h') (hl : N64 l') {v : Bool} (e : hld s h l b s' h' l' = v) (w : World) :
    Calls Tryd.prog 36 #[pfx s h l b, adr s' h' l'] w fun e w' => e = .returned (.bool v) ∧ Below w.heap.size w w' := by
  subst e; exact holds_any s h l b s' h' l' hh hl w
set_option maxHeartbeats 1000000 in
theorem pvalid_at (s : Bool) (h l : Nat) (b : Int) (hh : N64 h) (hl : N64 l) {v : Bool} (e : pvl s h l b = v) (w : World) :
    Calls Tryd.prog 50 #[pfx s h l b] w fun e w' => e = .returned (.bool v) ∧ Below w.heap.size w w' := by
  have H := Lib.hid (fun w => holds_at s h l b s h l hh hl e w)
  clear e
  go_enter Tryd.func50, Tryd.ntmps50
  go_wp2_with fail
  refine Calls.mono (H.out _) ?_
  rintro e w1 ⟨rfl, hb⟩
  have L1 := Lib.hid (((Below.refl _ w).alloc (Nat.le_refl _) _).trans (hb.mono (by simp only [World.size_alloc]; omega)))
  clear hb
  go_wp2
  go_ret
  exact ⟨rfl, L1.out⟩

end Go.Proofs.YtjlmgkdieffjcaaDoor

namespace Go.Proofs.YtjlmgkdieffjcaaDoor
open Go.RowKit
set_option linter.unusedVariables false

theorem addrless_at (s : Bool) (h l : Int) (s' : Bool) (h' l' : Int) (w : World) {v : Bool} (e : lss s h l s' h' l' = v) :
    Calls Tryd.prog 62 #[adr s h l, adr s' h' l'] w fun e w' => e = .returned (.bool v) ∧ Below w.heap.size w w' := by
  subst e; exact less_any s h l s' h' l' w

set_option maxRecDepth 100000 in
set_option maxHeartbeats 4000000 in
theorem pless_at (s : Bool) (h l : Nat) (b : Int) (s' : Bool) (h' l' : Nat) (b' : Int) (hh : N64 h) (hl : N64 l) (hh' : N64 h') (hl' : N64 l') {v : Bool} (ev : pls s h l b s' h' l' b' = v) (w : World) :
    Calls Tryd.prog 49 #[pfx s h l b, pfx s' h' l' b'] w fun e w' => e = .returned (.bool v) ∧ Below w.heap.size w w' := by
  unfold pls at ev
  obtain ⟨V1, hV1⟩ : ∃ V, pvl s h l b = V := ⟨_, rfl⟩
  obtain ⟨V2, hV2⟩ : ∃ V, pvl s' h' l' b' = V := ⟨_, rfl⟩
  obtain ⟨T, hT⟩ : ∃ T, lss s h l s' h' l' = T := ⟨_, rfl⟩
  rw [hV1, hV2, hT] at ev
  have H1 := Lib.hid (fun w => pvalid_at s h l b hh hl hV1 w)
  have H2 := Lib.hid (fun w => pvalid_at s' h' l' b' hh' hl' hV2 w)
  have HT := Lib.hid (fun w => addrless_at s h l s' h' l' w hT)
  clear hV1 hV2 hT hh hl hh' hl'
  cases V1
  · simp only [Bool.false_and] at ev
    subst ev
    go_enter Tryd.func49, Tryd.ntmps49
    go_wp2_with fail
    refine Calls.mono (H1.out _) ?_
    rintro e w1 ⟨rfl, hb⟩
    have K1 := Lib.hid ((Blk.new w 37 #[.bool s, .int .u64 h, .int .u64 l, .int .i64 b]).alloc (.cells #[.bool s', .int .u64 h', .int .u64 l', .int .i64 b'] 37) |>.below hb (by simp only [World.size_alloc]; omega))
    have Q1 := Lib.hid ((Blk.new (w.alloc (.cells #[.bool s, .int .u64 h, .int .u64 l, .int .i64 b] 37)) 37 #[.bool s', .int .u64 h', .int .u64 l', .int .i64 b']).below hb (by simp only [World.size_alloc]; omega))
    rw [World.size_alloc] at Q1
    have L1 := Lib.hid ((((Below.refl _ w).alloc (Nat.le_refl _) _).alloc (by simp) _).trans (hb.mono (by simp only [World.size_alloc]; omega)))
    have s1 : w.heap.size + 1 < w1.heap.size := by have := hb.size; simp only [World.size_alloc] at this; omega
    clear hb
    obtain ⟨f0, f1, f2, f3⟩ := K1.out.c4
    obtain ⟨g0, g1, g2, g3⟩ := Q1.out.c4
    go_wp2
    go_ret
    exact ⟨rfl, L1.out⟩
  · cases V2
    · simp only [Bool.false_and, Bool.and_false] at ev
      subst ev
      go_enter Tryd.func49, Tryd.ntmps49
      go_wp2_with fail
      refine Calls.mono (H1.out _) ?_
      rintro e w1 ⟨rfl, hb⟩
      have K1 := Lib.hid ((Blk.new w 37 #[.bool s, .int .u64 h, .int .u64 l, .int .i64 b]).alloc (.cells #[.bool s', .int .u64 h', .int .u64 l', .int .i64 b'] 37) |>.below hb (by simp only [World.size_alloc]; omega))
      have Q1 := Lib.hid ((Blk.new (w.alloc (.cells #[.bool s, .int .u64 h, .int .u64 l, .int .i64 b] 37)) 37 #[.bool s', .int .u64 h', .int .u64 l', .int .i64 b']).below hb (by simp only [World.size_alloc]; omega))
      rw [World.size_alloc] at Q1
      have L1 := Lib.hid ((((Below.refl _ w).alloc (Nat.le_refl _) _).alloc (by simp) _).trans (hb.mono (by simp only [World.size_alloc]; omega)))
      have s1 : w.heap.size + 1 < w1.heap.size := by have := hb.size; simp only [World.size_alloc] at this; omega
      clear hb
      obtain ⟨f0, f1, f2, f3⟩ := K1.out.c4
      obtain ⟨g0, g1, g2, g3⟩ := Q1.out.c4
      go_wp2_with fail
      refine Calls.mono (H2.out _) ?_
      rintro e w2 ⟨rfl, hb⟩
      clear f0 f1 f2 f3 g0 g1 g2 g3
      have K2 := Lib.hid (K1.out.below hb (by omega))
      have Q2 := Lib.hid (Q1.out.below hb s1)
      have L2 := Lib.hid (L1.out.trans (hb.mono L1.out.size))
      have s2 : w.heap.size + 1 < w2.heap.size := by have := hb.size; omega
      clear hb
      obtain ⟨f0, f1, f2, f3⟩ := K2.out.c4
      obtain ⟨g0, g1, g2, g3⟩ := Q2.out.c4
      go_wp2
      go_ret
      exact ⟨rfl, L2.out⟩
    · simp only [Bool.true_and] at ev
      cases T
      · simp only [Bool.false_or] at ev
        obtain ⟨A, hA⟩ : ∃ A : Int, (h : Int) = A := ⟨_, rfl⟩
        obtain ⟨B, hB⟩ : ∃ B : Int, (l : Int) = B := ⟨_, rfl⟩
        obtain ⟨A', hA'⟩ : ∃ A : Int, (h' : Int) = A := ⟨_, rfl⟩
        obtain ⟨B', hB'⟩ : ∃ B : Int, (l' : Int) = B := ⟨_, rfl⟩
        have ev2 : decide (s = s' ∧ A = A' ∧ B = B' ∧ b < b') = v := by
          rw [← ev, ← hA, ← hB, ← hA', ← hB', Bool.eq_iff_iff]
          simp only [Bool.and_eq_true, decide_eq_true_eq, and_assoc]
          exact and_congr_right fun _ => and_congr (by omega) (and_congr_left fun _ => by omega)
        rw [hA, hB] at H1 HT ⊢
        rw [hA', hB'] at H2 HT ⊢
        clear ev hA hB hA' hB'
        by_cases c : s = s' ∧ A = A' ∧ B = B'
        · obtain ⟨rfl, rfl, rfl⟩ := c
          have ev3 := Lib.hid ev2
          clear ev2
          by_cases c4 : b < b'
          · skip
            go_enter Tryd.func49, Tryd.ntmps49
            go_wp2_with fail
            refine Calls.mono (H1.out _) ?_
            rintro e w1 ⟨rfl, hb⟩
            have K1 := Lib.hid ((Blk.new w 37 #[.bool s, .int .u64 A, .int .u64 B, .int .i64 b]).alloc (.cells #[.bool s, .int .u64 A, .int .u64 B, .int .i64 b'] 37) |>.below hb (by simp only [World.size_alloc]; omega))
            have Q1 := Lib.hid ((Blk.new (w.alloc (.cells #[.bool s, .int .u64 A, .int .u64 B, .int .i64 b] 37)) 37 #[.bool s, .int .u64 A, .int .u64 B, .int .i64 b']).below hb (by simp only [World.size_alloc]; omega))
            rw [World.size_alloc] at Q1
            have L1 := Lib.hid ((((Below.refl _ w).alloc (Nat.le_refl _) _).alloc (by simp) _).trans (hb.mono (by simp only [World.size_alloc]; omega)))
            have s1 : w.heap.size + 1 < w1.heap.size := by have := hb.size; simp only [World.size_alloc] at this; omega
            clear hb
            obtain ⟨f0, f1, f2, f3⟩ := K1.out.c4
            obtain ⟨g0, g1, g2, g3⟩ := Q1.out.c4
            go_wp2_with fail
            refine Calls.mono (H2.out _) ?_
            rintro e w2 ⟨rfl, hb⟩
            clear f0 f1 f2 f3 g0 g1 g2 g3
            have K2 := Lib.hid (K1.out.below hb (by omega))
            have Q2 := Lib.hid (Q1.out.below hb s1)
            have L2 := Lib.hid (L1.out.trans (hb.mono L1.out.size))
            have s2 : w.heap.size + 1 < w2.heap.size := by have := hb.size; omega
            clear hb
            obtain ⟨f0, f1, f2, f3⟩ := K2.out.c4
            obtain ⟨g0, g1, g2, g3⟩ := Q2.out.c4
            go_wp2_with fail
            refine Calls.mono (HT.out _) ?_
            rintro e w3 ⟨rfl, hb⟩
            clear f0 f1 f2 f3 g0 g1 g2 g3
            have K3 := Lib.hid (K2.out.below hb (by omega))
            have Q3 := Lib.hid (Q2.out.below hb s2)
            have L3 := Lib.hid (L2.out.trans (hb.mono L2.out.size))
            have s3 : w.heap.size + 1 < w3.heap.size := by have := hb.size; omega
            clear hb
            obtain ⟨f0, f1, f2, f3⟩ := K3.out.c4
            obtain ⟨g0, g1, g2, g3⟩ := Q3.out.c4
            go_wp2
            go_ret
            exact ⟨ret_bool (by rw [← ev3.out]; simp [*]), L3.out⟩
          · skip
            go_enter Tryd.func49, Tryd.ntmps49
            go_wp2_with fail
            refine Calls.mono (H1.out _) ?_
            rintro e w1 ⟨rfl, hb⟩
            have K1 := Lib.hid ((Blk.new w 37 #[.bool s, .int .u64 A, .int .u64 B, .int .i64 b]).alloc (.cells #[.bool s, .int .u64 A, .int .u64 B, .int .i64 b'] 37) |>.below hb (by simp only [World.size_alloc]; omega))
            have Q1 := Lib.hid ((Blk.new (w.alloc (.cells #[.bool s, .int .u64 A, .int .u64 B, .int .i64 b] 37)) 37 #[.bool s, .int .u64 A, .int .u64 B, .int .i64 b']).below hb (by simp only [World.size_alloc]; omega))
            rw [World.size_alloc] at Q1
            have L1 := Lib.hid ((((Below.refl _ w).alloc (Nat.le_refl _) _).alloc (by simp) _).trans (hb.mono (by simp only [World.size_alloc]; omega)))
            have s1 : w.heap.size + 1 < w1.heap.size := by have := hb.size; simp only [World.size_alloc] at this; omega
            clear hb
            obtain ⟨f0, f1, f2, f3⟩ := K1.out.c4
            obtain ⟨g0, g1, g2, g3⟩ := Q1.out.c4
            go_wp2_with fail
            refine Calls.mono (H2.out _) ?_
            rintro e w2 ⟨rfl, hb⟩
            clear f0 f1 f2 f3 g0 g1 g2 g3
            have K2 := Lib.hid (K1.out.below hb (by omega))
            have Q2 := Lib.hid (Q1.out.below hb s1)
            have L2 := Lib.hid (L1.out.trans (hb.mono L1.out.size))
            have s2 : w.heap.size + 1 < w2.heap.size := by have := hb.size; omega
            clear hb
            obtain ⟨f0, f1, f2, f3⟩ := K2.out.c4
            obtain ⟨g0, g1, g2, g3⟩ := Q2.out.c4
            go_wp2_with fail
            refine Calls.mono (HT.out _) ?_
            rintro e w3 ⟨rfl, hb⟩
            clear f0 f1 f2 f3 g0 g1 g2 g3
            have K3 := Lib.hid (K2.out.below hb (by omega))
            have Q3 := Lib.hid (Q2.out.below hb s2)
            have L3 := Lib.hid (L2.out.trans (hb.mono L2.out.size))
            have s3 : w.heap.size + 1 < w3.heap.size := by have := hb.size; omega
            clear hb
            obtain ⟨f0, f1, f2, f3⟩ := K3.out.c4
            obtain ⟨g0, g1, g2, g3⟩ := Q3.out.c4
            go_wp2
            go_ret
            exact ⟨ret_bool (by rw [← ev3.out]; simp [*]), L3.out⟩
        · have ev3 := Lib.hid ev2
          clear ev2
          by_cases c1 : s = s'
          · subst c1
            by_cases c2 : A = A'
            · subst c2
              have c3 : ¬ B = B' := fun e => c ⟨rfl, rfl, e⟩
              go_enter Tryd.func49, Tryd.ntmps49
              go_wp2_with fail
              refine Calls.mono (H1.out _) ?_
              rintro e w1 ⟨rfl, hb⟩
              have K1 := Lib.hid ((Blk.new w 37 #[.bool s, .int .u64 A, .int .u64 B, .int .i64 b]).alloc (.cells #[.bool s, .int .u64 A, .int .u64 B', .int .i64 b'] 37) |>.below hb (by simp only [World.size_alloc]; omega))
              have Q1 := Lib.hid ((Blk.new (w.alloc (.cells #[.bool s, .int .u64 A, .int .u64 B, .int .i64 b] 37)) 37 #[.bool s, .int .u64 A, .int .u64 B', .int .i64 b']).below hb (by simp only [World.size_alloc]; omega))
              rw [World.size_alloc] at Q1
              have L1 := Lib.hid ((((Below.refl _ w).alloc (Nat.le_refl _) _).alloc (by simp) _).trans (hb.mono (by simp only [World.size_alloc]; omega)))
              have s1 : w.heap.size + 1 < w1.heap.size := by have := hb.size; simp only [World.size_alloc] at this; omega
              clear hb
              obtain ⟨f0, f1, f2, f3⟩ := K1.out.c4
              obtain ⟨g0, g1, g2, g3⟩ := Q1.out.c4
              go_wp2_with fail
              refine Calls.mono (H2.out _) ?_
              rintro e w2 ⟨rfl, hb⟩
              clear f0 f1 f2 f3 g0 g1 g2 g3
              have K2 := Lib.hid (K1.out.below hb (by omega))
              have Q2 := Lib.hid (Q1.out.below hb s1)
              have L2 := Lib.hid (L1.out.trans (hb.mono L1.out.size))
              have s2 : w.heap.size + 1 < w2.heap.size := by have := hb.size; omega
              clear hb
              obtain ⟨f0, f1, f2, f3⟩ := K2.out.c4
              obtain ⟨g0, g1, g2, g3⟩ := Q2.out.c4
              go_wp2_with fail
              refine Calls.mono (HT.out _) ?_
              rintro e w3 ⟨rfl, hb⟩
              clear f0 f1 f2 f3 g0 g1 g2 g3
              have K3 := Lib.hid (K2.out.below hb (by omega))
              have Q3 := Lib.hid (Q2.out.below hb s2)
              have L3 := Lib.hid (L2.out.trans (hb.mono L2.out.size))
              have s3 : w.heap.size + 1 < w3.heap.size := by have := hb.size; omega
              clear hb
              obtain ⟨f0, f1, f2, f3⟩ := K3.out.c4
              obtain ⟨g0, g1, g2, g3⟩ := Q3.out.c4
              go_wp2
              go_ret
              exact ⟨ret_bool (by rw [← ev3.out]; simp [*]), L3.out⟩
            · skip
              go_enter Tryd.func49, Tryd.ntmps49
              go_wp2_with fail
              refine Calls.mono (H1.out _) ?_
              rintro e w1 ⟨rfl, hb⟩
              have K1 := Lib.hid ((Blk.new w 37 #[.bool s, .int .u64 A, .int .u64 B, .int .i64 b]).alloc (.cells #[.bool s, .int .u64 A', .int .u64 B', .int .i64 b'] 37) |>.below hb (by simp only [World.size_alloc]; omega))
              have Q1 := Lib.hid ((Blk.new (w.alloc (.cells #[.bool s, .int .u64 A, .int .u64 B, .int .i64 b] 37)) 37 #[.bool s, .int .u64 A', .int .u64 B', .int .i64 b']).below hb (by simp only [World.size_alloc]; omega))
              rw [World.size_alloc] at Q1
              have L1 := Lib.hid ((((Below.refl _ w).alloc (Nat.le_refl _) _).alloc (by simp) _).trans (hb.mono (by simp only [World.size_alloc]; omega)))
              have s1 : w.heap.size + 1 < w1.heap.size := by have := hb.size; simp only [World.size_alloc] at this; omega
              clear hb
              obtain ⟨f0, f1, f2, f3⟩ := K1.out.c4
              obtain ⟨g0, g1, g2, g3⟩ := Q1.out.c4
              go_wp2_with fail
              refine Calls.mono (H2.out _) ?_
              rintro e w2 ⟨rfl, hb⟩
              clear f0 f1 f2 f3 g0 g1 g2 g3
              have K2 := Lib.hid (K1.out.below hb (by omega))
              have Q2 := Lib.hid (Q1.out.below hb s1)
              have L2 := Lib.hid (L1.out.trans (hb.mono L1.out.size))
              have s2 : w.heap.size + 1 < w2.heap.size := by have := hb.size; omega
              clear hb
              obtain ⟨f0, f1, f2, f3⟩ := K2.out.c4
              obtain ⟨g0, g1, g2, g3⟩ := Q2.out.c4
              go_wp2_with fail
              refine Calls.mono (HT.out _) ?_
              rintro e w3 ⟨rfl, hb⟩
              clear f0 f1 f2 f3 g0 g1 g2 g3
              have K3 := Lib.hid (K2.out.below hb (by omega))
              have Q3 := Lib.hid (Q2.out.below hb s2)
              have L3 := Lib.hid (L2.out.trans (hb.mono L2.out.size))
              have s3 : w.heap.size + 1 < w3.heap.size := by have := hb.size; omega
              clear hb
              obtain ⟨f0, f1, f2, f3⟩ := K3.out.c4
              obtain ⟨g0, g1, g2, g3⟩ := Q3.out.c4
              go_wp2
              go_ret
              exact ⟨ret_bool (by rw [← ev3.out]; simp [*]), L3.out⟩
          · cases s <;> cases s'
            · exact absurd rfl c1
            · skip
              go_enter Tryd.func49, Tryd.ntmps49
              go_wp2_with fail
              refine Calls.mono (H1.out _) ?_
              rintro e w1 ⟨rfl, hb⟩
              have K1 := Lib.hid ((Blk.new w 37 #[.bool false, .int .u64 A, .int .u64 B, .int .i64 b]).alloc (.cells #[.bool true, .int .u64 A', .int .u64 B', .int .i64 b'] 37) |>.below hb (by simp only [World.size_alloc]; omega))
              have Q1 := Lib.hid ((Blk.new (w.alloc (.cells #[.bool false, .int .u64 A, .int .u64 B, .int .i64 b] 37)) 37 #[.bool true, .int .u64 A', .int .u64 B', .int .i64 b']).below hb (by simp only [World.size_alloc]; omega))
              rw [World.size_alloc] at Q1
              have L1 := Lib.hid ((((Below.refl _ w).alloc (Nat.le_refl _) _).alloc (by simp) _).trans (hb.mono (by simp only [World.size_alloc]; omega)))
              have s1 : w.heap.size + 1 < w1.heap.size := by have := hb.size; simp only [World.size_alloc] at this; omega
              clear hb
              obtain ⟨f0, f1, f2, f3⟩ := K1.out.c4
              obtain ⟨g0, g1, g2, g3⟩ := Q1.out.c4
              go_wp2_with fail
              refine Calls.mono (H2.out _) ?_
              rintro e w2 ⟨rfl, hb⟩
              clear f0 f1 f2 f3 g0 g1 g2 g3
              have K2 := Lib.hid (K1.out.below hb (by omega))
              have Q2 := Lib.hid (Q1.out.below hb s1)
              have L2 := Lib.hid (L1.out.trans (hb.mono L1.out.size))
              have s2 : w.heap.size + 1 < w2.heap.size := by have := hb.size; omega
              clear hb
              obtain ⟨f0, f1, f2, f3⟩ := K2.out.c4
              obtain ⟨g0, g1, g2, g3⟩ := Q2.out.c4
              go_wp2_with fail
              refine Calls.mono (HT.out _) ?_
              rintro e w3 ⟨rfl, hb⟩
              clear f0 f1 f2 f3 g0 g1 g2 g3
              have K3 := Lib.hid (K2.out.below hb (by omega))
              have Q3 := Lib.hid (Q2.out.below hb s2)
              have L3 := Lib.hid (L2.out.trans (hb.mono L2.out.size))
              have s3 : w.heap.size + 1 < w3.heap.size := by have := hb.size; omega
              clear hb
              obtain ⟨f0, f1, f2, f3⟩ := K3.out.c4
              obtain ⟨g0, g1, g2, g3⟩ := Q3.out.c4
              go_wp2
              go_ret
              exact ⟨ret_bool (by rw [← ev3.out]; simp [*]), L3.out⟩
            · skip
              go_enter Tryd.func49, Tryd.ntmps49
              go_wp2_with fail
              refine Calls.mono (H1.out _) ?_
              rintro e w1 ⟨rfl, hb⟩
              have K1 := Lib.hid ((Blk.new w 37 #[.bool true, .int .u64 A, .int .u64 B, .int .i64 b]).alloc (.cells #[.bool false, .int .u64 A', .int .u64 B', .int .i64 b'] 37) |>.below hb (by simp only [World.size_alloc]; omega))
              have Q1 := Lib.hid ((Blk.new (w.alloc (.cells #[.bool true, .int .u64 A, .int .u64 B, .int .i64 b] 37)) 37 #[.bool false, .int .u64 A', .int .u64 B', .int .i64 b']).below hb (by simp only [World.size_alloc]; omega))
              rw [World.size_alloc] at Q1
              have L1 := Lib.hid ((((Below.refl _ w).alloc (Nat.le_refl _) _).alloc (by simp) _).trans (hb.mono (by simp only [World.size_alloc]; omega)))
              have s1 : w.heap.size + 1 < w1.heap.size := by have := hb.size; simp only [World.size_alloc] at this; omega
              clear hb
              obtain ⟨f0, f1, f2, f3⟩ := K1.out.c4
              obtain ⟨g0, g1, g2, g3⟩ := Q1.out.c4
              go_wp2_with fail
              refine Calls.mono (H2.out _) ?_
              rintro e w2 ⟨rfl, hb⟩
              clear f0 f1 f2 f3 g0 g1 g2 g3
              have K2 := Lib.hid (K1.out.below hb (by omega))
              have Q2 := Lib.hid (Q1.out.below hb s1)
              have L2 := Lib.hid (L1.out.trans (hb.mono L1.out.size))
              have s2 : w.heap.size + 1 < w2.heap.size := by have := hb.size; omega
              clear hb
              obtain ⟨f0, f1, f2, f3⟩ := K2.out.c4
              obtain ⟨g0, g1, g2, g3⟩ := Q2.out.c4
              go_wp2_with fail
              refine Calls.mono (HT.out _) ?_
              rintro e w3 ⟨rfl, hb⟩
              clear f0 f1 f2 f3 g0 g1 g2 g3
              have K3 := Lib.hid (K2.out.below hb (by omega))
              have Q3 := Lib.hid (Q2.out.below hb s2)
              have L3 := Lib.hid (L2.out.trans (hb.mono L2.out.size))
              have s3 : w.heap.size + 1 < w3.heap.size := by have := hb.size; omega
              clear hb
              obtain ⟨f0, f1, f2, f3⟩ := K3.out.c4
              obtain ⟨g0, g1, g2, g3⟩ := Q3.out.c4
              go_wp2
              go_ret
              exact ⟨ret_bool (by rw [← ev3.out]; simp [*]), L3.out⟩
            · exact absurd rfl c1
      · simp only [Bool.true_or] at ev
        subst ev
        go_enter Tryd.func49, Tryd.ntmps49
        go_wp2_with fail
        refine Calls.mono (H1.out _) ?_
        rintro e w1 ⟨rfl, hb⟩
        have K1 := Lib.hid ((Blk.new w 37 #[.bool s, .int .u64 h, .int .u64 l, .int .i64 b]).alloc (.cells #[.bool s', .int .u64 h', .int .u64 l', .int .i64 b'] 37) |>.below hb (by simp only [World.size_alloc]; omega))
        have Q1 := Lib.hid ((Blk.new (w.alloc (.cells #[.bool s, .int .u64 h, .int .u64 l, .int .i64 b] 37)) 37 #[.bool s', .int .u64 h', .int .u64 l', .int .i64 b']).below hb (by simp only [World.size_alloc]; omega))
        rw [World.size_alloc] at Q1
        have L1 := Lib.hid ((((Below.refl _ w).alloc (Nat.le_refl _) _).alloc (by simp) _).trans (hb.mono (by simp only [World.size_alloc]; omega)))
        have s1 : w.heap.size + 1 < w1.heap.size := by have := hb.size; simp only [World.size_alloc] at this; omega
        clear hb
        obtain ⟨f0, f1, f2, f3⟩ := K1.out.c4
        obtain ⟨g0, g1, g2, g3⟩ := Q1.out.c4
        go_wp2_with fail
        refine Calls.mono (H2.out _) ?_
        rintro e w2 ⟨rfl, hb⟩
        clear f0 f1 f2 f3 g0 g1 g2 g3
        have K2 := Lib.hid (K1.out.below hb (by omega))
        have Q2 := Lib.hid (Q1.out.below hb s1)
        have L2 := Lib.hid (L1.out.trans (hb.mono L1.out.size))
        have s2 : w.heap.size + 1 < w2.heap.size := by have := hb.size; omega
        clear hb
        obtain ⟨f0, f1, f2, f3⟩ := K2.out.c4
        obtain ⟨g0, g1, g2, g3⟩ := Q2.out.c4
        go_wp2_with fail
        refine Calls.mono (HT.out _) ?_
        rintro e w3 ⟨rfl, hb⟩
        clear f0 f1 f2 f3 g0 g1 g2 g3
        have K3 := Lib.hid (K2.out.below hb (by omega))
        have Q3 := Lib.hid (Q2.out.below hb s2)
        have L3 := Lib.hid (L2.out.trans (hb.mono L2.out.size))
        have s3 : w.heap.size + 1 < w3.heap.size := by have := hb.size; omega
        clear hb
        obtain ⟨f0, f1, f2, f3⟩ := K3.out.c4
        obtain ⟨g0, g1, g2, g3⟩ := Q3.out.c4
        go_wp2
        go_ret
        exact ⟨rfl, L3.out⟩
end Go.Proofs.YtjlmgkdieffjcaaDoor
