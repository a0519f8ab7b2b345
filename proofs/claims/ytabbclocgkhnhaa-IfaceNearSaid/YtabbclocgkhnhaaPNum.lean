/-
  Numbers of W bits, and ranges of first bits: what is left, what is shared, who holds whom, the order, the halves.
-/
import Derived.Laws.BitsAllLaws
import Derived.Test.YtabbclocgkhnhaaValid
namespace Go.Proofs.Ytabbclocgkhnhaa
set_option linter.unusedVariables false

theorem pw (k : Nat) : 0 < 2 ^ k := Nat.two_pow_pos k
/-- All of a number but its lowest k bits. -/
def ct (n k : Nat) : Nat := n / 2 ^ k * 2 ^ k
theorem ct_le (n k : Nat) : ct n k ≤ n := Nat.div_mul_le_self _ _
theorem ct_zero (n : Nat) : ct n 0 = n := by simp [ct]
theorem ct_ct (n k : Nat) : ct (ct n k) k = ct n k := by unfold ct; rw [Nat.mul_div_cancel _ (pw k)]
theorem ct_div (n k : Nat) : ct n k / 2 ^ k = n / 2 ^ k := by unfold ct; rw [Nat.mul_div_cancel _ (pw k)]
theorem ct_eq {n m k : Nat} : ct n k = ct m k ↔ n / 2 ^ k = m / 2 ^ k := by
  constructor
  · intro h; rw [← ct_div n, ← ct_div m, h]
  · intro h; unfold ct; rw [h]
theorem div_pow_add (n a b : Nat) : n / 2 ^ (a + b) = n / 2 ^ a / 2 ^ b := by rw [Nat.pow_add, Nat.div_div_eq_div_mul]
theorem div_mono {n m a b : Nat} (h : n / 2 ^ a = m / 2 ^ a) (hab : a ≤ b) : n / 2 ^ b = m / 2 ^ b := by
  obtain ⟨c, rfl⟩ := Nat.exists_eq_add_of_le hab
  rw [div_pow_add, div_pow_add, h]
theorem ct_lt {n k : Nat} (h : n < 2 ^ k) : ct n k = 0 := by unfold ct; rw [Nat.div_eq_of_lt h, Nat.zero_mul]
theorem ct_trans {n j k : Nat} (h : j ≤ k) : ct (ct n j) k = ct n k := by
  apply ct_eq.2
  exact div_mono (by rw [ct_div]) h

/-- The mask of the first 64 - k bits. -/
theorem and_mask (x k : Nat) (hx : x < 2 ^ 64) (hk : k ≤ 64) : x &&& (2 ^ 64 - 2 ^ k) = ct x k := by
  apply Nat.eq_of_testBit_eq
  intro i
  have e : 2 ^ 64 - 2 ^ k = 2 ^ 64 - ((2 ^ k - 1) + 1) := by have := pw k; omega
  have hlt : 2 ^ k - 1 < 2 ^ 64 := by
    have h1 : 2 ^ k ≤ 2 ^ 64 := Nat.pow_le_pow_right (by decide) hk
    have := pw k; omega
  unfold ct
  rw [Nat.testBit_and, e, Nat.testBit_two_pow_sub_succ hlt, Nat.testBit_two_pow_sub_one, ← Nat.shiftRight_eq_div_pow, ← Nat.shiftLeft_eq, Nat.testBit_shiftLeft, Nat.testBit_shiftRight]
  by_cases h1 : i < k
  · simp [h1]; omega
  · have h2 : k ≤ i := by omega
    rw [show k + (i - k) = i by omega]
    by_cases h3 : i < 64
    · simp [h1, h2, h3]
    · have : x.testBit i = false := Nat.testBit_lt_two_pow (Nat.lt_of_lt_of_le hx (Nat.pow_le_pow_right (by decide) (by omega)))
      simp [this]

/-- How many of the lowest k bits, from the highest on, two numbers share. -/
def cmn : Nat → Nat → Nat → Nat
  | 0, _, _ => 0
  | k + 1, n, m => if n / 2 ^ k % 2 = m / 2 ^ k % 2 then cmn k n m + 1 else 0
theorem cmn_succ (k n m : Nat) : cmn (k + 1) n m = if n / 2 ^ k % 2 = m / 2 ^ k % 2 then cmn k n m + 1 else 0 := rfl
theorem cmn_le : ∀ k n m, cmn k n m ≤ k
  | 0, _, _ => Nat.le_refl _
  | k + 1, n, m => by
    unfold cmn
    split
    · have := cmn_le k n m; omega
    · omega
theorem dv_step (n k : Nat) : n / 2 ^ k = n / 2 ^ (k + 1) * 2 + n / 2 ^ k % 2 := by
  rw [Nat.pow_succ, ← Nat.div_div_eq_div_mul]; omega
theorem div_bit {n m k : Nat} (h : n / 2 ^ (k + 1) = m / 2 ^ (k + 1)) : n / 2 ^ k = m / 2 ^ k ↔ n / 2 ^ k % 2 = m / 2 ^ k % 2 := by
  constructor
  · intro e; rw [e]
  · intro e; rw [dv_step n k, dv_step m k, h, e]
/-- As many first bits are the same just if the numbers that they make are. -/
theorem cmn_ge : ∀ (k n m : Nat), n / 2 ^ k = m / 2 ^ k → ∀ b, b ≤ k → (b ≤ cmn k n m ↔ n / 2 ^ (k - b) = m / 2 ^ (k - b))
  | 0, n, m, h, b, hb => by
    obtain rfl : b = 0 := by omega
    simpa [cmn] using h
  | k + 1, n, m, h, b, hb => by
    cases b with
    | zero => simpa using h
    | succ b =>
      unfold cmn
      rw [show k + 1 - (b + 1) = k - b by omega]
      by_cases e : n / 2 ^ k % 2 = m / 2 ^ k % 2
      · rw [if_pos e]
        have h1 := (div_bit h).2 e
        have := cmn_ge k n m h1 b (by omega)
        omega
      · rw [if_neg e]
        refine ⟨fun x => by omega, fun x => ?_⟩
        exact absurd ((div_bit h).1 (div_mono x (by omega))) e
theorem cmn_small (k j n m : Nat) (hn : n < 2 ^ k) (hm : m < 2 ^ k) : cmn (k + j) n m = cmn k n m + j := by
  induction j with
  | zero => rfl
  | succ j ih =>
    show cmn (k + j + 1) n m = _
    rw [cmn_succ]
    have e : 2 ^ k ≤ 2 ^ (k + j) := Nat.pow_le_pow_right (by decide) (by omega)
    rw [Nat.div_eq_of_lt (Nat.lt_of_lt_of_le hn e), Nat.div_eq_of_lt (Nat.lt_of_lt_of_le hm e), if_pos rfl, ih]
    omega
theorem cmn_self (k n : Nat) : cmn k n n = k := by
  induction k with
  | zero => rfl
  | succ k ih => unfold cmn; rw [if_pos rfl, ih]
theorem cmn_comm (k n m : Nat) : cmn k n m = cmn k m n := by
  induction k with
  | zero => rfl
  | succ k ih =>
    unfold cmn
    by_cases h : n / 2 ^ k % 2 = m / 2 ^ k % 2
    · rw [if_pos h, if_pos h.symm, ih]
    · rw [if_neg h, if_neg (fun e => h e.symm)]

/-- Two numbers of 64 bits, one behind the other. -/
def nm (h l : Nat) : Nat := h * 2 ^ 64 + l
theorem nm_ct (h l k : Nat) (hl : l < 2 ^ 64) : ct (nm h l) k = nm (ct h (k - 64)) (ct l k) := by
  unfold nm
  rcases Nat.lt_or_ge k 64 with hk | hk
  · rw [show k - 64 = 0 by omega, ct_zero]
    unfold ct
    have e : (2 : Nat) ^ 64 = 2 ^ (64 - k) * 2 ^ k := by rw [← Nat.pow_add]; congr 1; omega
    have e2 : h * 2 ^ 64 = 2 ^ k * (h * 2 ^ (64 - k)) := by rw [e, Nat.mul_comm (2 ^ (64 - k)), ← Nat.mul_assoc, Nat.mul_comm h, Nat.mul_assoc]
    rw [e2, Nat.mul_add_div (pw k), Nat.add_mul, Nat.mul_comm (2 ^ k) (h * 2 ^ (64 - k))]
  · have hl0 : ct l k = 0 := ct_lt (Nat.lt_of_lt_of_le hl (Nat.pow_le_pow_right (by decide) hk))
    rw [hl0]
    obtain ⟨c, rfl⟩ := Nat.exists_eq_add_of_le hk
    rw [show 64 + c - 64 = c by omega]
    unfold ct
    rw [div_pow_add, Nat.mul_comm h, Nat.mul_add_div (pw 64), Nat.div_eq_of_lt hl, Nat.add_zero, Nat.add_zero, Nat.pow_add]
    rw [Nat.mul_comm (2 ^ 64) (2 ^ c), ← Nat.mul_assoc]
theorem nm_inj {h l h' l' : Nat} (hl : l < 2 ^ 64) (hl' : l' < 2 ^ 64) : nm h l = nm h' l' ↔ h = h' ∧ l = l' := by
  unfold nm
  refine ⟨fun e => ?_, fun ⟨a, b⟩ => by rw [a, b]⟩
  omega
theorem nm_bit_hi (h l k : Nat) (hl : l < 2 ^ 64) : nm h l / 2 ^ (64 + k) = h / 2 ^ k := by
  unfold nm
  rw [div_pow_add, Nat.mul_comm h, Nat.mul_add_div (pw 64), Nat.div_eq_of_lt hl, Nat.add_zero]
theorem nm_bit_lo (h l k : Nat) (hk : k < 64) : nm h l / 2 ^ k % 2 = l / 2 ^ k % 2 := by
  unfold nm
  have e : (2 : Nat) ^ 64 = 2 ^ (64 - k) * 2 ^ k := by rw [← Nat.pow_add]; congr 1; omega
  have e2 : h * 2 ^ 64 = 2 ^ k * (h * 2 ^ (64 - k)) := by rw [e, Nat.mul_comm (2 ^ (64 - k)), ← Nat.mul_assoc, Nat.mul_comm h, Nat.mul_assoc]
  have e3 : (2 : Nat) ^ (64 - k) = 2 * 2 ^ (64 - k - 1) := by rw [← Nat.pow_succ']; congr 1; omega
  rw [e2, Nat.mul_add_div (pw k), e3, Nat.mul_left_comm, Nat.mul_add_mod]

/-- Bit i of a number of W bits, the highest first. -/
def bt (n W i : Nat) : Nat := n / 2 ^ (W - 1 - i) % 2
theorem bt_le (n W i : Nat) : bt n W i ≤ 1 := by unfold bt; omega
theorem bt_ct (n W b i : Nat) (hb : b ≤ W) (hi : i < W) : bt (ct n (W - b)) W i = if i < b then bt n W i else 0 := by
  unfold bt
  by_cases h : i < b
  · rw [if_pos h, div_mono (ct_div n (W - b)) (by omega)]
  · rw [if_neg h]
    obtain ⟨c, hc⟩ := Nat.exists_eq_add_of_le (show W - 1 - i + 1 ≤ W - b by omega)
    unfold ct
    rw [hc, Nat.pow_add, Nat.pow_succ]
    obtain ⟨Q, hQ⟩ : ∃ Q, Q = n / (2 ^ (W - 1 - i) * 2 * 2 ^ c) := ⟨_, rfl⟩
    rw [← hQ, show Q * (2 ^ (W - 1 - i) * 2 * 2 ^ c) = 2 ^ (W - 1 - i) * (2 * (Q * 2 ^ c)) by simp only [Nat.mul_assoc, Nat.mul_left_comm, Nat.mul_comm], Nat.mul_div_cancel_left _ (pw _), Nat.mul_mod_right]
theorem ct_up {n W b : Nat} (hb : b < W) : ct (ct n (W - b) + 2 ^ (W - b - 1)) (W - b - 1) = ct n (W - b) + 2 ^ (W - b - 1) := by
  obtain ⟨k, hk⟩ : ∃ k, k = W - b - 1 := ⟨_, rfl⟩
  rw [← hk, show W - b = k + 1 by omega]
  unfold ct
  rw [Nat.pow_succ, Nat.mul_comm (2 ^ k) 2, ← Nat.mul_assoc, ← Nat.succ_mul, Nat.mul_div_cancel _ (pw k)]
theorem bt_up (n W b i : Nat) (hb : b < W) (hi : i < W) : bt (ct n (W - b) + 2 ^ (W - b - 1)) W i = if i < b then bt n W i else if i = b then 1 else 0 := by
  by_cases h : i < b
  · rw [if_pos h]
    have h1 := bt_ct n W b i (by omega) hi
    rw [if_pos h] at h1
    rw [← h1]
    unfold bt
    obtain ⟨c, hc⟩ := Nat.exists_eq_add_of_le (show W - b ≤ W - 1 - i by omega)
    rw [hc, div_pow_add, div_pow_add]
    congr 2
    unfold ct
    rw [Nat.mul_comm (n / _), Nat.mul_add_div (pw _), Nat.div_eq_of_lt (Nat.pow_lt_pow_right (by decide) (by omega)), Nat.add_zero, Nat.mul_div_cancel_left _ (pw _)]
  · rw [if_neg h]
    by_cases h2 : i = b
    · rw [if_pos h2]
      subst h2
      unfold bt ct
      obtain ⟨k, hk⟩ : ∃ k, k = W - i - 1 := ⟨_, rfl⟩
      rw [show W - i = k + 1 by omega, show W - 1 - i = k by omega, show k + 1 - 1 = k by omega]
      rw [Nat.pow_succ, Nat.mul_comm (2 ^ k) 2, ← Nat.mul_assoc, ← Nat.succ_mul, Nat.mul_div_cancel _ (pw k)]
      omega
    · rw [if_neg h2]
      have h1 := bt_ct (ct n (W - b) + 2 ^ (W - b - 1)) W (b + 1) i (by omega) hi
      rw [if_neg (by omega), show W - (b + 1) = W - b - 1 by omega, ct_up hb] at h1
      exact h1

/-- The number that bits make. -/
def f2 (zs : List Int) : Int := zs.foldl (fun a z => a * 2 + z) 0
theorem f2_snoc (zs : List Int) (z : Int) : f2 (zs ++ [z]) = f2 zs * 2 + z := by unfold f2; rw [List.foldl_append]; rfl
/-- Bits of a number, as a list. -/
def IsBits (n W : Nat) (zs : List Int) : Prop := zs.length = W ∧ ∀ i, i < W → zs[i]? = some ((bt n W i : Nat) : Int)
theorem f2_take {n W : Nat} {zs : List Int} (h : IsBits n W zs) (hn : n < 2 ^ W) : ∀ j, j ≤ W → f2 (zs.take j) = ((n / 2 ^ (W - j) : Nat) : Int)
  | 0, _ => by rw [List.take_zero, Nat.sub_zero, Nat.div_eq_of_lt hn]; rfl
  | j + 1, hj => by
    obtain ⟨h1, h2⟩ := h
    have e : zs.take (j + 1) = zs.take j ++ [((bt n W j : Nat) : Int)] := by
      rw [List.take_add_one, h2 j (by omega)]; rfl
    rw [e, f2_snoc, f2_take ⟨h1, h2⟩ hn j (by omega)]
    unfold bt
    have := dv_step n (W - 1 - j)
    rw [show W - 1 - j + 1 = W - j by omega] at this
    rw [show W - (j + 1) = W - 1 - j by omega, this]
    omega
theorem f2_all {n W : Nat} {zs : List Int} (h : IsBits n W zs) (hn : n < 2 ^ W) : f2 zs = (n : Int) := by
  have := f2_take h hn W (Nat.le_refl _)
  rw [List.take_of_length_le (by rw [h.1]; exact Nat.le_refl _), Nat.sub_self, Nat.pow_zero, Nat.div_one] at this
  exact this
theorem f2_hi {h l : Nat} {zs : List Int} (hb : IsBits (nm h l) 128 zs) (hh : h < 2 ^ 64) (hl : l < 2 ^ 64) : f2 (zs.take 64) = (h : Int) := by
  have e : nm h l < 2 ^ 128 := by unfold nm; omega
  rw [f2_take hb e 64 (by decide), show 128 - 64 = 64 + 0 by decide, nm_bit_hi h l 0 hl, Nat.pow_zero, Nat.div_one]
theorem f2_lo {h l : Nat} {zs : List Int} (hb : IsBits (nm h l) 128 zs) (hl : l < 2 ^ 64) : f2 (zs.drop 64) = (l : Int) := by
  refine f2_all (W := 64) ⟨by rw [List.length_drop, hb.1], fun i hi => ?_⟩ hl
  rw [List.getElem?_drop, hb.2 (64 + i) (by omega)]
  unfold bt
  rw [show 128 - 1 - (64 + i) = 64 - 1 - i by omega, nm_bit_lo h l _ (by omega)]

/-- The last number that has the same bits but the lowest k. -/
theorem or_rest (x k : Nat) (hx : ct x k = x) : x ||| (2 ^ k - 1) = x + (2 ^ k - 1) :=
  nat_join k x _ (by rw [← hx]; unfold ct; exact Nat.mul_mod_left _ _) (by have := pw k; omega)
theorem nm_last (h l k : Nat) (hl : l < 2 ^ 64) (hk : k ≤ 128) (e1 : ct h (k - 64) = h) (e2 : ct l k = l) : nm (h + (2 ^ (k - 64) - 1)) (l + (2 ^ (min k 64) - 1)) = nm h l + (2 ^ k - 1) := by
  unfold nm
  rcases Nat.lt_or_ge k 64 with hk | hk
  · rw [show k - 64 = 0 by omega, show min k 64 = k by omega]
    omega
  · have hl0 : l = 0 := by
      rw [← e2]; exact ct_lt (Nat.lt_of_lt_of_le hl (Nat.pow_le_pow_right (by decide) hk))
    obtain ⟨c, rfl⟩ := Nat.exists_eq_add_of_le hk
    rw [show 64 + c - 64 = c by omega, show min (64 + c) 64 = 64 by omega, hl0, Nat.pow_add]
    have := pw c
    rw [Nat.add_mul, Nat.sub_mul, Nat.mul_comm (2 ^ 64) (2 ^ c)]
    have : 2 ^ 64 ≤ 2 ^ c * 2 ^ 64 := Nat.le_mul_of_pos_left _ this
    omega
theorem ct_last {n k : Nat} (hk : 0 < k) (e : ct n k = n) : ct (n + (2 ^ k - 1)) (k - 1) = n + 2 ^ (k - 1) := by
  obtain ⟨j, rfl⟩ : ∃ j, k = j + 1 := ⟨k - 1, by omega⟩
  rw [show j + 1 - 1 = j by omega]
  rw [← e]
  unfold ct
  obtain ⟨q, hq⟩ : ∃ q, q = n / 2 ^ (j + 1) := ⟨_, rfl⟩
  rw [← hq]
  have := pw j
  have e3 : q * 2 ^ (j + 1) + (2 ^ (j + 1) - 1) = 2 ^ j * (2 * q + 1) + (2 ^ j - 1) := by
    have a1 : q * 2 ^ (j + 1) = q * 2 ^ j * 2 := by rw [Nat.pow_succ, Nat.mul_assoc]
    have a2 : 2 ^ j * (2 * q + 1) = q * 2 ^ j * 2 + 2 ^ j := by rw [Nat.mul_add, Nat.mul_one, Nat.mul_comm 2 q, ← Nat.mul_assoc, Nat.mul_comm (2 ^ j) q]
    have a3 : (2 : Nat) ^ (j + 1) = 2 ^ j * 2 := Nat.pow_succ _ _
    omega
  rw [e3, Nat.mul_add_div this, Nat.div_eq_of_lt (by omega), Nat.add_zero, Nat.add_mul, Nat.one_mul, Nat.pow_succ]
  rw [Nat.mul_comm 2 q, Nat.mul_assoc, Nat.mul_comm 2 (2 ^ j)]
theorem ct_step {n k : Nat} (e : ct n k = n) : ct n (k - 1) = n := by
  have h : ct (ct n k) (k - 1) = ct n k := by
    rcases Nat.eq_zero_or_pos k with rfl | hk
    · rw [ct_zero, ct_zero]
    · obtain ⟨j, rfl⟩ : ∃ j, k = j + 1 := ⟨k - 1, by omega⟩
      rw [show j + 1 - 1 = j by omega]
      unfold ct
      rw [Nat.pow_succ, Nat.mul_comm (2 ^ j) 2, ← Nat.mul_assoc, Nat.mul_div_cancel _ (pw j)]
  rw [e] at h
  exact h

/-- How many bits an address has. -/
def wd (s : Bool) : Nat := if s then 128 else 32
def okn (s : Bool) (b : Int) : Bool := decide (0 ≤ b) && decide (b ≤ (wd s : Int))
/-- How many bits stand behind the first b. -/
def kk (s : Bool) (b : Int) : Nat := wd s - b.toNat
/-- Whether an address is held. -/
def hld (s : Bool) (h l : Nat) (b : Int) (s' : Bool) (h' l' : Nat) : Bool :=
  vld s' h' l' && okn s' b && decide (s' = s) && decide (ct h' (kk s' b - 64) = h) && decide (ct l' (kk s' b) = l)
def pvl (s : Bool) (h l : Nat) (b : Int) : Bool := hld s h l b s h l
def cov (s : Bool) (h l : Nat) (b : Int) (s' : Bool) (h' l' : Nat) (b' : Int) : Bool := pvl s' h' l' b' && decide (b ≤ b') && hld s h l b s' h' l'
def pls (s : Bool) (h l : Nat) (b : Int) (s' : Bool) (h' l' : Nat) (b' : Int) : Bool :=
  pvl s h l b && pvl s' h' l' b' && (lss s h l s' h' l' || (decide (s = s') && decide (h = h') && decide (l = l') && decide (b < b')))

def N64 (n : Nat) : Prop := n < 18446744073709551616
theorem N64.lt {n : Nat} (h : N64 n) : n < 2 ^ 64 := h
theorem kk_le (s : Bool) (b : Int) : kk s b ≤ 128 := by unfold kk wd; split <;> omega
theorem okn_iff {s : Bool} {b : Int} : okn s b = true ↔ 0 ≤ b ∧ b ≤ (wd s : Int) := by simp [okn]
theorem hld_iff {s : Bool} {h l : Nat} {b : Int} {s' : Bool} {h' l' : Nat} (hl : N64 l) (hl' : N64 l') :
    hld s h l b s' h' l' = true ↔ vld s' h' l' = true ∧ okn s' b = true ∧ s' = s ∧ ct (nm h' l') (kk s' b) = nm h l := by
  have e : ct (nm h' l') (kk s' b) = nm h l ↔ ct h' (kk s' b - 64) = h ∧ ct l' (kk s' b) = l := by
    rw [nm_ct h' l' _ hl'.lt]
    exact nm_inj (Nat.lt_of_le_of_lt (ct_le _ _) hl'.lt) hl.lt
  rw [e]
  unfold hld
  simp only [Bool.and_eq_true, decide_eq_true_eq]
  constructor
  · rintro ⟨⟨⟨⟨a, b⟩, c⟩, d⟩, e⟩; exact ⟨a, b, c, d, e⟩
  · rintro ⟨a, b, c, d, e⟩; exact ⟨⟨⟨⟨a, b⟩, c⟩, d⟩, e⟩
theorem pvl_iff {s : Bool} {h l : Nat} {b : Int} (hl : N64 l) : pvl s h l b = true ↔ vld s h l = true ∧ okn s b = true ∧ ct (nm h l) (kk s b) = nm h l := by
  unfold pvl
  rw [hld_iff hl hl]
  exact ⟨fun ⟨a, b, _, c⟩ => ⟨a, b, c⟩, fun ⟨a, b, c⟩ => ⟨a, b, rfl, c⟩⟩
/-- What is cut of a valid address is one. -/
theorem vld_ct {s : Bool} {h l h' l' k : Nat} (hl : N64 l) (hl' : N64 l') (hv : vld s h' l' = true) (e : ct (nm h' l') k = nm h l) : vld s h l = true := by
  cases s
  · obtain ⟨e1, e2⟩ := vld_four hv
    rw [nm_ct h' l' _ hl'.lt] at e
    obtain ⟨a, b⟩ := (nm_inj (Nat.lt_of_le_of_lt (ct_le _ _) hl'.lt) hl.lt).1 e
    have h1 := ct_le h' (k - 64)
    have h2 := ct_le l' k
    have h0 : h = 0 := by omega
    have h3 : (l : Int) ≤ 4294967295 := by omega
    subst h0
    simp [vld]; omega
  · rfl
/-- Whoever holds is valid; the address is. -/
theorem hld_pvl {s : Bool} {h l : Nat} {b : Int} {s' : Bool} {h' l' : Nat} (hl : N64 l) (hl' : N64 l') (hh : hld s h l b s' h' l' = true) : pvl s h l b = true := by
  obtain ⟨a, b, rfl, c⟩ := (hld_iff hl hl').1 hh
  refine (pvl_iff hl).2 ⟨vld_ct hl hl' a c, b, ?_⟩
  rw [← c, ct_ct]
theorem hld_via {s : Bool} {h l : Nat} {b : Int} {s' : Bool} {h' l' : Nat} (hl : N64 l) (hl' : N64 l') :
    hld s h l b s' h' l' = true ↔ pvl s h l b = true ∧ vld s' h' l' = true ∧ s = s' ∧ nm h l / 2 ^ kk s b = nm h' l' / 2 ^ kk s b := by
  constructor
  · intro hh
    refine ⟨hld_pvl hl hl' hh, ?_⟩
    obtain ⟨a, b, rfl, c⟩ := (hld_iff hl hl').1 hh
    refine ⟨a, rfl, ?_⟩
    rw [← c, ct_div]
  · rintro ⟨hp, a, rfl, c⟩
    obtain ⟨x, y, z⟩ := (pvl_iff hl).1 hp
    refine (hld_iff hl hl').2 ⟨a, y, rfl, ?_⟩
    rw [← z, ct_eq, c]
theorem cov_iff {s : Bool} {h l : Nat} {b : Int} {s' : Bool} {h' l' : Nat} {b' : Int} (hl : N64 l) (hl' : N64 l') :
    cov s h l b s' h' l' b' = true ↔ pvl s' h' l' b' = true ∧ b ≤ b' ∧ hld s h l b s' h' l' = true := by
  unfold cov
  simp only [Bool.and_eq_true, decide_eq_true_eq]
  exact ⟨fun ⟨⟨a, b⟩, c⟩ => ⟨a, b, c⟩, fun ⟨a, b, c⟩ => ⟨⟨a, b⟩, c⟩⟩
theorem kk_mono {s : Bool} {b b' : Int} (h : b ≤ b') : kk s b' ≤ kk s b := by unfold kk; omega

/-- Whoever is held by the lesser is held by the greater. -/
theorem nest_in {s : Bool} {h l : Nat} {b : Int} {s' : Bool} {h' l' : Nat} {b' : Int} {z : Bool} {m n : Nat} (hl : N64 l) (hl' : N64 l') (hn : N64 n)
    (x : cov s h l b s' h' l' b' = true) (y : hld s' h' l' b' z m n = true) : hld s h l b z m n = true := by
  obtain ⟨_, hb, x2⟩ := (cov_iff hl hl').1 x
  obtain ⟨a1, a2, rfl, a3⟩ := (hld_iff hl hl').1 x2
  obtain ⟨c1, c2, rfl, c3⟩ := (hld_iff hl' hn).1 y
  refine (hld_iff hl hn).2 ⟨c1, a2, rfl, ?_⟩
  rw [← a3, ← c3, ct_trans (kk_mono hb)]
/-- Of two that hold the same one covers the other. -/
theorem nest_or {s : Bool} {h l : Nat} {b : Int} {s' : Bool} {h' l' : Nat} {b' : Int} {z : Bool} {m n : Nat} (hl : N64 l) (hl' : N64 l') (hn : N64 n)
    (x : hld s h l b z m n = true) (y : hld s' h' l' b' z m n = true) (hb : b ≤ b') : cov s h l b s' h' l' b' = true := by
  refine (cov_iff hl hl').2 ⟨hld_pvl hl' hn y, hb, ?_⟩
  obtain ⟨a1, a2, rfl, a3⟩ := (hld_iff hl hn).1 x
  obtain ⟨c1, c2, rfl, c3⟩ := (hld_iff hl' hn).1 y
  refine (hld_iff hl hl').2 ⟨vld_ct hl' hn c1 c3, a2, rfl, ?_⟩
  rw [← a3, ← c3, ct_trans (kk_mono hb)]
theorem nest_eq {s : Bool} {h l : Nat} {b : Int} {s' : Bool} {h' l' : Nat} {b' : Int} (hl : N64 l) (hl' : N64 l') :
    (cov s h l b s' h' l' b' && cov s' h' l' b' s h l b) = (decide (s = s' ∧ h = h' ∧ l = l' ∧ b = b') && pvl s h l b) := by
  rw [Bool.eq_iff_iff]
  simp only [Bool.and_eq_true, decide_eq_true_eq]
  constructor
  · rintro ⟨x, y⟩
    obtain ⟨x1, x2, x3⟩ := (cov_iff hl hl').1 x
    obtain ⟨y1, y2, y3⟩ := (cov_iff hl' hl).1 y
    obtain rfl : b = b' := by omega
    obtain ⟨a1, a2, rfl, a3⟩ := (hld_iff hl hl').1 x3
    obtain ⟨_, _, c3⟩ := (pvl_iff hl').1 x1
    rw [c3] at a3
    obtain ⟨e1, e2⟩ := (nm_inj hl'.lt hl.lt).1 a3
    exact ⟨⟨rfl, e1.symm, e2.symm, rfl⟩, y1⟩
  · rintro ⟨⟨rfl, rfl, rfl, rfl⟩, p⟩
    have : cov s h l b s h l b = true := (cov_iff hl hl).2 ⟨p, Int.le_refl _, p⟩
    exact ⟨this, this⟩

/-- Where an address stands. -/
def rk (s : Bool) (h l : Nat) : Nat := (if s then 2 ^ 128 else 0) + nm h l
theorem rk_lt {s : Bool} {h l : Nat} (hh : N64 h) (hl : N64 l) : nm h l < 2 ^ 128 := by unfold N64 at *; unfold nm; omega
theorem rk_inj {s : Bool} {h l : Nat} {s' : Bool} {h' l' : Nat} (hh : N64 h) (hl : N64 l) (hh' : N64 h') (hl' : N64 l') :
    rk s h l = rk s' h' l' ↔ s = s' ∧ h = h' ∧ l = l' := by
  have a := rk_lt (s := s) hh hl
  have b := rk_lt (s := s') hh' hl'
  unfold N64 at *
  unfold rk nm at *
  cases s <;> cases s' <;> simp <;> omega
theorem lss_iff {s : Bool} {h l : Nat} {s' : Bool} {h' l' : Nat} (hh : N64 h) (hl : N64 l) (hh' : N64 h') (hl' : N64 l') :
    lss s h l s' h' l' = true ↔ vld s h l = true ∧ vld s' h' l' = true ∧ rk s h l < rk s' h' l' := by
  have a := rk_lt (s := s) hh hl
  have b := rk_lt (s := s') hh' hl'
  unfold lss
  simp only [Bool.and_eq_true, and_assoc]
  refine and_congr_right fun _ => and_congr_right fun _ => ?_
  unfold N64 at *
  unfold rk nm at *
  by_cases e : s = s'
  · subst e
    rw [if_neg (by simp)]
    by_cases e2 : (h : Int) = (h' : Int)
    · rw [if_neg (by simp [e2]), decide_eq_true_eq]; omega
    · rw [if_pos e2, decide_eq_true_eq]; omega
  · rw [if_pos e]
    cases s <;> cases s'
    · exact absurd rfl e
    · rw [if_neg (by decide), if_pos rfl]; simp only [true_iff]; omega
    · rw [if_pos rfl, if_neg (by decide)]; simp only [Bool.false_eq_true, false_iff]; omega
    · exact absurd rfl e
theorem pls_iff {s : Bool} {h l : Nat} {b : Int} {s' : Bool} {h' l' : Nat} {b' : Int} (hh : N64 h) (hl : N64 l) (hh' : N64 h') (hl' : N64 l') :
    pls s h l b s' h' l' b' = true ↔ pvl s h l b = true ∧ pvl s' h' l' b' = true ∧ (rk s h l < rk s' h' l' ∨ rk s h l = rk s' h' l' ∧ b < b') := by
  unfold pls
  rw [rk_inj hh hl hh' hl']
  simp only [Bool.and_eq_true, Bool.or_eq_true, decide_eq_true_eq, and_assoc]
  refine and_congr_right fun p => and_congr_right fun q => ?_
  rw [lss_iff hh hl hh' hl']
  have v := ((pvl_iff hl).1 p).1
  have v' := ((pvl_iff hl').1 q).1
  simp [v, v']
theorem cov_rk {s : Bool} {h l : Nat} {b : Int} {s' : Bool} {h' l' : Nat} {b' : Int} (hl : N64 l) (hl' : N64 l') (x : cov s h l b s' h' l' b' = true) :
    rk s h l ≤ rk s' h' l' ∧ b ≤ b' := by
  obtain ⟨_, hb, x2⟩ := (cov_iff hl hl').1 x
  obtain ⟨a1, a2, rfl, a3⟩ := (hld_iff hl hl').1 x2
  refine ⟨?_, hb⟩
  unfold rk
  have := ct_le (nm h' l') (kk s' b)
  omega
theorem pls_irr {s : Bool} {h l : Nat} {b : Int} (hh : N64 h) (hl : N64 l) : pls s h l b s h l b = false := by
  rw [Bool.eq_false_iff]; intro e
  obtain ⟨_, _, c⟩ := (pls_iff hh hl hh hl).1 e
  omega
theorem pls_asym {s : Bool} {h l : Nat} {b : Int} {s' : Bool} {h' l' : Nat} {b' : Int} (hh : N64 h) (hl : N64 l) (hh' : N64 h') (hl' : N64 l')
    (x : pls s h l b s' h' l' b' = true) : pls s' h' l' b' s h l b = false := by
  rw [Bool.eq_false_iff]; intro e
  obtain ⟨_, _, c⟩ := (pls_iff hh hl hh' hl').1 x
  obtain ⟨_, _, d⟩ := (pls_iff hh' hl' hh hl).1 e
  omega
theorem pls_total {s : Bool} {h l : Nat} {b : Int} {s' : Bool} {h' l' : Nat} {b' : Int} (hh : N64 h) (hl : N64 l) (hh' : N64 h') (hl' : N64 l')
    (p : pvl s h l b = true) (q : pvl s' h' l' b' = true) (x : pls s h l b s' h' l' b' = false) (y : pls s' h' l' b' s h l b = false) : s = s' ∧ h = h' ∧ l = l' ∧ b = b' := by
  have x' : ¬ pls s h l b s' h' l' b' = true := by rw [x]; decide
  have y' : ¬ pls s' h' l' b' s h l b = true := by rw [y]; decide
  rw [pls_iff hh hl hh' hl'] at x'
  rw [pls_iff hh' hl' hh hl] at y'
  have e : rk s h l = rk s' h' l' ∧ b = b' := by
    simp only [p, q, true_and] at x' y'
    omega
  obtain ⟨a, c, d⟩ := (rk_inj hh hl hh' hl').1 e.1
  exact ⟨a, c, d, e.2⟩
theorem pls_trans {s : Bool} {h l : Nat} {b : Int} {s' : Bool} {h' l' : Nat} {b' : Int} {z : Bool} {m n : Nat} {c : Int} (hh : N64 h) (hl : N64 l) (hh' : N64 h') (hl' : N64 l') (hm : N64 m) (hn : N64 n)
    (x : pls s h l b s' h' l' b' = true) (y : pls s' h' l' b' z m n c = true) : pls s h l b z m n c = true := by
  obtain ⟨p, q, e⟩ := (pls_iff hh hl hh' hl').1 x
  obtain ⟨_, r, d⟩ := (pls_iff hh' hl' hm hn).1 y
  exact (pls_iff hh hl hm hn).2 ⟨p, r, by omega⟩
theorem cov_front {s : Bool} {h l : Nat} {b : Int} {s' : Bool} {h' l' : Nat} {b' : Int} (hh : N64 h) (hl : N64 l) (hh' : N64 h') (hl' : N64 l')
    (x : cov s h l b s' h' l' b' = true) : pls s' h' l' b' s h l b = false := by
  rw [Bool.eq_false_iff]; intro e
  obtain ⟨_, _, c⟩ := (pls_iff hh' hl' hh hl).1 e
  obtain ⟨u, v⟩ := cov_rk hl hl' x
  omega

/-- The two numbers of the upper half's address; k bits stand behind the first ones. -/
def upH (h k : Nat) : Nat := ct (h + (2 ^ (k - 64) - 1)) (k - 1 - 64)
def upL (l k : Nat) : Nat := ct (l + (2 ^ (min k 64) - 1)) (k - 1)
theorem kk_succ {s : Bool} {b : Int} (h0 : 0 ≤ b) : kk s (b + 1) = kk s b - 1 := by unfold kk; omega
theorem kk_pos {s : Bool} {b : Int} (h0 : 0 ≤ b) (hb : b < (wd s : Int)) : 0 < kk s b := by unfold kk; omega
theorem mult_room {x k j : Nat} (e : ct x k = x) (hx : x < 2 ^ j) (hk : k ≤ j) : x + (2 ^ k - 1) < 2 ^ j := by
  obtain ⟨c, rfl⟩ := Nat.exists_eq_add_of_le hk
  unfold ct at e
  rw [Nat.pow_add] at hx ⊢
  have h1 : x / 2 ^ k < 2 ^ c := Nat.div_lt_of_lt_mul hx
  have h2 : (x / 2 ^ k + 1) * 2 ^ k ≤ 2 ^ c * 2 ^ k := Nat.mul_le_mul_right _ h1
  rw [Nat.add_mul, Nat.one_mul, e, Nat.mul_comm (2 ^ c)] at h2
  have := pw k
  omega
theorem ct_parts {h l k : Nat} (hl : N64 l) (e : ct (nm h l) k = nm h l) : ct h (k - 64) = h ∧ ct l k = l := by
  rw [nm_ct h l k hl.lt] at e
  exact (nm_inj (Nat.lt_of_le_of_lt (ct_le _ _) hl.lt) hl.lt).1 e
theorem ct_min {l k : Nat} (hl : N64 l) (e : ct l k = l) : ct l (min k 64) = l := by
  rcases Nat.lt_or_ge k 64 with h | h
  · rw [show min k 64 = k by omega]; exact e
  · rw [show min k 64 = 64 by omega]
    have h0 : l = 0 := by rw [← e]; exact ct_lt (Nat.lt_of_lt_of_le hl.lt (Nat.pow_le_pow_right (by decide) h))
    subst h0; simp [ct]
/-- The last address: both of its numbers, and that it is valid. -/
theorem last_ok {s : Bool} {h l : Nat} {b : Int} (hh : N64 h) (hl : N64 l) (p : pvl s h l b = true) :
    N64 (h + (2 ^ (kk s b - 64) - 1)) ∧ N64 (l + (2 ^ (min (kk s b) 64) - 1)) ∧ vld s ((h + (2 ^ (kk s b - 64) - 1) : Nat) : Int) ((l + (2 ^ (min (kk s b) 64) - 1) : Nat) : Int) = true := by
  obtain ⟨v, o, e⟩ := (pvl_iff hl).1 p
  obtain ⟨e1, e2⟩ := ct_parts hl e
  have k1 := kk_le s b
  refine ⟨mult_room e1 hh.lt (by omega), mult_room (ct_min hl e2) hl.lt (by omega), ?_⟩
  cases s
  · obtain ⟨a1, a2⟩ := vld_four v
    have k2 : kk false b ≤ 32 := by unfold kk wd; split <;> rename_i c <;> first | cases c | omega
    have h0 : h = 0 := by omega
    have h1 : l < 2 ^ 32 := by omega
    have := mult_room e2 h1 k2
    rw [show kk false b - 64 = 0 by omega, show min (kk false b) 64 = kk false b by omega]
    subst h0
    simp [vld]; omega
  · rfl
theorem up_spec {s : Bool} {h l : Nat} {b : Int} (hh : N64 h) (hl : N64 l) (p : pvl s h l b = true) (hb : b < (wd s : Int)) :
    N64 (upH h (kk s b)) ∧ N64 (upL l (kk s b)) ∧ nm (upH h (kk s b)) (upL l (kk s b)) = nm h l + 2 ^ (kk s b - 1) ∧ ct h (kk s b - 1 - 64) = h ∧ ct l (kk s b - 1) = l := by
  obtain ⟨v, o, e⟩ := (pvl_iff hl).1 p
  obtain ⟨e1, e2⟩ := ct_parts hl e
  obtain ⟨q1, q2, _⟩ := last_ok hh hl p
  obtain ⟨f1, f2⟩ := ct_parts hl (ct_step e)
  refine ⟨Nat.lt_of_le_of_lt (ct_le _ _) q1, Nat.lt_of_le_of_lt (ct_le _ _) q2, ?_, f1, f2⟩
  unfold upH upL
  rw [← nm_ct _ _ _ q2.lt, nm_last h l _ hl.lt (kk_le s b) e1 e2]
  exact ct_last (kk_pos (okn_iff.1 o).1 hb) e
/-- Both halves are valid. -/
theorem half_ok {s : Bool} {h l : Nat} {b : Int} (hh : N64 h) (hl : N64 l) (p : pvl s h l b = true) (hb : b < (wd s : Int)) :
    pvl s h l (b + 1) = true ∧ pvl s (upH h (kk s b)) (upL l (kk s b)) (b + 1) = true := by
  obtain ⟨v, o, e⟩ := (pvl_iff hl).1 p
  obtain ⟨u1, u2, u3, u4, u5⟩ := up_spec hh hl p hb
  obtain ⟨q1, q2, q3⟩ := last_ok hh hl p
  have o1 := okn_iff.1 o
  have o2 : okn s (b + 1) = true := okn_iff.2 ⟨by omega, by omega⟩
  have e4 := kk_succ (s := s) o1.1
  have e5 : ct (nm (upH h (kk s b)) (upL l (kk s b))) (kk s (b + 1)) = nm (upH h (kk s b)) (upL l (kk s b)) := by
    rw [e4, u3]
    have := ct_last (kk_pos o1.1 hb) e
    rw [← this, ct_ct]
  refine ⟨(pvl_iff hl).2 ⟨v, o2, ?_⟩, (pvl_iff u2).2 ⟨?_, o2, e5⟩⟩
  · rw [e4]; exact ct_step e
  · refine vld_ct u2 q2 q3 (k := kk s b - 1) ?_
    obtain ⟨e1, e2⟩ := ct_parts hl e
    rw [nm_last h l _ hl.lt (kk_le s b) e1 e2, u3]
    exact ct_last (kk_pos o1.1 hb) e
theorem ct_two {n N k : Nat} (hk : 0 < k) (e : ct N k = N) : ct n k = N ↔ ct n (k - 1) = N ∨ ct n (k - 1) = N + 2 ^ (k - 1) := by
  obtain ⟨j, rfl⟩ : ∃ j, k = j + 1 := ⟨k - 1, by omega⟩
  rw [show j + 1 - 1 = j by omega]
  have e1 : ct n (j + 1) = ct n j ∨ ct n (j + 1) + 2 ^ j = ct n j := by
    unfold ct
    have h1 := dv_step n j
    have h2 : n / 2 ^ j % 2 < 2 := Nat.mod_lt _ (by decide)
    obtain ⟨q, hq⟩ : ∃ q, q = n / 2 ^ (j + 1) := ⟨_, rfl⟩
    rw [← hq] at h1 ⊢
    have a1 : q * 2 ^ (j + 1) = q * 2 * 2 ^ j := by rw [Nat.pow_succ, Nat.mul_assoc, Nat.mul_comm 2]
    rcases Nat.lt_or_ge (n / 2 ^ j % 2) 1 with h3 | h3
    · left; rw [show n / 2 ^ j = q * 2 by omega, a1]
    · right; rw [show n / 2 ^ j = q * 2 + 1 by omega, Nat.add_mul, Nat.one_mul, a1]
  constructor
  · intro h; rcases e1 with g | g
    · left; omega
    · right; omega
  · have h3 : ct (ct n j) (j + 1) = ct n (j + 1) := ct_trans (Nat.le_succ _)
    rintro (h | h)
    · rw [← h3, h, e]
    · rw [← h3, h]
      have h4 := ct_two_aux j N e
      exact h4
where
  ct_two_aux (j N : Nat) (e : ct N (j + 1) = N) : ct (N + 2 ^ j) (j + 1) = N := by
    conv => rhs; rw [← e]
    apply ct_eq.2
    have : N = 2 ^ (j + 1) * (N / 2 ^ (j + 1)) := by rw [Nat.mul_comm]; exact e.symm
    rw [this, Nat.mul_add_div (pw _), Nat.mul_div_cancel_left _ (pw _), Nat.div_eq_of_lt (Nat.pow_lt_pow_right (by decide) (by omega)), Nat.add_zero]

set_option maxRecDepth 4000 in
theorem half_in {s : Bool} {h l : Nat} {b : Int} {s' : Bool} {h' l' : Nat} (hh : N64 h) (hl : N64 l) (hl' : N64 l') (p : pvl s h l b = true) (hb : b < (wd s : Int)) :
    hld s h l b s' h' l' = (hld s h l (b + 1) s' h' l' != hld s (upH h (kk s b)) (upL l (kk s b)) (b + 1) s' h' l') ∧ ¬ (hld s h l (b + 1) s' h' l' = true ∧ hld s (upH h (kk s b)) (upL l (kk s b)) (b + 1) s' h' l' = true) := by
  obtain ⟨v, o, e⟩ := (pvl_iff hl).1 p
  obtain ⟨u1, u2, u3, u4, u5⟩ := up_spec hh hl p hb
  have o1 := okn_iff.1 o
  have e4 := kk_succ (s := s) o1.1
  have hp := pw (kk s b - 1)
  have o2 : okn s (b + 1) = true := okn_iff.2 ⟨by omega, by omega⟩
  have A : hld s h l b s' h' l' = true ↔ (vld s' h' l' = true ∧ s' = s) ∧ ct (nm h' l') (kk s b) = nm h l := by
    rw [hld_iff hl hl']
    exact ⟨fun ⟨a, _, c, d⟩ => ⟨⟨a, c⟩, by rw [← c]; exact d⟩, fun ⟨⟨a, c⟩, d⟩ => ⟨a, by rw [c]; exact o, c, by rw [c]; exact d⟩⟩
  have B : hld s h l (b + 1) s' h' l' = true ↔ (vld s' h' l' = true ∧ s' = s) ∧ ct (nm h' l') (kk s b - 1) = nm h l := by
    rw [hld_iff hl hl', ← e4]
    exact ⟨fun ⟨a, _, c, d⟩ => ⟨⟨a, c⟩, by rw [← c]; exact d⟩, fun ⟨⟨a, c⟩, d⟩ => ⟨a, by rw [c]; exact o2, c, by rw [c]; exact d⟩⟩
  have C : hld s (upH h (kk s b)) (upL l (kk s b)) (b + 1) s' h' l' = true ↔ (vld s' h' l' = true ∧ s' = s) ∧ ct (nm h' l') (kk s b - 1) = nm h l + 2 ^ (kk s b - 1) := by
    rw [hld_iff u2 hl', ← u3, ← e4]
    constructor
    · rintro ⟨a, _, c, d⟩; subst c; exact ⟨⟨a, rfl⟩, d⟩
    · rintro ⟨⟨a, c⟩, d⟩; subst c; exact ⟨a, o2, rfl, d⟩
  rw [ct_two (kk_pos o1.1 hb) e] at A
  have D : ¬ (hld s h l (b + 1) s' h' l' = true ∧ hld s (upH h (kk s b)) (upL l (kk s b)) (b + 1) s' h' l' = true) := by
    rw [B, C]; rintro ⟨⟨_, x⟩, ⟨_, y⟩⟩
    rw [x] at y
    exact absurd y (Nat.ne_of_lt (Nat.lt_add_of_pos_right hp))
  have E : hld s h l b s' h' l' = true ↔ (hld s h l (b + 1) s' h' l' = true ∨ hld s (upH h (kk s b)) (upL l (kk s b)) (b + 1) s' h' l' = true) := by
    rw [A, B, C]
    exact ⟨fun ⟨x, y⟩ => y.elim (fun y => .inl ⟨x, y⟩) (fun y => .inr ⟨x, y⟩), fun h => h.elim (fun ⟨x, y⟩ => ⟨x, .inl y⟩) (fun ⟨x, y⟩ => ⟨x, .inr y⟩)⟩
  refine ⟨?_, D⟩
  clear A B C
  revert D E
  generalize hld s h l b s' h' l' = x
  generalize hld s h l (b + 1) s' h' l' = y
  generalize hld s (upH h (kk s b)) (upL l (kk s b)) (b + 1) s' h' l' = z
  cases x <;> cases y <;> cases z <;> simp
theorem cov_of {s : Bool} {h l : Nat} {b : Int} {h' l' : Nat} {b' : Int} (hl : N64 l) (hl' : N64 l') (p : pvl s h l b = true) (q : pvl s h' l' b' = true) (hb : b ≤ b') (e : ct (nm h' l') (kk s b) = nm h l) : cov s h l b s h' l' b' = true :=
  (cov_iff hl hl').2 ⟨q, hb, (hld_iff hl hl').2 ⟨((pvl_iff hl').1 q).1, ((pvl_iff hl).1 p).2.1, rfl, e⟩⟩
/-- How the whole and the halves stand to one another. -/
theorem half_around {s : Bool} {h l : Nat} {b : Int} (hh : N64 h) (hl : N64 l) (p : pvl s h l b = true) (hb : b < (wd s : Int)) :
    cov s h l b s h l (b + 1) = true ∧ cov s h l b s (upH h (kk s b)) (upL l (kk s b)) (b + 1) = true ∧ cov s h l (b + 1) s (upH h (kk s b)) (upL l (kk s b)) (b + 1) = false ∧
    cov s (upH h (kk s b)) (upL l (kk s b)) (b + 1) s h l (b + 1) = false ∧ cov s h l (b + 1) s h l b = false ∧ pls s h l b s h l (b + 1) = true ∧ pls s h l (b + 1) s (upH h (kk s b)) (upL l (kk s b)) (b + 1) = true := by
  obtain ⟨v, o, e⟩ := (pvl_iff hl).1 p
  obtain ⟨u1, u2, u3, u4, u5⟩ := up_spec hh hl p hb
  obtain ⟨p1, p2⟩ := half_ok hh hl p hb
  have o1 := okn_iff.1 o
  have e4 := kk_succ (s := s) o1.1
  have hp := pw (kk s b - 1)
  have z1 : ct (nm (upH h (kk s b)) (upL l (kk s b))) (kk s (b + 1)) = nm (upH h (kk s b)) (upL l (kk s b)) := ((pvl_iff u2).1 p2).2.2
  have z2 : ct (nm h l) (kk s (b + 1)) = nm h l := ((pvl_iff hl).1 p1).2.2
  refine ⟨cov_of hl hl p p1 (by omega) e, cov_of hl u2 p p2 (by omega) ?_, ?_, ?_, ?_, ?_, ?_⟩
  · rw [ct_two (kk_pos o1.1 hb) e]
    right
    rw [e4] at z1
    rw [z1, u3]
  · rw [Bool.eq_false_iff]; intro c
    obtain ⟨_, _, c3⟩ := (cov_iff hl u2).1 c
    obtain ⟨_, _, _, c4⟩ := (hld_iff hl u2).1 c3
    omega
  · rw [Bool.eq_false_iff]; intro c
    obtain ⟨_, _, c3⟩ := (cov_iff u2 hl).1 c
    obtain ⟨_, _, _, c4⟩ := (hld_iff u2 hl).1 c3
    omega
  · rw [Bool.eq_false_iff]; intro c
    obtain ⟨_, c2, _⟩ := (cov_iff hl hl).1 c
    omega
  · exact (pls_iff hh hl hh hl).2 ⟨p, p1, .inr ⟨rfl, by omega⟩⟩
  · refine (pls_iff hh hl u1 u2).2 ⟨p1, p2, .inl ?_⟩
    unfold rk; omega

def comV (s : Bool) (h l : Nat) (s' : Bool) (h' l' : Nat) : Int :=
  if vld s h l = true ∧ vld s' h' l' = true ∧ s = s' then (cmn (wd s) (nm h l) (nm h' l') : Int) else -1
theorem nm_wd {s : Bool} {h l : Nat} (hh : N64 h) (hl : N64 l) (v : vld s h l = true) : nm h l < 2 ^ wd s := by
  cases s
  · obtain ⟨a, b⟩ := vld_four v
    unfold nm wd
    have : h = 0 := by omega
    subst this
    simp; omega
  · exact rk_lt (s := true) hh hl
/-- The document's way of asking: as many first bits are shared. -/
theorem hld_com {s : Bool} {h l : Nat} {b : Int} {s' : Bool} {h' l' : Nat} (hh : N64 h) (hl : N64 l) (hh' : N64 h') (hl' : N64 l') :
    (pvl s h l b && decide (b ≤ comV s h l s' h' l')) = hld s h l b s' h' l' := by
  rw [Bool.eq_iff_iff, hld_via hl hl']
  simp only [Bool.and_eq_true, decide_eq_true_eq]
  refine and_congr_right fun p => ?_
  obtain ⟨v, o, e⟩ := (pvl_iff hl).1 p
  have o1 := okn_iff.1 o
  unfold comV
  by_cases c : vld s' h' l' = true ∧ s = s'
  · obtain ⟨v', rfl⟩ := c
    rw [if_pos ⟨v, v', rfl⟩]
    have h0 : nm h l / 2 ^ wd s = nm h' l' / 2 ^ wd s := by
      rw [Nat.div_eq_of_lt (nm_wd hh hl v), Nat.div_eq_of_lt (nm_wd hh' hl' v')]
    have := cmn_ge (wd s) (nm h l) (nm h' l') h0 b.toNat (by omega)
    have e2 : b ≤ (cmn (wd s) (nm h l) (nm h' l') : Int) ↔ b.toNat ≤ cmn (wd s) (nm h l) (nm h' l') := by omega
    rw [e2, this]
    exact ⟨fun x => ⟨v', rfl, x⟩, fun ⟨_, _, x⟩ => x⟩
  · rw [if_neg (fun x => c x.2)]
    refine ⟨fun x => by omega, fun ⟨x, y, _⟩ => absurd ⟨x, y⟩ c⟩
end Go.Proofs.Ytabbclocgkhnhaa
