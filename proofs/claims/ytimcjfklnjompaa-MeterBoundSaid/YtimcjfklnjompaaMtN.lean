/-
  Shares, plainly (layer 18): whole numbers below 2^53 as words of a double; their sums; the quotient of a part by the whole lies between 0 and 1.
-/
import Derived.Laws.FloatArith
namespace Go.Proofs.Ytimcjfklnjompaa
open Ieee
set_option linter.unusedVariables false

theorem dFb : double.fractionBits = 52 := rfl
theorem dLp : double.leastPlace = -1074 := by decide
theorem dBin : double.binade = 4503599627370496 := by decide
theorem dInf : double.infRung = 9218868437227405312 := by decide
theorem dSw : double.signWeight = 9223372036854775808 := by decide
/-- Of a number that holds all digits that are dropped, nothing is lost. -/
theorem cut_exact (neg : Bool) (s d : Nat) : Toward.even.cut neg (s * 2 ^ d) d = s := by
  unfold Toward.cut
  by_cases h : s = 0
  · subst h; simp
  · have hd : d ≤ (s * 2 ^ d).log2 := (Nat.le_log2 (Nat.mul_ne_zero h (Nat.ne_of_gt (Nat.two_pow_pos d)))).2 (Nat.le_mul_of_pos_left _ (Nat.pos_of_ne_zero h))
    have hm : min d ((s * 2 ^ d).log2 + 2) = d := by omega
    have hp : 0 < 2 ^ d := Nat.two_pow_pos d
    simp only [hm, Nat.one_shiftLeft, Nat.mul_div_cancel _ hp, Nat.mul_mod_left]
    have : ¬ 2 ^ d < 2 * 0 := by omega
    have h2 : (2 ^ d == 2 * 0) = false := by simp
    simp [h2]
/-- Cut at d digits: at most one more than what is left of them. -/
theorem cut_le (n d : Nat) (M : Nat) (h : n < M * 2 ^ d) : Toward.even.cut false n d ≤ M := by
  unfold Toward.cut
  by_cases hd : d ≤ n.log2 + 2
  · have hm : min d (n.log2 + 2) = d := by omega
    simp only [hm, Nat.one_shiftLeft]
    have : n / 2 ^ d < M := Nat.div_lt_of_lt_mul (by rw [Nat.mul_comm]; exact h)
    refine Nat.le_trans (Nat.add_le_add_left (Bool.toNat_le _) _) ?_
    omega
  · have hm : min d (n.log2 + 2) = n.log2 + 2 := by omega
    simp only [hm, Nat.one_shiftLeft]
    have hl : n < 2 ^ (n.log2 + 1) := Nat.lt_log2_self
    have e : 2 ^ (n.log2 + 2) = 2 * 2 ^ (n.log2 + 1) := by rw [Nat.pow_succ, Nat.mul_comm]
    have h0 : n / 2 ^ (n.log2 + 2) = 0 := Nat.div_eq_of_lt (by omega)
    have h1 : n % 2 ^ (n.log2 + 2) = n := Nat.mod_eq_of_lt (by omega)
    rw [h0, h1]
    have h2 : ¬ 2 ^ (n.log2 + 2) < 2 * n := by omega
    have h3 : (2 ^ (n.log2 + 2) == 2 * n) = false := by simp; omega
    simp [h2, h3]
/-- The digits of a number, the first one at place 52. -/
def sgN (n : Nat) : Nat := n * 2 ^ (52 - n.log2)
theorem lg_lt {n : Nat} (h : n < 9007199254740992) : n.log2 ≤ 52 := by
  by_cases h0 : n = 0
  · subst h0; decide
  · have := (Nat.log2_lt h0 (k := 53)).2 (by simpa using h)
    omega
theorem sg_lo {n : Nat} (h0 : 0 < n) (h : n < 9007199254740992) : 4503599627370496 ≤ sgN n := by
  have h1 : 2 ^ n.log2 ≤ n := Nat.log2_self_le (by omega)
  have h2 := lg_lt h
  unfold sgN
  calc 4503599627370496 = 2 ^ n.log2 * 2 ^ (52 - n.log2) := by rw [← Nat.pow_add, show n.log2 + (52 - n.log2) = 52 by omega]
    _ ≤ _ := Nat.mul_le_mul_right _ h1
theorem sg_hi {n : Nat} (h : n < 9007199254740992) : sgN n < 9007199254740992 := by
  have h1 : n < 2 ^ (n.log2 + 1) := Nat.lt_log2_self
  have h2 := lg_lt h
  unfold sgN
  calc n * 2 ^ (52 - n.log2) < 2 ^ (n.log2 + 1) * 2 ^ (52 - n.log2) := Nat.mul_lt_mul_of_pos_right h1 (Nat.two_pow_pos _)
    _ = 9007199254740992 := by rw [← Nat.pow_add, show n.log2 + 1 + (52 - n.log2) = 53 by omega]
theorem lg_shift {n : Nat} (k : Nat) (h0 : 0 < n) : (n * 2 ^ k).log2 = n.log2 + k := by
  have hk : 0 < 2 ^ k := Nat.two_pow_pos k
  refine (Nat.log2_eq_iff (Nat.mul_ne_zero (by omega) (by omega))).2 ⟨?_, ?_⟩
  · rw [Nat.pow_add]; exact Nat.mul_le_mul_right _ (Nat.log2_self_le (by omega))
  · rw [show n.log2 + k + 1 = n.log2 + 1 + k by omega, Nat.pow_add]; exact Nat.mul_lt_mul_of_pos_right Nat.lt_log2_self hk
/-- The word of n. -/
def fN (n : Nat) : Nat := double.nearest false n 0
theorem near_shift {n : Nat} (k : Nat) (h0 : 0 < n) (h : n < 9007199254740992) (hk : k ≤ 1074) : double.nearest false (n * 2 ^ k) (-(k : Int)) = (n.log2 + 1022) * 4503599627370496 + sgN n := by
  have hl := lg_lt h
  have hk2 : 0 < 2 ^ k := Nat.two_pow_pos k
  have hne : n * 2 ^ k ≠ 0 := Nat.mul_ne_zero (by omega) (by omega)
  unfold Format.nearest
  rw [if_neg hne]
  simp only [lg_shift k h0, dFb, dLp, dBin, dInf]
  have e1 : max (-(k : Int) + ((n.log2 + k : Nat) : Int) - (52 : Nat)) (-1074) = (n.log2 : Int) - 52 := by omega
  rw [e1]
  have e2 : (-(k : Int) - ((n.log2 : Int) - 52)).toNat = 52 - n.log2 - k := by omega
  have e3 : ((n.log2 : Int) - 52 - -(k : Int)).toNat = n.log2 + k - 52 := by omega
  have e4 : ((n.log2 : Int) - 52 - -1074).toNat = n.log2 + 1022 := by omega
  rw [e2, e3, e4, Nat.shiftLeft_eq]
  have e5 : n * 2 ^ k * 2 ^ (52 - n.log2 - k) = sgN n * 2 ^ (n.log2 + k - 52) := by
    unfold sgN
    rw [Nat.mul_assoc, ← Nat.pow_add, Nat.mul_assoc, ← Nat.pow_add]
    congr 2; omega
  rw [e5, cut_exact]
  have := sg_hi h
  have e6 : min ((n.log2 + 1022) * 4503599627370496 + sgN n) 9218868437227405312 = (n.log2 + 1022) * 4503599627370496 + sgN n := by
    have h1 : (n.log2 + 1022) * 4503599627370496 ≤ 1074 * 4503599627370496 := Nat.mul_le_mul_right _ (by omega)
    refine Nat.min_eq_left (Nat.le_trans (Nat.add_le_add h1 (Nat.le_of_lt this)) ?_)
    decide
  rw [e6]; rfl
theorem fN_zero : fN 0 = 0 := by decide
theorem fN_eq {n : Nat} (h0 : 0 < n) (h : n < 9007199254740992) : fN n = (n.log2 + 1022) * 4503599627370496 + sgN n := by
  have := near_shift 0 h0 h (by omega)
  simpa [fN] using this
theorem rd_word (e s : Nat) (h1 : 4503599627370496 ≤ s) (h2 : s < 9007199254740992) (he : e ≤ 2044) : double.read (e * 4503599627370496 + s) = .number false s ((e : Int) - 1074) := by
  unfold Format.read
  simp only [dSw, dBin, dInf, dLp]
  have a1 : (e * 4503599627370496 + s) / 9223372036854775808 = 0 := Nat.div_eq_of_lt (by omega)
  have a2 : (e * 4503599627370496 + s) % 9223372036854775808 = e * 4503599627370496 + s := Nat.mod_eq_of_lt (by omega)
  have a3 : (e * 4503599627370496 + s) / 4503599627370496 = e + 1 := by omega
  have a4 : (e * 4503599627370496 + s) % 4503599627370496 = s - 4503599627370496 := by omega
  rw [a1, a2]
  rw [if_neg (by omega), if_pos (by omega), a3, a4]
  have a5 : 4503599627370496 + (s - 4503599627370496) = s := by omega
  have a6 : (-1074 : Int) + ((e + 1 - 1 : Nat) : Int) = (e : Int) - 1074 := by omega
  rw [a5, a6]
  rfl
/-- A datum is the number n, told at a place of its own. -/
def RepN (d : Datum) (n : Nat) : Prop := ∃ (m k : Nat), d = .number false m (-(k : Int)) ∧ k ≤ 1074 ∧ m = n * 2 ^ k
theorem rd_zero : double.read 0 = .number false 0 (-1074) := by decide
theorem rd_fN {n : Nat} (h0 : 0 < n) (h : n < 9007199254740992) : double.read (fN n) = .number false (sgN n) (-((52 - n.log2 : Nat) : Int)) := by
  have hl := lg_lt h
  have e : ((n.log2 + 1022 : Nat) : Int) - 1074 = -((52 - n.log2 : Nat) : Int) := by omega
  rw [fN_eq h0 h, rd_word _ _ (sg_lo h0 h) (sg_hi h) (by omega), e]
theorem rep_fN {n : Nat} (h : n < 9007199254740992) : RepN (double.read (fN n)) n := by
  by_cases h0 : n = 0
  · obtain ⟨K, hK, hKI⟩ : ∃ K : Nat, K = 1074 ∧ -(K : Int) = -1074 := ⟨1074, rfl, rfl⟩
    subst h0; rw [fN_zero, rd_zero]; exact ⟨0, K, by rw [hKI], by omega, (Nat.zero_mul _).symm⟩
  · rw [rd_fN (by omega) h]; exact ⟨_, _, rfl, by omega, rfl⟩
theorem sum_rep {a b : Datum} {x y : Nat} (ha : RepN a x) (hb : RepN b y) (h : x + y < 9007199254740992) : (a.sum b).map double.write = some (fN (x + y)) := by
  obtain ⟨m, i, rfl, hi, rfl⟩ := ha
  obtain ⟨t, j, rfl, hj, rfl⟩ := hb
  obtain ⟨K, hK, e⟩ : ∃ K : Nat, K ≤ 1074 ∧ min (-(i : Int)) (-(j : Int)) = -(K : Int) ∧ i ≤ K ∧ j ≤ K := ⟨max i j, by omega, by omega, by omega, by omega⟩
  obtain ⟨e1, e2, e3⟩ := e
  unfold Datum.sum
  simp only [e1, signed, Bool.false_eq_true, if_false, Nat.shiftLeft_eq]
  have e4 : (-(i : Int) - -(K : Int)).toNat = K - i := by omega
  have e5 : (-(j : Int) - -(K : Int)).toNat = K - j := by omega
  rw [e4, e5, Nat.mul_assoc, Nat.mul_assoc, ← Nat.pow_add, ← Nat.pow_add, show i + (K - i) = K by omega, show j + (K - j) = K by omega]
  have e6 : ((x * 2 ^ K : Nat) : Int) + ((y * 2 ^ K : Nat) : Int) = (((x + y) * 2 ^ K : Nat) : Int) := by rw [Nat.add_mul]; omega
  rw [e6]
  have e7 : ¬ ((((x + y) * 2 ^ K : Nat) : Int) < 0) := by omega
  simp only [e7, Bool.and_self, decide_false, ite_self, Int.natAbs_natCast, Option.map_some]
  congr 1
  unfold Format.write
  by_cases h0 : x + y = 0
  · rw [h0]; simp [fN, Format.nearest]
  · simp only
    rw [near_shift K (by omega) h hK, fN_eq (by omega) h]
theorem fN_add {x y : Nat} (h : x + y < 9007199254740992) : floatBits .add .f64 (fN x) (fN y) = some (fN (x + y)) := by
  show double.add (fN x) (fN y) = _
  unfold Format.add
  exact sum_rep (rep_fN (by omega)) (rep_fN (by omega)) h
/-- What a part of a whole is as a word: at most that of 1. -/
theorem div_le {x z : Nat} (hx : x ≤ z) (hz : 0 < z) (h : z < 9007199254740992) : ∃ r, floatBits .quo .f64 (fN x) (fN z) = some r ∧ r ≤ 4607182418800017408 ∧ (x = z → r = 4607182418800017408) := by
  show ∃ r, double.div (fN x) (fN z) = some r ∧ _
  unfold Format.div
  by_cases h0 : x = 0
  · subst h0
    rw [fN_zero, rd_zero, rd_fN hz h]
    have : sgN z ≠ 0 := by have := sg_lo hz h; omega
    simp [Datum.quotient, this, Format.write, Format.nearest, Format.word]
    omega
  · have hx0 : 0 < x := by omega
    have hxl : x < 9007199254740992 := by omega
    rw [rd_fN hx0 hxl, rd_fN hz h]
    obtain ⟨m, hm⟩ : ∃ m, m = sgN x := ⟨_, rfl⟩
    obtain ⟨n, hn⟩ : ∃ n, n = sgN z := ⟨_, rfl⟩
    have m1 := sg_lo hx0 hxl
    have m2 := sg_hi hxl
    have n1 := sg_lo hz h
    have n2 := sg_hi h
    have lx := lg_lt hxl
    have lz := lg_lt h
    have hmn : x.log2 < z.log2 ∨ x.log2 = z.log2 ∧ m ≤ n := by
      rcases Nat.lt_trichotomy x.log2 z.log2 with h1 | h1 | h1
      · exact .inl h1
      · right; refine ⟨h1, ?_⟩; rw [hm, hn]; unfold sgN; rw [h1]; exact Nat.mul_le_mul_right _ hx
      · exfalso
        have q1 : 2 ^ x.log2 ≤ x := Nat.log2_self_le (by omega)
        have q2 : z < 2 ^ (z.log2 + 1) := Nat.lt_log2_self
        have q3 : 2 ^ (z.log2 + 1) ≤ 2 ^ x.log2 := Nat.pow_le_pow_right (by omega) h1
        omega
    have heq : x = z → m = n := fun e => by rw [hm, hn, e]
    rw [← hm] at m1 m2 ⊢
    rw [← hn] at n1 n2 ⊢
    have lm : m.log2 = 52 := (Nat.log2_eq_iff (by omega)).2 ⟨by omega, by omega⟩
    have ln : n.log2 = 52 := (Nat.log2_eq_iff (by omega)).2 ⟨by omega, by omega⟩
    simp only [Datum.quotient, if_neg (show ¬ n = 0 by omega), lm, ln, dFb, Nat.shiftLeft_eq, Option.map_some, Bool.xor_self]
    obtain ⟨d, hd⟩ : ∃ d, d = m * 2 ^ (52 + 2 + 52 - 52) := ⟨_, rfl⟩
    rw [← hd]
    have hd' : d = m * 18014398509481984 := hd
    obtain ⟨s, hs⟩ : ∃ s, s = (d % n != 0).toNat := ⟨_, rfl⟩
    rw [← hs]
    have hs1 : s ≤ 1 := by rw [hs]; exact Bool.toNat_le _
    have hs0 : d % n = 0 → s = 0 := fun e => by rw [hs, e]; rfl
    obtain ⟨c, hc⟩ : ∃ c, c = d / n := ⟨_, rfl⟩
    rw [← hc]
    have hc1 : c * n ≤ d := by rw [hc]; exact Nat.div_mul_le_self _ _
    have hc2 : d < (c + 1) * n := by
      have := Nat.lt_mul_div_succ d (show 0 < n by omega)
      rw [← hc, Nat.mul_comm] at this; exact this
    have c1 : 9007199254740992 ≤ c := by
      rw [hc]
      refine (Nat.le_div_iff_mul_le (by omega)).2 ?_
      omega
    have c2 : c < 36028797018963968 := by
      rw [hc]
      refine Nat.div_lt_of_lt_mul ?_
      omega
    refine ⟨_, rfl, ?_⟩
    unfold Format.write
    simp only
    obtain ⟨Q, hQ⟩ : ∃ Q, Q = 2 * c + s := ⟨_, rfl⟩
    rw [← hQ]
    have hP : (-((52 - x.log2 : Nat) : Int) - -((52 - z.log2 : Nat) : Int) - ((52 + 2 + 52 - 52 : Nat) : Int) - 1) = -(((z.log2 - x.log2) + 55 : Nat) : Int) := by
      rcases hmn with h1 | ⟨h1, -⟩ <;> omega
    rw [hP]
    obtain ⟨g, hg⟩ : ∃ g, g = z.log2 - x.log2 := ⟨_, rfl⟩
    rw [← hg]
    have hg2 : g ≤ 52 := by omega
    unfold Format.nearest
    rw [if_neg (by omega : ¬ Q = 0)]
    simp only [dFb, dLp, dBin, dInf]
    rcases hmn with h1 | ⟨h1, h2⟩
    · have g1 : 1 ≤ g := by omega
      have hne : ¬ x = z := fun e => by rw [e] at h1; omega
      refine ⟨?_, fun e => absurd e hne⟩
      by_cases q : Q < 36028797018963968
      · have lQ : Q.log2 = 54 := (Nat.log2_eq_iff (by omega)).2 ⟨by omega, by omega⟩
        rw [lQ]
        have e1 : max (-((g + 55 : Nat) : Int) + ((54 : Nat) : Int) - ((52 : Nat) : Int)) (-1074) = -((g : Int) + 53) := by omega
        rw [e1]
        have e2 : (-((g + 55 : Nat) : Int) - -((g : Int) + 53)).toNat = 0 := by omega
        have e3 : (-((g : Int) + 53) - -((g + 55 : Nat) : Int)).toNat = 2 := by omega
        have e4 : (-((g : Int) + 53) - -1074).toNat = 1021 - g := by omega
        rw [e2, e3, e4, Nat.shiftLeft_zero]
        have := cut_le Q 2 9007199254740992 (by omega)
        simp only [Format.word, Bool.false_eq_true, if_false]
        exact Nat.le_trans (Nat.min_le_left _ _) (Nat.le_trans (Nat.add_le_add (Nat.mul_le_mul_right _ (show 1021 - g ≤ 1020 by omega)) this) (by decide))
      · have lQ : Q.log2 = 55 := (Nat.log2_eq_iff (by omega)).2 ⟨by omega, by omega⟩
        rw [lQ]
        have e1 : max (-((g + 55 : Nat) : Int) + ((55 : Nat) : Int) - ((52 : Nat) : Int)) (-1074) = -((g : Int) + 52) := by omega
        rw [e1]
        have e2 : (-((g + 55 : Nat) : Int) - -((g : Int) + 52)).toNat = 0 := by omega
        have e3 : (-((g : Int) + 52) - -((g + 55 : Nat) : Int)).toNat = 3 := by omega
        have e4 : (-((g : Int) + 52) - -1074).toNat = 1022 - g := by omega
        rw [e2, e3, e4, Nat.shiftLeft_zero]
        have := cut_le Q 3 9007199254740992 (by omega)
        simp only [Format.word, Bool.false_eq_true, if_false]
        exact Nat.le_trans (Nat.min_le_left _ _) (Nat.le_trans (Nat.add_le_add (Nat.mul_le_mul_right _ (show 1022 - g ≤ 1021 by omega)) this) (by decide))
    · have g0 : g = 0 := by omega
      subst g0
      by_cases hmn : m = n
      · have hcc : c = 18014398509481984 := by rw [hc, hd', hmn, Nat.mul_comm]; exact Nat.mul_div_cancel _ (by omega)
        have hr : d % n = 0 := by rw [hd', hmn]; exact Nat.mul_mod_right _ _
        have hQ2 : Q = 1 * 2 ^ 55 := by rw [hQ, hs0 hr, hcc]
        have lQ : Q.log2 = 55 := by rw [hQ2]; decide
        rw [lQ]
        have e1 : max (-((0 + 55 : Nat) : Int) + ((55 : Nat) : Int) - ((52 : Nat) : Int)) (-1074) = -52 := by omega
        rw [e1]
        have e2 : (-((0 + 55 : Nat) : Int) - -52).toNat = 0 := by omega
        have e3 : ((-52 : Int) - -((0 + 55 : Nat) : Int)).toNat = 3 := by omega
        have e4 : ((-52 : Int) - -1074).toNat = 1022 := by omega
        rw [e2, e3, e4, Nat.shiftLeft_zero, hQ2, show (1 * 2 ^ 55 : Nat) = 4503599627370496 * 2 ^ 3 by decide, cut_exact]
        simp only [Format.word, Bool.false_eq_true, if_false]
        exact ⟨by omega, fun _ => by omega⟩
      · refine ⟨?_, fun e => absurd (heq e) hmn⟩
        have hc3 : c < 18014398509481984 := by
          rw [hc]
          refine Nat.div_lt_of_lt_mul ?_
          rw [hd', Nat.mul_comm]
          omega
        have lQ : Q.log2 = 54 := (Nat.log2_eq_iff (by omega)).2 ⟨by omega, by omega⟩
        rw [lQ]
        have e1 : max (-((0 + 55 : Nat) : Int) + ((54 : Nat) : Int) - ((52 : Nat) : Int)) (-1074) = -53 := by omega
        rw [e1]
        have e2 : (-((0 + 55 : Nat) : Int) - -53).toNat = 0 := by omega
        have e3 : ((-53 : Int) - -((0 + 55 : Nat) : Int)).toNat = 2 := by omega
        have e4 : ((-53 : Int) - -1074).toNat = 1021 := by omega
        rw [e2, e3, e4, Nat.shiftLeft_zero]
        have := cut_le Q 2 9007199254740992 (by omega)
        simp only [Format.word, Bool.false_eq_true, if_false]
        omega
/-! ## what stands ahead of what -/
theorem cmp_self (a : Int) : compare a a = .eq := by simp [compare, compareOfLessAndEq]
theorem ord_zero {n : Nat} (h : n < 9007199254740992) : double.order (fN n) 0 = some (if n = 0 then .eq else .gt) := by
  unfold Format.order
  rw [rd_zero]
  by_cases h0 : n = 0
  · subst h0; rw [fN_zero, rd_zero]; decide
  · rw [rd_fN (by omega) h, if_neg h0]
    have := sg_lo (by omega : 0 < n) h
    simp only [Datum.order, signed, Bool.false_eq_true, if_false, Nat.shiftLeft_eq, Nat.zero_mul]
    have hp : 0 < 2 ^ (-((52 - n.log2 : Nat) : Int) - min (-((52 - n.log2 : Nat) : Int)) (-1074)).toNat := Nat.two_pow_pos _
    have hq : 0 < sgN n * 2 ^ (-((52 - n.log2 : Nat) : Int) - min (-((52 - n.log2 : Nat) : Int)) (-1074)).toNat := Nat.mul_pos (by omega) hp
    generalize sgN n * 2 ^ (-((52 - n.log2 : Nat) : Int) - min (-((52 - n.log2 : Nat) : Int)) (-1074)).toNat = a at hq
    simp only [compare, compareOfLessAndEq]
    rw [if_neg (by omega), if_neg (by omega)]
theorem rd_low {r : Nat} (h : r ≤ 4607182418800017408) : ∃ (m k : Nat), double.read r = .number false m (-(k : Int)) ∧ m ≤ 2 ^ k ∧ k ≤ 1074 := by
  by_cases h0 : r < 4503599627370496
  · obtain ⟨K, hK, hKI⟩ : ∃ K : Nat, K = 1074 ∧ -(K : Int) = -1074 := ⟨1074, rfl, rfl⟩
    refine ⟨r, K, ?_, Nat.le_of_lt (Nat.lt_of_lt_of_le (show r < 2 ^ 52 from h0) (Nat.pow_le_pow_right (by decide) (by omega))), by omega⟩
    rw [hKI]
    unfold Format.read
    simp only [dSw, dBin, dInf, dLp]
    rw [Nat.div_eq_of_lt (by omega), Nat.mod_eq_of_lt (by omega), if_pos h0]
    rfl
  · obtain ⟨e, s, rfl, hs1, hs2⟩ : ∃ e s, r = e * 4503599627370496 + s ∧ 4503599627370496 ≤ s ∧ s < 9007199254740992 := ⟨r / 4503599627370496 - 1, r % 4503599627370496 + 4503599627370496, by omega, by omega, by omega⟩
    rw [rd_word e s hs1 hs2 (by omega)]
    have he : e ≤ 1022 := by omega
    have e2 : (e : Int) - 1074 = -((1074 - e : Nat) : Int) := by omega
    refine ⟨s, 1074 - e, by rw [e2], ?_, by omega⟩
    by_cases h1 : e = 1022
    · subst h1; have : s = 4503599627370496 := by omega
      subst this; decide
    · refine Nat.le_trans (Nat.le_of_lt hs2) (show 2 ^ 53 ≤ _ from Nat.pow_le_pow_right (by decide) (by omega))
theorem ord_low {r : Nat} (h : r ≤ 4607182418800017408) : double.order r r = some .eq ∧ (double.order r 0 = some .gt ∨ double.order r 0 = some .eq) ∧ (double.order r 4607182418800017408 = some .lt ∨ double.order r 4607182418800017408 = some .eq) := by
  obtain ⟨m, k, e, hm, hk⟩ := rd_low h
  unfold Format.order
  have e1 : double.read 4607182418800017408 = .number false 4503599627370496 (-52) := by decide
  rw [e, rd_zero, e1]
  simp only [Datum.order, signed, Bool.false_eq_true, if_false, Nat.shiftLeft_eq, Nat.zero_mul]
  refine ⟨by rw [cmp_self], ?_, ?_⟩
  · generalize m * 2 ^ (-(k : Int) - min (-(k : Int)) (-1074)).toNat = a
    simp only [compare, compareOfLessAndEq]
    rw [if_neg (by omega)]
    by_cases ha : ((a : Nat) : Int) = ((0 : Nat) : Int)
    · rw [if_pos ha]; right; rfl
    · rw [if_neg ha]; left; rfl
  · have hle : m * 2 ^ (-(k : Int) - min (-(k : Int)) (-52)).toNat ≤ 4503599627370496 * 2 ^ ((-52 : Int) - min (-(k : Int)) (-52)).toNat := by
      refine Nat.le_trans (Nat.mul_le_mul_right _ hm) ?_
      rw [← Nat.pow_add, show (4503599627370496 : Nat) = 2 ^ 52 from rfl, ← Nat.pow_add]
      exact Nat.pow_le_pow_right (by decide) (by omega)
    generalize m * 2 ^ (-(k : Int) - min (-(k : Int)) (-52)).toNat = a at hle
    generalize 4503599627370496 * 2 ^ ((-52 : Int) - min (-(k : Int)) (-52)).toNat = b at hle
    simp only [compare, compareOfLessAndEq]
    by_cases h1 : ((a : Nat) : Int) < ((b : Nat) : Int)
    · rw [if_pos h1]; left; rfl
    · rw [if_neg h1, if_pos (by omega)]; right; rfl
end Go.Proofs.Ytimcjfklnjompaa
