/-
  The order of ranges of first bits: it is one, and whoever covers is not behind.
-/
import Derived.Test.YtecgmejfkfoceaaDoorPHld
namespace Go.Proofs.YtecgmejfkfoceaaDoor
set_option linter.unusedVariables false

/-- Where an address stands. -/
def rk (s : Bool) (h l : Nat) : Nat := (if s then 2 ^ 128 else 0) + nm h l
theorem rk_lt {s : Bool} {h l : Nat} (hh : N64 h) (hl : N64 l) : nm h l < 2 ^ 128 := by unfold N64 at *; unfold nm; omega
theorem rk_inj {s : Bool} {h l : Nat} {s' : Bool} {h' l' : Nat} (hh : N64 h) (hl : N64 l) (hh' : N64 h') (hl' : N64 l') :
    rk s h l = rk s' h' l' ↔ s = s' ∧ h = h' ∧ l = l' := by
  have a := rk_lt (s := s) hh hl
  have b := rk_lt (s := s') hh' hl'
  unfold N64 at *
  unfold rk nm at *
  cases s <;> cases s' <;> simp <;> omega
theorem lss_iff {s : Bool} {h l : Nat} {s' : Bool} {h' l' : Nat} (hh : N64 h) (hl : N64 l) (hh' : N64 h') (hl' : N64 l') :
    lss s h l s' h' l' = true ↔ vld s h l = true ∧ vld s' h' l' = true ∧ rk s h l < rk s' h' l' := by
  have a := rk_lt (s := s) hh hl
  have b := rk_lt (s := s') hh' hl'
  unfold lss
  simp only [Bool.and_eq_true, and_assoc]
  refine and_congr_right fun _ => and_congr_right fun _ => ?_
  unfold N64 at *
  unfold rk nm at *
  by_cases e : s = s'
  · subst e
    rw [if_neg (by simp)]
    by_cases e2 : (h : Int) = (h' : Int)
    · rw [if_neg (by simp [e2]), decide_eq_true_eq]; omega
    · rw [if_pos e2, decide_eq_true_eq]; omega
  · rw [if_pos e]
    cases s <;> cases s'
    · exact absurd rfl e
    · rw [if_neg (by decide), if_pos rfl]; simp only [true_iff]; omega
    · rw [if_pos rfl, if_neg (by decide)]; simp only [Bool.false_eq_true, false_iff]; omega
    · exact absurd rfl e
theorem pls_iff {s : Bool} {h l : Nat} {b : Int} {s' : Bool} {h' l' : Nat} {b' : Int} (hh : N64 h) (hl : N64 l) (hh' : N64 h') (hl' : N64 l') :
    pls s h l b s' h' l' b' = true ↔ pvl s h l b = true ∧ pvl s' h' l' b' = true ∧ (rk s h l < rk s' h' l' ∨ rk s h l = rk s' h' l' ∧ b < b') := by
  unfold pls
  rw [rk_inj hh hl hh' hl']
  simp only [Bool.and_eq_true, Bool.or_eq_true, decide_eq_true_eq, and_assoc]
  refine and_congr_right fun p => and_congr_right fun q => ?_
  rw [lss_iff hh hl hh' hl']
  have v := ((pvl_iff hl).1 p).1
  have v' := ((pvl_iff hl').1 q).1
  simp [v, v']
theorem cov_rk {s : Bool} {h l : Nat} {b : Int} {s' : Bool} {h' l' : Nat} {b' : Int} (hl : N64 l) (hl' : N64 l') (x : cov s h l b s' h' l' b' = true) :
    rk s h l ≤ rk s' h' l' ∧ b ≤ b' := by
  obtain ⟨_, hb, x2⟩ := (cov_iff hl hl').1 x
  obtain ⟨a1, a2, rfl, a3⟩ := (hld_iff hl hl').1 x2
  refine ⟨?_, hb⟩
  unfold rk
  have := ct_le (nm h' l') (kk s' b)
  omega
theorem pls_irr {s : Bool} {h l : Nat} {b : Int} (hh : N64 h) (hl : N64 l) : pls s h l b s h l b = false := by
  rw [Bool.eq_false_iff]; intro e
  obtain ⟨_, _, c⟩ := (pls_iff hh hl hh hl).1 e
  omega
theorem pls_asym {s : Bool} {h l : Nat} {b : Int} {s' : Bool} {h' l' : Nat} {b' : Int} (hh : N64 h) (hl : N64 l) (hh' : N64 h') (hl' : N64 l')
    (x : pls s h l b s' h' l' b' = true) : pls s' h' l' b' s h l b = false := by
  rw [Bool.eq_false_iff]; intro e
  obtain ⟨_, _, c⟩ := (pls_iff hh hl hh' hl').1 x
  obtain ⟨_, _, d⟩ := (pls_iff hh' hl' hh hl).1 e
  omega
theorem pls_total {s : Bool} {h l : Nat} {b : Int} {s' : Bool} {h' l' : Nat} {b' : Int} (hh : N64 h) (hl : N64 l) (hh' : N64 h') (hl' : N64 l')
    (p : pvl s h l b = true) (q : pvl s' h' l' b' = true) (x : pls s h l b s' h' l' b' = false) (y : pls s' h' l' b' s h l b = false) : s = s' ∧ h = h' ∧ l = l' ∧ b = b' := by
  have x' : ¬ pls s h l b s' h' l' b' = true := by rw [x]; decide
  have y' : ¬ pls s' h' l' b' s h l b = true := by rw [y]; decide
  rw [pls_iff hh hl hh' hl'] at x'
  rw [pls_iff hh' hl' hh hl] at y'
  have e : rk s h l = rk s' h' l' ∧ b = b' := by
    simp only [p, q, true_and] at x' y'
    omega
  obtain ⟨a, c, d⟩ := (rk_inj hh hl hh' hl').1 e.1
  exact ⟨a, c, d, e.2⟩
theorem pls_trans {s : Bool} {h l : Nat} {b : Int} {s' : Bool} {h' l' : Nat} {b' : Int} {z : Bool} {m n : Nat} {c : Int} (hh : N64 h) (hl : N64 l) (hh' : N64 h') (hl' : N64 l') (hm : N64 m) (hn : N64 n)
    (x : pls s h l b s' h' l' b' = true) (y : pls s' h' l' b' z m n c = true) : pls s h l b z m n c = true := by
  obtain ⟨p, q, e⟩ := (pls_iff hh hl hh' hl').1 x
  obtain ⟨_, r, d⟩ := (pls_iff hh' hl' hm hn).1 y
  exact (pls_iff hh hl hm hn).2 ⟨p, r, by omega⟩
theorem cov_front {s : Bool} {h l : Nat} {b : Int} {s' : Bool} {h' l' : Nat} {b' : Int} (hh : N64 h) (hl : N64 l) (hh' : N64 h') (hl' : N64 l')
    (x : cov s h l b s' h' l' b' = true) : pls s' h' l' b' s h l b = false := by
  rw [Bool.eq_false_iff]; intro e
  obtain ⟨_, _, c⟩ := (pls_iff hh' hl' hh hl).1 e
  obtain ⟨u, v⟩ := cov_rk hl hl' x
  omega
end Go.Proofs.YtecgmejfkfoceaaDoor
