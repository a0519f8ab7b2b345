/-
  The two halves of a range of first bits.
-/
import Derived.Test.YtecgmejfkfoceaaDoorPLess
namespace Go.Proofs.YtecgmejfkfoceaaDoor
set_option linter.unusedVariables false

/-- The two numbers of the upper half's address; k bits stand behind the first ones. -/
def upH (h k : Nat) : Nat := ct (h + (2 ^ (k - 64) - 1)) (k - 1 - 64)
def upL (l k : Nat) : Nat := ct (l + (2 ^ (min k 64) - 1)) (k - 1)
theorem kk_succ {s : Bool} {b : Int} (h0 : 0 ≤ b) : kk s (b + 1) = kk s b - 1 := by unfold kk; omega
theorem kk_pos {s : Bool} {b : Int} (h0 : 0 ≤ b) (hb : b < (wd s : Int)) : 0 < kk s b := by unfold kk; omega
theorem mult_room {x k j : Nat} (e : ct x k = x) (hx : x < 2 ^ j) (hk : k ≤ j) : x + (2 ^ k - 1) < 2 ^ j := by
  obtain ⟨c, rfl⟩ := Nat.exists_eq_add_of_le hk
  unfold ct at e
  rw [Nat.pow_add] at hx ⊢
  have h1 : x / 2 ^ k < 2 ^ c := Nat.div_lt_of_lt_mul hx
  have h2 : (x / 2 ^ k + 1) * 2 ^ k ≤ 2 ^ c * 2 ^ k := Nat.mul_le_mul_right _ h1
  rw [Nat.add_mul, Nat.one_mul, e, Nat.mul_comm (2 ^ c)] at h2
  have := pw k
  omega
theorem ct_parts {h l k : Nat} (hl : N64 l) (e : ct (nm h l) k = nm h l) : ct h (k - 64) = h ∧ ct l k = l := by
  rw [nm_ct h l k hl.lt] at e
  exact (nm_inj (Nat.lt_of_le_of_lt (ct_le _ _) hl.lt) hl.lt).1 e
theorem ct_min {l k : Nat} (hl : N64 l) (e : ct l k = l) : ct l (min k 64) = l := by
  rcases Nat.lt_or_ge k 64 with h | h
  · rw [show min k 64 = k by omega]; exact e
  · rw [show min k 64 = 64 by omega]
    have h0 : l = 0 := by rw [← e]; exact ct_lt (Nat.lt_of_lt_of_le hl.lt (Nat.pow_le_pow_right (by decide) h))
    subst h0; simp [ct]
/-- The last address: both of its numbers, and that it is valid. -/
theorem last_ok {s : Bool} {h l : Nat} {b : Int} (hh : N64 h) (hl : N64 l) (p : pvl s h l b = true) :
    N64 (h + (2 ^ (kk s b - 64) - 1)) ∧ N64 (l + (2 ^ (min (kk s b) 64) - 1)) ∧ vld s ((h + (2 ^ (kk s b - 64) - 1) : Nat) : Int) ((l + (2 ^ (min (kk s b) 64) - 1) : Nat) : Int) = true := by
  obtain ⟨v, o, e⟩ := (pvl_iff hl).1 p
  obtain ⟨e1, e2⟩ := ct_parts hl e
  have k1 := kk_le s b
  refine ⟨mult_room e1 hh.lt (by omega), mult_room (ct_min hl e2) hl.lt (by omega), ?_⟩
  cases s
  · obtain ⟨a1, a2⟩ := vld_four v
    have k2 : kk false b ≤ 32 := by unfold kk wd; split <;> rename_i c <;> first | cases c | omega
    have h0 : h = 0 := by omega
    have h1 : l < 2 ^ 32 := by omega
    have := mult_room e2 h1 k2
    rw [show kk false b - 64 = 0 by omega, show min (kk false b) 64 = kk false b by omega]
    subst h0
    simp [vld]; omega
  · rfl
theorem up_spec {s : Bool} {h l : Nat} {b : Int} (hh : N64 h) (hl : N64 l) (p : pvl s h l b = true) (hb : b < (wd s : Int)) :
    N64 (upH h (kk s b)) ∧ N64 (upL l (kk s b)) ∧ nm (upH h (kk s b)) (upL l (kk s b)) = nm h l + 2 ^ (kk s b - 1) ∧ ct h (kk s b - 1 - 64) = h ∧ ct l (kk s b - 1) = l := by
  obtain ⟨v, o, e⟩ := (pvl_iff hl).1 p
  obtain ⟨e1, e2⟩ := ct_parts hl e
  obtain ⟨q1, q2, _⟩ := last_ok hh hl p
  obtain ⟨f1, f2⟩ := ct_parts hl (ct_step e)
  refine ⟨Nat.lt_of_le_of_lt (ct_le _ _) q1, Nat.lt_of_le_of_lt (ct_le _ _) q2, ?_, f1, f2⟩
  unfold upH upL
  rw [← nm_ct _ _ _ q2.lt, nm_last h l _ hl.lt (kk_le s b) e1 e2]
  exact ct_last (kk_pos (okn_iff.1 o).1 hb) e
/-- Both halves are valid. -/
theorem half_ok {s : Bool} {h l : Nat} {b : Int} (hh : N64 h) (hl : N64 l) (p : pvl s h l b = true) (hb : b < (wd s : Int)) :
    pvl s h l (b + 1) = true ∧ pvl s (upH h (kk s b)) (upL l (kk s b)) (b + 1) = true := by
  obtain ⟨v, o, e⟩ := (pvl_iff hl).1 p
  obtain ⟨u1, u2, u3, u4, u5⟩ := up_spec hh hl p hb
  obtain ⟨q1, q2, q3⟩ := last_ok hh hl p
  have o1 := okn_iff.1 o
  have o2 : okn s (b + 1) = true := okn_iff.2 ⟨by omega, by omega⟩
  have e4 := kk_succ (s := s) o1.1
  have e5 : ct (nm (upH h (kk s b)) (upL l (kk s b))) (kk s (b + 1)) = nm (upH h (kk s b)) (upL l (kk s b)) := by
    rw [e4, u3]
    have := ct_last (kk_pos o1.1 hb) e
    rw [← this, ct_ct]
  refine ⟨(pvl_iff hl).2 ⟨v, o2, ?_⟩, (pvl_iff u2).2 ⟨?_, o2, e5⟩⟩
  · rw [e4]; exact ct_step e
  · refine vld_ct u2 q2 q3 (k := kk s b - 1) ?_
    obtain ⟨e1, e2⟩ := ct_parts hl e
    rw [nm_last h l _ hl.lt (kk_le s b) e1 e2, u3]
    exact ct_last (kk_pos o1.1 hb) e
theorem ct_two {n N k : Nat} (hk : 0 < k) (e : ct N k = N) : ct n k = N ↔ ct n (k - 1) = N ∨ ct n (k - 1) = N + 2 ^ (k - 1) := by
  obtain ⟨j, rfl⟩ : ∃ j, k = j + 1 := ⟨k - 1, by omega⟩
  rw [show j + 1 - 1 = j by omega]
  have e1 : ct n (j + 1) = ct n j ∨ ct n (j + 1) + 2 ^ j = ct n j := by
    unfold ct
    have h1 := dv_step n j
    have h2 : n / 2 ^ j % 2 < 2 := Nat.mod_lt _ (by decide)
    obtain ⟨q, hq⟩ : ∃ q, q = n / 2 ^ (j + 1) := ⟨_, rfl⟩
    rw [← hq] at h1 ⊢
    have a1 : q * 2 ^ (j + 1) = q * 2 * 2 ^ j := by rw [Nat.pow_succ, Nat.mul_assoc, Nat.mul_comm 2]
    rcases Nat.lt_or_ge (n / 2 ^ j % 2) 1 with h3 | h3
    · left; rw [show n / 2 ^ j = q * 2 by omega, a1]
    · right; rw [show n / 2 ^ j = q * 2 + 1 by omega, Nat.add_mul, Nat.one_mul, a1]
  constructor
  · intro h; rcases e1 with g | g
    · left; omega
    · right; omega
  · have h3 : ct (ct n j) (j + 1) = ct n (j + 1) := ct_trans (Nat.le_succ _)
    rintro (h | h)
    · rw [← h3, h, e]
    · rw [← h3, h]
      have h4 := ct_two_aux j N e
      exact h4
where
  ct_two_aux (j N : Nat) (e : ct N (j + 1) = N) : ct (N + 2 ^ j) (j + 1) = N := by
    conv => rhs; rw [← e]
    apply ct_eq.2
    have : N = 2 ^ (j + 1) * (N / 2 ^ (j + 1)) := by rw [Nat.mul_comm]; exact e.symm
    rw [this, Nat.mul_add_div (pw _), Nat.mul_div_cancel_left _ (pw _), Nat.div_eq_of_lt (Nat.pow_lt_pow_right (by decide) (by omega)), Nat.add_zero]

set_option maxRecDepth 4000 in
theorem half_in {s : Bool} {h l : Nat} {b : Int} {s' : Bool} {h' l' : Nat} (hh : N64 h) (hl : N64 l) (hl' : N64 l') (p : pvl s h l b = true) (hb : b < (wd s : Int)) :
    hld s h l b s' h' l' = (hld s h l (b + 1) s' h' l' != hld s (upH h (kk s b)) (upL l (kk s b)) (b + 1) s' h' l') ∧ ¬ (hld s h l (b + 1) s' h' l' = true ∧ hld s (upH h (kk s b)) (upL l (kk s b)) (b + 1) s' h' l' = true) := by
  obtain ⟨v, o, e⟩ := (pvl_iff hl).1 p
  obtain ⟨u1, u2, u3, u4, u5⟩ := up_spec hh hl p hb
  have o1 := okn_iff.1 o
  have e4 := kk_succ (s := s) o1.1
  have hp := pw (kk s b - 1)
  have o2 : okn s (b + 1) = true := okn_iff.2 ⟨by omega, by omega⟩
  have A : hld s h l b s' h' l' = true ↔ (vld s' h' l' = true ∧ s' = s) ∧ ct (nm h' l') (kk s b) = nm h l := by
    rw [hld_iff hl hl']
    exact ⟨fun ⟨a, _, c, d⟩ => ⟨⟨a, c⟩, by rw [← c]; exact d⟩, fun ⟨⟨a, c⟩, d⟩ => ⟨a, by rw [c]; exact o, c, by rw [c]; exact d⟩⟩
  have B : hld s h l (b + 1) s' h' l' = true ↔ (vld s' h' l' = true ∧ s' = s) ∧ ct (nm h' l') (kk s b - 1) = nm h l := by
    rw [hld_iff hl hl', ← e4]
    exact ⟨fun ⟨a, _, c, d⟩ => ⟨⟨a, c⟩, by rw [← c]; exact d⟩, fun ⟨⟨a, c⟩, d⟩ => ⟨a, by rw [c]; exact o2, c, by rw [c]; exact d⟩⟩
  have C : hld s (upH h (kk s b)) (upL l (kk s b)) (b + 1) s' h' l' = true ↔ (vld s' h' l' = true ∧ s' = s) ∧ ct (nm h' l') (kk s b - 1) = nm h l + 2 ^ (kk s b - 1) := by
    rw [hld_iff u2 hl', ← u3, ← e4]
    constructor
    · rintro ⟨a, _, c, d⟩; subst c; exact ⟨⟨a, rfl⟩, d⟩
    · rintro ⟨⟨a, c⟩, d⟩; subst c; exact ⟨a, o2, rfl, d⟩
  rw [ct_two (kk_pos o1.1 hb) e] at A
  have D : ¬ (hld s h l (b + 1) s' h' l' = true ∧ hld s (upH h (kk s b)) (upL l (kk s b)) (b + 1) s' h' l' = true) := by
    rw [B, C]; rintro ⟨⟨_, x⟩, ⟨_, y⟩⟩
    rw [x] at y
    exact absurd y (Nat.ne_of_lt (Nat.lt_add_of_pos_right hp))
  have E : hld s h l b s' h' l' = true ↔ (hld s h l (b + 1) s' h' l' = true ∨ hld s (upH h (kk s b)) (upL l (kk s b)) (b + 1) s' h' l' = true) := by
    rw [A, B, C]
    exact ⟨fun ⟨x, y⟩ => y.elim (fun y => .inl ⟨x, y⟩) (fun y => .inr ⟨x, y⟩), fun h => h.elim (fun ⟨x, y⟩ => ⟨x, .inl y⟩) (fun ⟨x, y⟩ => ⟨x, .inr y⟩)⟩
  refine ⟨?_, D⟩
  clear A B C
  revert D E
  generalize hld s h l b s' h' l' = x
  generalize hld s h l (b + 1) s' h' l' = y
  generalize hld s (upH h (kk s b)) (upL l (kk s b)) (b + 1) s' h' l' = z
  cases x <;> cases y <;> cases z <;> simp
theorem cov_of {s : Bool} {h l : Nat} {b : Int} {h' l' : Nat} {b' : Int} (hl : N64 l) (hl' : N64 l') (p : pvl s h l b = true) (q : pvl s h' l' b' = true) (hb : b ≤ b') (e : ct (nm h' l') (kk s b) = nm h l) : cov s h l b s h' l' b' = true :=
  (cov_iff hl hl').2 ⟨q, hb, (hld_iff hl hl').2 ⟨((pvl_iff hl').1 q).1, ((pvl_iff hl).1 p).2.1, rfl, e⟩⟩
/-- How the whole and the halves stand to one another. -/
theorem half_around {s : Bool} {h l : Nat} {b : Int} (hh : N64 h) (hl : N64 l) (p : pvl s h l b = true) (hb : b < (wd s : Int)) :
    cov s h l b s h l (b + 1) = true ∧ cov s h l b s (upH h (kk s b)) (upL l (kk s b)) (b + 1) = true ∧ cov s h l (b + 1) s (upH h (kk s b)) (upL l (kk s b)) (b + 1) = false ∧
    cov s (upH h (kk s b)) (upL l (kk s b)) (b + 1) s h l (b + 1) = false ∧ cov s h l (b + 1) s h l b = false ∧ pls s h l b s h l (b + 1) = true ∧ pls s h l (b + 1) s (upH h (kk s b)) (upL l (kk s b)) (b + 1) = true := by
  obtain ⟨v, o, e⟩ := (pvl_iff hl).1 p
  obtain ⟨u1, u2, u3, u4, u5⟩ := up_spec hh hl p hb
  obtain ⟨p1, p2⟩ := half_ok hh hl p hb
  have o1 := okn_iff.1 o
  have e4 := kk_succ (s := s) o1.1
  have hp := pw (kk s b - 1)
  have z1 : ct (nm (upH h (kk s b)) (upL l (kk s b))) (kk s (b + 1)) = nm (upH h (kk s b)) (upL l (kk s b)) := ((pvl_iff u2).1 p2).2.2
  have z2 : ct (nm h l) (kk s (b + 1)) = nm h l := ((pvl_iff hl).1 p1).2.2
  refine ⟨cov_of hl hl p p1 (by omega) e, cov_of hl u2 p p2 (by omega) ?_, ?_, ?_, ?_, ?_, ?_⟩
  · rw [ct_two (kk_pos o1.1 hb) e]
    right
    rw [e4] at z1
    rw [z1, u3]
  · rw [Bool.eq_false_iff]; intro c
    obtain ⟨_, _, c3⟩ := (cov_iff hl u2).1 c
    obtain ⟨_, _, _, c4⟩ := (hld_iff hl u2).1 c3
    omega
  · rw [Bool.eq_false_iff]; intro c
    obtain ⟨_, _, c3⟩ := (cov_iff u2 hl).1 c
    obtain ⟨_, _, _, c4⟩ := (hld_iff u2 hl).1 c3
    omega
  · rw [Bool.eq_false_iff]; intro c
    obtain ⟨_, c2, _⟩ := (cov_iff hl hl).1 c
    omega
  · exact (pls_iff hh hl hh hl).2 ⟨p, p1, .inr ⟨rfl, by omega⟩⟩
  · refine (pls_iff hh hl u1 u2).2 ⟨p1, p2, .inl ?_⟩
    unfold rk; omega
end Go.Proofs.YtecgmejfkfoceaaDoor
