/-
  Which addresses a range of first bits holds, which range another one covers, which is less: plain functions, and what they say.
-/
import Derived.Test.YtecgmejfkfoceaaDoorPBits
import Derived.Test.YtecgmejfkfoceaaDoorValid
namespace Go.Proofs.YtecgmejfkfoceaaDoor
set_option linter.unusedVariables false

/-- How many bits an address has. -/
def wd (s : Bool) : Nat := if s then 128 else 32
def okn (s : Bool) (b : Int) : Bool := decide (0 ≤ b) && decide (b ≤ (wd s : Int))
/-- How many bits stand behind the first b. -/
def kk (s : Bool) (b : Int) : Nat := wd s - b.toNat
/-- Whether an address is held. -/
def hld (s : Bool) (h l : Nat) (b : Int) (s' : Bool) (h' l' : Nat) : Bool :=
  vld s' h' l' && okn s' b && decide (s' = s) && decide (ct h' (kk s' b - 64) = h) && decide (ct l' (kk s' b) = l)
def pvl (s : Bool) (h l : Nat) (b : Int) : Bool := hld s h l b s h l
def cov (s : Bool) (h l : Nat) (b : Int) (s' : Bool) (h' l' : Nat) (b' : Int) : Bool := pvl s' h' l' b' && decide (b ≤ b') && hld s h l b s' h' l'
def pls (s : Bool) (h l : Nat) (b : Int) (s' : Bool) (h' l' : Nat) (b' : Int) : Bool :=
  pvl s h l b && pvl s' h' l' b' && (lss s h l s' h' l' || (decide (s = s') && decide (h = h') && decide (l = l') && decide (b < b')))

def N64 (n : Nat) : Prop := n < 18446744073709551616
theorem N64.lt {n : Nat} (h : N64 n) : n < 2 ^ 64 := h
theorem kk_le (s : Bool) (b : Int) : kk s b ≤ 128 := by unfold kk wd; split <;> omega
theorem okn_iff {s : Bool} {b : Int} : okn s b = true ↔ 0 ≤ b ∧ b ≤ (wd s : Int) := by simp [okn]
theorem hld_iff {s : Bool} {h l : Nat} {b : Int} {s' : Bool} {h' l' : Nat} (hl : N64 l) (hl' : N64 l') :
    hld s h l b s' h' l' = true ↔ vld s' h' l' = true ∧ okn s' b = true ∧ s' = s ∧ ct (nm h' l') (kk s' b) = nm h l := by
  have e : ct (nm h' l') (kk s' b) = nm h l ↔ ct h' (kk s' b - 64) = h ∧ ct l' (kk s' b) = l := by
    rw [nm_ct h' l' _ hl'.lt]
    exact nm_inj (Nat.lt_of_le_of_lt (ct_le _ _) hl'.lt) hl.lt
  rw [e]
  unfold hld
  simp only [Bool.and_eq_true, decide_eq_true_eq]
  constructor
  · rintro ⟨⟨⟨⟨a, b⟩, c⟩, d⟩, e⟩; exact ⟨a, b, c, d, e⟩
  · rintro ⟨a, b, c, d, e⟩; exact ⟨⟨⟨⟨a, b⟩, c⟩, d⟩, e⟩
theorem pvl_iff {s : Bool} {h l : Nat} {b : Int} (hl : N64 l) : pvl s h l b = true ↔ vld s h l = true ∧ okn s b = true ∧ ct (nm h l) (kk s b) = nm h l := by
  unfold pvl
  rw [hld_iff hl hl]
  exact ⟨fun ⟨a, b, _, c⟩ => ⟨a, b, c⟩, fun ⟨a, b, c⟩ => ⟨a, b, rfl, c⟩⟩
/-- What is cut of a valid address is one. -/
theorem vld_ct {s : Bool} {h l h' l' k : Nat} (hl : N64 l) (hl' : N64 l') (hv : vld s h' l' = true) (e : ct (nm h' l') k = nm h l) : vld s h l = true := by
  cases s
  · obtain ⟨e1, e2⟩ := vld_four hv
    rw [nm_ct h' l' _ hl'.lt] at e
    obtain ⟨a, b⟩ := (nm_inj (Nat.lt_of_le_of_lt (ct_le _ _) hl'.lt) hl.lt).1 e
    have h1 := ct_le h' (k - 64)
    have h2 := ct_le l' k
    have h0 : h = 0 := by omega
    have h3 : (l : Int) ≤ 4294967295 := by omega
    subst h0
    simp [vld]; omega
  · rfl
/-- Whoever holds is valid; the address is. -/
theorem hld_pvl {s : Bool} {h l : Nat} {b : Int} {s' : Bool} {h' l' : Nat} (hl : N64 l) (hl' : N64 l') (hh : hld s h l b s' h' l' = true) : pvl s h l b = true := by
  obtain ⟨a, b, rfl, c⟩ := (hld_iff hl hl').1 hh
  refine (pvl_iff hl).2 ⟨vld_ct hl hl' a c, b, ?_⟩
  rw [← c, ct_ct]
theorem hld_via {s : Bool} {h l : Nat} {b : Int} {s' : Bool} {h' l' : Nat} (hl : N64 l) (hl' : N64 l') :
    hld s h l b s' h' l' = true ↔ pvl s h l b = true ∧ vld s' h' l' = true ∧ s = s' ∧ nm h l / 2 ^ kk s b = nm h' l' / 2 ^ kk s b := by
  constructor
  · intro hh
    refine ⟨hld_pvl hl hl' hh, ?_⟩
    obtain ⟨a, b, rfl, c⟩ := (hld_iff hl hl').1 hh
    refine ⟨a, rfl, ?_⟩
    rw [← c, ct_div]
  · rintro ⟨hp, a, rfl, c⟩
    obtain ⟨x, y, z⟩ := (pvl_iff hl).1 hp
    refine (hld_iff hl hl').2 ⟨a, y, rfl, ?_⟩
    rw [← z, ct_eq, c]
theorem cov_iff {s : Bool} {h l : Nat} {b : Int} {s' : Bool} {h' l' : Nat} {b' : Int} (hl : N64 l) (hl' : N64 l') :
    cov s h l b s' h' l' b' = true ↔ pvl s' h' l' b' = true ∧ b ≤ b' ∧ hld s h l b s' h' l' = true := by
  unfold cov
  simp only [Bool.and_eq_true, decide_eq_true_eq]
  exact ⟨fun ⟨⟨a, b⟩, c⟩ => ⟨a, b, c⟩, fun ⟨a, b, c⟩ => ⟨⟨a, b⟩, c⟩⟩
theorem kk_mono {s : Bool} {b b' : Int} (h : b ≤ b') : kk s b' ≤ kk s b := by unfold kk; omega

/-- Whoever is held by the lesser is held by the greater. -/
theorem nest_in {s : Bool} {h l : Nat} {b : Int} {s' : Bool} {h' l' : Nat} {b' : Int} {z : Bool} {m n : Nat} (hl : N64 l) (hl' : N64 l') (hn : N64 n)
    (x : cov s h l b s' h' l' b' = true) (y : hld s' h' l' b' z m n = true) : hld s h l b z m n = true := by
  obtain ⟨_, hb, x2⟩ := (cov_iff hl hl').1 x
  obtain ⟨a1, a2, rfl, a3⟩ := (hld_iff hl hl').1 x2
  obtain ⟨c1, c2, rfl, c3⟩ := (hld_iff hl' hn).1 y
  refine (hld_iff hl hn).2 ⟨c1, a2, rfl, ?_⟩
  rw [← a3, ← c3, ct_trans (kk_mono hb)]
/-- Of two that hold the same one covers the other. -/
theorem nest_or {s : Bool} {h l : Nat} {b : Int} {s' : Bool} {h' l' : Nat} {b' : Int} {z : Bool} {m n : Nat} (hl : N64 l) (hl' : N64 l') (hn : N64 n)
    (x : hld s h l b z m n = true) (y : hld s' h' l' b' z m n = true) (hb : b ≤ b') : cov s h l b s' h' l' b' = true := by
  refine (cov_iff hl hl').2 ⟨hld_pvl hl' hn y, hb, ?_⟩
  obtain ⟨a1, a2, rfl, a3⟩ := (hld_iff hl hn).1 x
  obtain ⟨c1, c2, rfl, c3⟩ := (hld_iff hl' hn).1 y
  refine (hld_iff hl hl').2 ⟨vld_ct hl' hn c1 c3, a2, rfl, ?_⟩
  rw [← a3, ← c3, ct_trans (kk_mono hb)]
theorem nest_eq {s : Bool} {h l : Nat} {b : Int} {s' : Bool} {h' l' : Nat} {b' : Int} (hl : N64 l) (hl' : N64 l') :
    (cov s h l b s' h' l' b' && cov s' h' l' b' s h l b) = (decide (s = s' ∧ h = h' ∧ l = l' ∧ b = b') && pvl s h l b) := by
  rw [Bool.eq_iff_iff]
  simp only [Bool.and_eq_true, decide_eq_true_eq]
  constructor
  · rintro ⟨x, y⟩
    obtain ⟨x1, x2, x3⟩ := (cov_iff hl hl').1 x
    obtain ⟨y1, y2, y3⟩ := (cov_iff hl' hl).1 y
    obtain rfl : b = b' := by omega
    obtain ⟨a1, a2, rfl, a3⟩ := (hld_iff hl hl').1 x3
    obtain ⟨_, _, c3⟩ := (pvl_iff hl').1 x1
    rw [c3] at a3
    obtain ⟨e1, e2⟩ := (nm_inj hl'.lt hl.lt).1 a3
    exact ⟨⟨rfl, e1.symm, e2.symm, rfl⟩, y1⟩
  · rintro ⟨⟨rfl, rfl, rfl, rfl⟩, p⟩
    have : cov s h l b s h l b = true := (cov_iff hl hl).2 ⟨p, Int.le_refl _, p⟩
    exact ⟨this, this⟩
end Go.Proofs.YtecgmejfkfoceaaDoor
