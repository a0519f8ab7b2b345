/-
  An epoch, plainly: what the laws of layer 13 ask (all out; versions 0, 1, ..).
-/
import Derived.Test.YtakeodnebegbhaaEpN
namespace Go.Proofs.Ytakeodnebegbhaa
set_option linter.unusedVariables false

theorem loE_none {l : List Int} (m : Nat) (h : ∀ x ∈ l, x < 0) : loE l m = m := by
  induction l with
  | nil => rfl
  | cons x r ih =>
    unfold loE
    rw [if_neg (by have := h x (by simp); omega), ih (fun y hy => h y (by simp [hy]))]
/-- The first m readers are out. -/
def outs (ins : List Int) (m : Nat) : Prop := ∀ i x, i < m → ins[i]? = some x → x < 0
theorem outs_lev {ins : List Int} {m : Nat} (h : outs ins m) (hm : m < ins.length) : outs (levI ins ((m : Int) + 1)) (m + 1) ∧ inE (levI ins ((m : Int) + 1)) ((m : Int) + 1) = false := by
  have hx := List.getElem?_eq_getElem hm
  have e1 := (inE_at hx).1
  unfold levI
  by_cases h0 : 0 ≤ ins[m]
  · rw [decide_eq_true h0] at e1
    rw [if_pos e1, show ((m : Int) + 1 - 1).toNat = m by omega]
    have hs : (ins.set m (-1))[m]? = some (-1) := by rw [List.getElem?_set_self hm]
    refine ⟨fun i x hi hx => ?_, by rw [(inE_at hs).1]; rfl⟩
    by_cases him : m = i
    · subst him
      rw [hs] at hx
      injection hx with hx
      omega
    · rw [List.getElem?_set_ne him] at hx
      exact h i x (by omega) hx
  · rw [decide_eq_false h0] at e1
    rw [if_neg (by rw [e1]; decide)]
    refine ⟨fun i x hi hxi => ?_, e1⟩
    by_cases him : m = i
    · subst him
      rw [hx] at hxi
      injection hxi with hxi
      omega
    · exact h i x (by omega) hxi
theorem outs_low {all ins : List Int} (h : outs ins ins.length) : lowE all ins = all.length - 1 := loE_none _ (fun x hx => by
  obtain ⟨i, hi⟩ := List.mem_iff_getElem?.1 hx
  exact h i x (List.getElem?_eq_some_iff.1 hi).1 hi)
theorem outs_wt {all ins : List Int} (h : outs ins ins.length) : wtE all ins = [] := by unfold wtE; rw [outs_low h]; exact bkE_nil _ _
theorem curE_app (all : List Int) (v : Int) : curE (all ++ [v]) = v := by simp [curE, List.getD_eq_getElem?_getD]
theorem outs_pub {all ins : List Int} (v : Int) (h : outs ins ins.length) (h1 : 0 < all.length) : pubV all ins v = [curE all] := by
  unfold pubV
  rw [outs_low h, outs_low h]
  have hz : (all ++ [v])[all.length - 1]? = some (curE all) := by
    rw [List.getElem?_append_left (by omega), List.getElem?_eq_getElem (by omega)]
    unfold curE
    rw [List.getD_eq_getElem?_getD, List.getElem?_eq_getElem (by omega)]
    rfl
  rw [show (all ++ [v]).length - 1 = (all.length - 1) + 1 by simp; omega, bkE_snoc (Nat.le_refl _) hz, bkE_nil]
  rfl
/-- Versions 0, 1, .. -/
def rgE (n : Nat) : List Int := (List.range n).map Int.ofNat
theorem rgE_len (n : Nat) : (rgE n).length = n := by simp [rgE]
theorem rgE_at {n i : Nat} (h : i < n) : (rgE n)[i]? = some (i : Int) := by simp [rgE, h]
theorem rgE_snoc (n : Nat) : rgE n ++ [(n : Int)] = rgE (n + 1) := by simp [rgE, List.range_succ]
theorem curE_rg {n : Nat} (h : 0 < n) : curE (rgE n) = ((n - 1 : Nat) : Int) := by
  unfold curE
  rw [List.getD_eq_getElem?_getD, rgE_len, rgE_at (by omega)]
  rfl
theorem low_rg {n : Nat} {ins : List Int} (h : 0 < n) : lowE (rgE n) ins < n := by
  have := lowE_le (rgE n) ins
  rw [rgE_len] at this
  omega
theorem bkE_rg {n lo hi k : Nat} (h : lo + k < hi) (h2 : hi ≤ n) : (bkE (rgE n) lo hi)[k]? = some ((lo + k : Nat) : Int) := by
  rw [bkE_at h, rgE_at (by omega)]
theorem bkE_rg_len {n lo hi : Nat} (h2 : hi ≤ n) : (bkE (rgE n) lo hi).length = hi - lo := bkE_len (by rw [rgE_len]; exact h2)
/-- What a reader that is in has seen was not given back. -/
theorem see_rg {n : Nat} {ins : List Int} {r : Int} (hi : InvE (rgE n) ins) (h : inE ins r = true) : ∃ y : Nat, seeV (rgE n) ins r = (y : Int) ∧ lowE (rgE n) ins ≤ y ∧ y < n ∧ (y : Int) ∈ ins := by
  rcases reader_cases ins r with h0 | ⟨i, x, hri, hil, hx⟩
  · rw [(inE_bad h0).1] at h; cases h
  · have e := (inE_at hx).1
    rw [← hri, h] at e
    have hx0 : 0 ≤ x := of_decide_eq_true e.symm
    obtain ⟨y, rfl⟩ : ∃ y : Nat, x = (y : Int) := ⟨x.toNat, by omega⟩
    have hm := List.mem_of_getElem? hx
    have hb := (hi.in_ _ hm).2
    rw [rgE_len] at hb
    refine ⟨y, ?_, ?_, by omega, hm⟩
    · unfold seeV
      rw [if_pos h, show (r - 1).toNat = i by omega, List.getD_eq_getElem?_getD (l := ins), hx]
      simp only [Option.getD_some, Int.toNat_natCast]
      rw [List.getD_eq_getElem?_getD, rgE_at (by omega)]
      rfl
    · exact loE_in hm (by omega)
theorem loE_snoc (l : List Int) (x : Int) (m : Nat) : loE (l ++ [x]) m = if 0 ≤ x then min x.toNat (loE l m) else loE l m := by
  induction l with
  | nil => rfl
  | cons y r ih =>
    rw [List.cons_append]
    unfold loE
    rw [ih]
    by_cases hx : 0 ≤ x <;> by_cases hy : 0 ≤ y <;> simp [hx, hy] <;> omega
theorem loE_take {l : List Int} {j m : Nat} {x : Int} (h : l[j]? = some x) : loE (l.take (j + 1)) m = if 0 ≤ x then min x.toNat (loE (l.take j) m) else loE (l.take j) m := by
  rw [List.take_add_one, h, Option.toList_some, loE_snoc]
theorem see_at {n i : Nat} {ins : List Int} {x : Nat} (hx : ins[i]? = some (x : Int)) (h : x < n) : seeV (rgE n) ins ((i : Int) + 1) = (x : Int) ∧ inE ins ((i : Int) + 1) = true := by
  have e := (inE_at hx).1
  rw [decide_eq_true (by omega)] at e
  refine ⟨?_, e⟩
  unfold seeV
  rw [if_pos e, show ((i : Int) + 1 - 1).toNat = i by omega, List.getD_eq_getElem?_getD (l := ins), hx]
  simp only [Option.getD_some, Int.toNat_natCast]
  rw [List.getD_eq_getElem?_getD, rgE_at h]
  rfl
/-- If something waits, the least that a reader has seen is what waits first. -/
theorem least_eq {n : Nat} {ins : List Int} (h : lowE (rgE n) ins < n - 1) : loE ins n = lowE (rgE n) ins := by
  unfold lowE at h ⊢
  rw [rgE_len] at h ⊢
  refine loE_eq (by omega) (fun x hx h0 => loE_in hx h0) (fun _ => loE_ex h)
end Go.Proofs.Ytakeodnebegbhaa
