/-
  Steps as a ring's elements, and a row of them (layer 12).
-/
import Derived.Test.YtogbchahfkphoaaRgX
import Derived.Test.YtogbchahfkphoaaRgP
namespace Go.Proofs.Ytogbchahfkphoaa
open Go.RowKit
set_option linter.unusedVariables false

def cel (x : Stp) : List Value := [.int .i64 x.1, .int .i64 x.2.1, .string x.2.2]
def elP (l : List Stp) : List (List Value) := l.map cel
theorem elP_len (l : List Stp) : (elP l).length = l.length := by simp [elP]
theorem elP_at {l : List Stp} {i : Nat} {x : Stp} (h : l[i]? = some x) : (elP l)[i]? = some (cel x) := by simp [elP, h]
theorem elP_app (l : List Stp) (x : Stp) : elP (l ++ [x]) = elP l ++ [cel x] := by simp [elP]
def cls (l : List Stp) : List Value := l.flatMap cel
theorem cls_app (l : List Stp) (x : Stp) : cls (l ++ [x]) = cls l ++ cel x := by simp [cls]
theorem cls_len (l : List Stp) : (cls l).length = l.length * 3 := by
  induction l with
  | nil => rfl
  | cons x r ih => simp only [cls, List.flatMap_cons, List.length_append, List.length_cons] at ih ⊢; rw [ih]; simp [cel]; omega
theorem cls_at : ∀ {l : List Stp} {i : Nat} {x : Stp}, l[i]? = some x → ∀ k, k < 3 → (cls l)[i * 3 + k]? = (cel x)[k]?
  | [], i, x, h, k, hk => by simp at h
  | y :: r, 0, x, h, k, hk => by
    simp at h
    subst h
    simp only [cls, List.flatMap_cons, Nat.zero_mul, Nat.zero_add]
    rw [List.getElem?_append_left (by simp [cel]; omega)]
  | y :: r, i + 1, x, h, k, hk => by
    simp only [List.getElem?_cons_succ] at h
    have ih := cls_at h k hk
    simp only [cls, List.flatMap_cons] at ih ⊢
    rw [List.getElem?_append_right (by simp [cel]; omega)]
    have e : (i + 1) * 3 + k - (cel y).length = i * 3 + k := by simp [cel]; omega
    rw [e]; exact ih
/-- A row of steps of the call's own: the cells of its i-th one. -/
theorem own_step {w : World} {base n : Nat} {t : TypeId} {A : Option Addr} {c : Nat} {l : List Stp} (h : w.ownsRow base t 3 (.slice A n c) n (cls l)) {i : Nat} {x : Stp} (hx : l[i]? = some x) :
    ∃ g, A = some ⟨g, 0, none⟩ ∧ base ≤ g ∧ g < w.heap.size ∧ w.cell? ⟨g, i * 3, none⟩ = some (.int .i64 x.1) ∧ w.cell? ⟨g, i * 3 + 1, none⟩ = some (.int .i64 x.2.1) ∧ w.cell? ⟨g, i * 3 + 2, none⟩ = some (.string x.2.2) ∧ i < n := by
  have hl := h.1
  rw [cls_len] at hl
  have hi := (List.getElem?_eq_some_iff.1 hx).1
  have hn : i < n := by omega
  obtain ⟨A', c', e, -, hr⟩ := own_sl h
  injection e with e1 e2 e3
  subst e1 e3
  obtain ⟨g, rfl, hb, hg, hc⟩ := hr (by omega)
  exact ⟨g, rfl, hb, hg, hc _ _ (cls_at hx 0 (by decide)), hc _ _ (cls_at hx 1 (by decide)), hc _ _ (cls_at hx 2 (by decide)), hn⟩
theorem infoSt : (Try.prog.info? 29).map (fun i => (i.zero, i.size, i.bytes)) = some (some (.agg #[.int .i64 0, .int .i64 0, .string ⟨#[]⟩]), 3, 32) := by kernel_rfl
end Go.Proofs.Ytogbchahfkphoaa
