/-
  The law's comparison of two rows of options.
-/
import Derived.Test.YtnligeelbajnpaaNRo
import Derived.Deep.QuietTactic
import Derived.BigQuiet
namespace Go.Proofs.Ytnligeelbajnpaa
open Go.RowKit
set_option linter.unusedVariables false

/-- A slice of options that reads as l, from whatever place of its block on. -/
def RN (w : World) (A : Option Addr) (n : Nat) (l : List Opt9) : Prop :=
  l.length = n ∧ (0 < n → ∃ b o, A = some ⟨b, o, none⟩ ∧ b < w.heap.size ∧ ∀ j x, l[j]? = some x → w.cell? ⟨b, o + j * 2, none⟩ = some (.int .i64 (x.1.toNat : Int)) ∧ w.cell? ⟨b, o + j * 2 + 1, none⟩ = some (.string ⟨x.2.toArray⟩))
theorem ncells_at : ∀ (l : List Opt9) (j : Nat) (x : Opt9), l[j]? = some x → (ncells l)[j * 2]? = some (.int .i64 (x.1.toNat : Int)) ∧ (ncells l)[j * 2 + 1]? = some (.string ⟨x.2.toArray⟩)
  | y :: r, 0, x, h => by cases h; exact ⟨rfl, rfl⟩
  | y :: r, j + 1, x, h => by
    have := ncells_at r j x h
    simp only [ncells, List.flatMap_cons] at this ⊢
    have hl : (ncell y).length = 2 := rfl
    rw [List.getElem?_append_right (by omega), List.getElem?_append_right (by omega), hl, show (j + 1) * 2 - 2 = j * 2 by omega, show (j + 1) * 2 + 1 - 2 = j * 2 + 1 by omega]
    exact this
theorem ncells_len (l : List Opt9) : (ncells l).length = l.length * 2 := by
  induction l with
  | nil => rfl
  | cons x r ih => simp only [ncells, List.flatMap_cons, List.length_append, List.length_cons] at ih ⊢; rw [ih]; simp [ncell]; omega
theorem own_rn {w : World} {base n : Nat} {l : List Opt9} {v : Value} (hn : l.length = n) (h : w.ownsRow base 43 2 v n (ncells l)) : ∃ A c, v = .slice A n c ∧ RN w A n l ∧ n ≤ c ∧ (∀ x, A = some x → base ≤ x.block ∧ x.off = 0 ∧ x.spot = none) := by
  rcases h.2 with ⟨rfl, h0⟩ | ⟨g, cap, cur, rfl, h1, h2, h3, h4, h5, h6⟩
  · subst h0
    exact ⟨none, 0, rfl, ⟨hn, fun h => absurd h (by omega)⟩, Nat.le_refl _, fun _ h => by cases h⟩
  · have hb : Blk w g 43 cur := h2
    refine ⟨_, _, rfl, ⟨hn, fun _ => ⟨g, 0, rfl, hb.lt, fun j x hx => ?_⟩⟩, h3, fun x hx => by injection hx with hx; subst hx; exact ⟨h1, rfl, rfl⟩⟩
    have hj : j < n := by rw [← hn]; exact (List.getElem?_eq_some_iff.1 hx).1
    obtain ⟨e1, e2⟩ := ncells_at l j x hx
    rw [← h6, List.getElem?_take, if_pos (by omega)] at e1 e2
    rw [Nat.zero_add]
    exact ⟨by rw [hb.cell]; simpa using e1, by rw [hb.cell]; simpa using e2⟩
theorem RN.below {w w' : World} {A : Option Addr} {n : Nat} {l : List Opt9} (h : RN w A n l) (hb : Below w.heap.size w w') : RN w' A n l := by
  refine ⟨h.1, fun h0 => ?_⟩
  obtain ⟨b, o, e, hlt, hc⟩ := h.2 h0
  refine ⟨b, o, e, by have := hb.size; omega, fun j x hx => ?_⟩
  obtain ⟨c1, c2⟩ := hc j x hx
  exact ⟨by rw [hb.cell (p := ⟨b, o + j * 2, none⟩) hlt]; exact c1, by rw [hb.cell (p := ⟨b, o + j * 2 + 1, none⟩) hlt]; exact c2⟩
/-- The first so many, and those behind them. -/
theorem RN.first {w : World} {A : Option Addr} {n : Nat} {l : List Opt9} (h : RN w A n l) (k : Nat) (hk : k ≤ n) : RN w A k (l.take k) := by
  refine ⟨by rw [List.length_take, h.1]; omega, fun h0 => ?_⟩
  obtain ⟨b, o, e, hlt, hc⟩ := h.2 (by omega)
  exact ⟨b, o, e, hlt, fun j x hx => hc j x (by rw [List.getElem?_take] at hx; split at hx; exact hx; cases hx)⟩
theorem RN.rest {w : World} {b o n : Nat} {l : List Opt9} (h : RN w (some ⟨b, o, none⟩) n l) (k : Nat) (hk : k ≤ n) : RN w (some ⟨b, o + k * 2, none⟩) (n - k) (l.drop k) := by
  refine ⟨by rw [List.length_drop, h.1], fun h0 => ?_⟩
  obtain ⟨b', o', e, hlt, hc⟩ := h.2 (by omega)
  injection e with e
  injection e with e1 e2
  subst e1 e2
  refine ⟨b, o + k * 2, rfl, hlt, fun j x hx => ?_⟩
  rw [List.getElem?_drop] at hx
  have := hc (k + j) x hx
  rw [show o + (k + j) * 2 = o + k * 2 + j * 2 by omega] at this
  exact this
set_option maxRecDepth 100000 in
set_option maxHeartbeats 4000000 in
theorem nsame_yes (A1 A2 : Option Addr) (n c1 c2 : Nat) (l : List Opt9) (hn : n ≤ 4000000000000) (w : World) (h1 : RN w A1 n l) (h2 : RN w A2 n l) :
    Calls Try.prog 15 #[.slice A1 n c1, .slice A2 n c2] w fun e w' => e = .returned (.bool true) ∧ ∃ m, w' = w.drewN m := by
  have H1 := Lib.hid h1
  have H2 := Lib.hid h2
  have hnb : (n : Int) ≤ 4000000000000 := by omega
  clear h1 h2
  go_enter Try.func15, Try.ntmps15
  go_wp2
  go_loopw [5] (fun i wr => ∃ j : Nat, j ≤ n ∧ i = .int .i64 (j : Int) ∧ Hid (∃ m, wr = w.drewN m)) (fun i _ => n - (intOf i).toNat)
  case atStart => exact ⟨0, Nat.zero_le _, rfl, Lib.hid ⟨0, rfl⟩⟩
  case round =>
    obtain ⟨j, hj, rfl, hw⟩ := hrel
    obtain ⟨m, rfl⟩ := hw.out
    by_cases hlt : j < n
    · have hji : (j : Int) < n := by omega
      obtain ⟨b1, o1, e1, -, hc1⟩ := H1.out.2 (by omega)
      obtain ⟨b2, o2, e2, -, hc2⟩ := H2.out.2 (by omega)
      subst e1 e2
      obtain ⟨x, hx⟩ : ∃ x, l[j]? = some x := ⟨_, List.getElem?_eq_getElem (by rw [H1.out.1]; exact hlt)⟩
      obtain ⟨p1, p2⟩ := hc1 j x hx
      obtain ⟨q1, q2⟩ := hc2 j x hx
      obtain ⟨K, hK⟩ : ∃ K : Int, (x.1.toNat : Int) = K := ⟨_, rfl⟩
      obtain ⟨D, hD⟩ : ∃ D : ByteArray, (⟨x.2.toArray⟩ : ByteArray) = D := ⟨_, rfl⟩
      rw [hK] at p1 q1
      rw [hD] at p2 q2
      have r1 : ∀ k', (w.drewN k').cell? ⟨b1, o1 + j * 2, none⟩ = some (.int .i64 K) := fun _ => p1
      have r2 : ∀ k', (w.drewN k').cell? ⟨b1, o1 + j * 2 + 1, none⟩ = some (.string D) := fun _ => p2
      have s1 : ∀ k', (w.drewN k').cell? ⟨b2, o2 + j * 2, none⟩ = some (.int .i64 K) := fun _ => q1
      have s2 : ∀ k', (w.drewN k').cell? ⟨b2, o2 + j * 2 + 1, none⟩ = some (.string D) := fun _ => q2
      have hw1 : IntKind.i64.wrap ((j : Int) + 1) = (j : Int) + 1 := by rw [IntKind.wrap_i64]; omega
      clear hc1 hc2 hx p1 p2 q1 q2 hw hK hD hnb
      go_wp2
      go_quiet (fail)
      go_wp2
      go_roundw
      case rel => exact ⟨j + 1, hlt, by go_num, Lib.hid ⟨_, rfl⟩⟩
      case measure => simp [intOf]; omega
    · obtain rfl : j = n := by omega
      clear hw
      go_wp2
      go_ret
      exact ⟨rfl, _, rfl⟩
end Go.Proofs.Ytnligeelbajnpaa
