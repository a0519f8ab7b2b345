/-
  The law's comparison of two rows of options.
-/
import Derived.Test.YtbhddodghbhjiaaFOpt
import Derived.Deep.QuietTactic
namespace Go.Proofs.Ytbhddodghbhjiaa
open Go.RowKit
set_option linter.unusedVariables false

/-- A slice of options that reads as os. -/
def RO (w : World) (A : Option Addr) (n : Nat) (os : List (List UInt8)) : Prop :=
  os.length = n ∧ (0 < n → ∃ b, A = some ⟨b, 0, none⟩ ∧ ∀ j x, os[j]? = some x → w.cell? ⟨b, j * 2, none⟩ = some (.int .i64 ((x.headD 0).toNat : Int)) ∧ w.cell? ⟨b, j * 2 + 1, none⟩ = some (.string ⟨(x.drop 2).toArray⟩))
theorem ocells_at : ∀ (os : List (List UInt8)) (j : Nat) (x : List UInt8), os[j]? = some x → (ocells os)[j * 2]? = some (.int .i64 ((x.headD 0).toNat : Int)) ∧ (ocells os)[j * 2 + 1]? = some (.string ⟨(x.drop 2).toArray⟩)
  | y :: r, 0, x, h => by cases h; exact ⟨rfl, rfl⟩
  | y :: r, j + 1, x, h => by
    have := ocells_at r j x h
    simp only [ocells, List.flatMap_cons] at this ⊢
    have hl : (ocell y).length = 2 := rfl
    rw [List.getElem?_append_right (by omega), List.getElem?_append_right (by omega), hl, show (j + 1) * 2 - 2 = j * 2 by omega, show (j + 1) * 2 + 1 - 2 = j * 2 + 1 by omega]
    exact this
theorem own_ro {w : World} {base n : Nat} {os : List (List UInt8)} {v : Value} (hn : os.length = n) (h : w.ownsRow base 57 2 v n (ocells os)) : ∃ A c, v = .slice A n c ∧ RO w A n os ∧ n ≤ c := by
  rcases h.2 with ⟨rfl, h0⟩ | ⟨g, cap, cur, rfl, h1, h2, h3, h4, h5, h6⟩
  · subst h0
    exact ⟨none, 0, rfl, ⟨hn, fun h => absurd h (by omega)⟩, Nat.le_refl _⟩
  · refine ⟨_, _, rfl, ⟨hn, fun _ => ⟨g, rfl, fun j x hx => ?_⟩⟩, h3⟩
    have hb : Blk w g 57 cur := h2
    have hj : j < n := by rw [← hn]; exact (List.getElem?_eq_some_iff.1 hx).1
    obtain ⟨e1, e2⟩ := ocells_at os j x hx
    rw [← h6, List.getElem?_take, if_pos (by omega)] at e1 e2
    exact ⟨by rw [hb.cell]; simpa using e1, by rw [hb.cell]; simpa using e2⟩
theorem RO.below {w w' : World} {A : Option Addr} {n : Nat} {os : List (List UInt8)} (h : RO w A n os) (hb : Below w.heap.size w w') : RO w' A n os := by
  refine ⟨h.1, fun h0 => ?_⟩
  obtain ⟨b, e, hc⟩ := h.2 h0
  refine ⟨b, e, fun j x hx => ?_⟩
  obtain ⟨c1, c2⟩ := hc j x hx
  exact ⟨by rw [hb.cell (World.block_lt_of_cell? w _ c1)]; exact c1, by rw [hb.cell (World.block_lt_of_cell? w _ c2)]; exact c2⟩
theorem drewN_add (w : World) (m : Nat) : ∀ k, (w.drewN m).drewN k = w.drewN (m + k)
  | 0 => rfl
  | k + 1 => by
    have := drewN_add w m k
    show ((w.drewN m).drewN k).drew = _
    rw [this]; rfl
theorem below_drewN' (w : World) : ∀ m, Below w.heap.size w (w.drewN m)
  | 0 => Below.refl _ _
  | m + 1 => (below_drewN' w m).drew
set_option maxRecDepth 100000 in
set_option maxHeartbeats 2000000 in
theorem same_yes (A1 A2 : Option Addr) (n c1 c2 : Nat) (os : List (List UInt8)) (hn : n ≤ 5000000000000) (w : World) (h1 : RO w A1 n os) (h2 : RO w A2 n os) :
    Calls Try.prog 30 #[.slice A1 n c1, .slice A2 n c2] w fun e w' => e = .returned (.bool true) ∧ Below w.heap.size w w' := by
  have H1 := Lib.hid h1
  have H2 := Lib.hid h2
  have HN := Lib.hid hn
  have hnb : (n : Int) ≤ 5000000000000 := by omega
  clear h1 h2 hn
  go_enter Try.func30, Try.ntmps30
  go_wp2
  go_loopw [5] (fun i wr => ∃ j : Nat, j ≤ n ∧ i = .int .i64 (j : Int) ∧ Hid (∃ m, wr = w.drewN m)) (fun i _ => n - (intOf i).toNat)
  case atStart => exact ⟨0, Nat.zero_le _, rfl, Lib.hid ⟨0, rfl⟩⟩
  case round =>
    obtain ⟨j, hj, rfl, hw⟩ := hrel
    obtain ⟨m, rfl⟩ := hw.out
    by_cases hlt : j < n
    · have hji : (j : Int) < n := by omega
      obtain ⟨b1, e1, hc1⟩ := H1.out.2 (by omega)
      obtain ⟨b2, e2, hc2⟩ := H2.out.2 (by omega)
      subst e1 e2
      obtain ⟨x, hx⟩ : ∃ x, os[j]? = some x := ⟨_, List.getElem?_eq_getElem (by rw [H1.out.1]; exact hlt)⟩
      obtain ⟨p1, p2⟩ := hc1 j x hx
      obtain ⟨q1, q2⟩ := hc2 j x hx
      obtain ⟨K, hK⟩ : ∃ K : Int, ((x.headD 0).toNat : Int) = K := ⟨_, rfl⟩
      obtain ⟨D, hD⟩ : ∃ D : ByteArray, (⟨(x.drop 2).toArray⟩ : ByteArray) = D := ⟨_, rfl⟩
      rw [hK] at p1 q1
      rw [hD] at p2 q2
      have r1 : ∀ k, (w.drewN k).cell? ⟨b1, j * 2, none⟩ = some (.int .i64 K) := fun k => p1
      have r2 : ∀ k, (w.drewN k).cell? ⟨b1, j * 2 + 1, none⟩ = some (.string D) := fun k => p2
      have s1 : ∀ k, (w.drewN k).cell? ⟨b2, j * 2, none⟩ = some (.int .i64 K) := fun k => q1
      have s2 : ∀ k, (w.drewN k).cell? ⟨b2, j * 2 + 1, none⟩ = some (.string D) := fun k => q2
      have HDr : Hid (∀ k, ∃ m', (w.drewN m).drewN k = w.drewN m') := Lib.hid fun k => ⟨m + k, drewN_add w m k⟩
      clear hK hD hc1 hc2 hx p1 p2 q1 q2 hw
      go_wp2
      go_quiet (fail)
      go_wp2
      go_roundw
      case rel => exact ⟨j + 1, by omega, by go_num, Lib.hid ⟨_, rfl⟩⟩
      case measure => simp [intOf]; omega
    · obtain rfl : j = n := by omega
      clear hw
      go_wp2
      go_ret
      exact ⟨rfl, below_drewN' w _⟩
end Go.Proofs.Ytbhddodghbhjiaa
