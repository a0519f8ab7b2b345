/-
  The document's own epoch (layer 13): each call in one form.
-/
import Derived.Test.YtakeodnebegbhaaEpM
namespace Go.Proofs.Ytakeodnebegbhaa
open Go.RowKit
set_option linter.unusedVariables false

/-- A row that a call hands back: made anew, and none of S. -/
structure NewR (w w' : World) (S : List Nat) (A : Option Addr) (c : Nat) (xs : List Int) : Prop where
  own : w'.ownsRow w.heap.size 3 1 (.slice A xs.length c) xs.length (ints xs)
  non : ∀ g, A = some ⟨g, 0, none⟩ → g ∉ S
theorem NewR.nil (w w' : World) (S : List Nat) : NewR w w' S none 0 [] := ⟨⟨rfl, .inl ⟨rfl, rfl⟩⟩, fun g h => by cases h⟩
theorem NewR.of {w w' : World} {S : List Nat} {A : Option Addr} {c B : Nat} {xs : List Int} (h : w'.ownsRow B 3 1 (.slice A xs.length c) xs.length (ints xs)) (hB : w.heap.size ≤ B) (hS : ∀ s ∈ S, s < B) : NewR w w' S A c xs :=
  ⟨own_mono h hB, fun g hg hm => by
    have := own_basek h g (by rw [hg]; rfl)
    have := hS g hm
    omega⟩
/-- The document's epoch, with its blocks S. -/
def EpD (w : World) (d : Nat) (S : List Nat) (all ins : List Int) : Prop := ∃ gA gG gI, S = [d, gA, gG, gI] ∧ EpD0 w d gA gG gI all (lowE all ins) ins
section
variable {w w' : World} {d : Nat} {S T : List Nat} {all ins : List Int}
theorem EpD.lt (h : EpD w d S all ins) : ∀ s ∈ S, s < w.heap.size := by
  obtain ⟨gA, gG, gI, rfl, h⟩ := h
  have := h.lt
  simp; omega
theorem EpD.inv (h : EpD w d S all ins) : InvE all ins := by
  obtain ⟨gA, gG, gI, rfl, h⟩ := h
  exact h.inv
theorem EpD.tch (h : EpD w d S all ins) (ht : Tch w w' T) (hn : ∀ s ∈ S, s ∉ T) : EpD w' d S all ins := by
  obtain ⟨gA, gG, gI, rfl, h⟩ := h
  simp at hn
  exact ⟨gA, gG, gI, rfl, h.tch ht hn.1 hn.2.1 hn.2.2.1 hn.2.2.2⟩
end
theorem newD_bad (O f : Int) (h : O < 1 ∨ 16 < O) (w : World) : Calls Try.prog 10 #[.int .i64 O, .int .i64 f] w fun e w' => e = .returned (.tuple #[.pointer none, .int .i64 1]) ∧ Tch w w' [] :=
  (rnew_bad O f h w).mono fun e w' ⟨h1, h2⟩ => ⟨h1, h2 ▸ Tch.refl w []⟩
theorem newD_ok (O : Nat) (f : Int) (h1 : 1 ≤ O) (h2 : O ≤ 16) (w : World) : Calls Try.prog 10 #[.int .i64 (O : Int), .int .i64 f] w fun e w' => ∃ d S, e = .returned (.tuple #[.pointer (some ⟨d, 0, none⟩), .int .i64 0]) ∧
    EpD w' d S [f] (List.replicate O (-1)) ∧ Below w.heap.size w w' ∧ ∀ s ∈ S, w.heap.size ≤ s := by
  refine (rnew_ok O f h1 h2 w).mono fun e w' h => ?_
  obtain ⟨d, rfl, gA, gG, gI, h, hb, hs⟩ := h
  refine ⟨d, [d, gA, gG, gI], rfl, ⟨gA, gG, gI, rfl, ?_⟩, hb, by simp; omega⟩
  have : lowE [f] (List.replicate O (-1)) = 0 := by have := lowE_le [f] (List.replicate O (-1)); simpa using this
  rw [this]; exact h
theorem pubD (d : Nat) (S : List Nat) (all ins : List Int) (v : Int) (hl : all.length ≤ 90000) (w : World) (h : EpD w d S all ins) :
    Calls Try.prog 12 #[.pointer (some ⟨d, 0, none⟩), .int .i64 v] w fun e w' => ∃ A c S', e = .returned (.slice A (pubV all ins v).length c) ∧
      NewR w w' S' A c (pubV all ins v) ∧ EpD w' d S' (all ++ [v]) ins ∧ Goes w w' S S' := by
  obtain ⟨gA, gG, gI, rfl, h⟩ := h
  refine (rpub_any d gA gG gI all _ ins v hl rfl w h).mono fun e w' h => ?_
  obtain ⟨A, c, gA', gG', B, h1, h2, h3, h4, h5, h6, h7⟩ := h
  exact ⟨A, c, [d, gA', gG', gI], h1, NewR.of h2 h7.1 (by simp; omega), ⟨gA', gG', gI, rfl, h3⟩, h4.mono (by simp), by simp; omega⟩
theorem entD (d : Nat) (S : List Nat) (all ins : List Int) (r : Int) (hl : all.length ≤ 90000) (w : World) (h : EpD w d S all ins) :
    Calls Try.prog 15 #[.pointer (some ⟨d, 0, none⟩), .int .i64 r] w fun e w' => ∃ S', e = .returned (.tuple #[.int .i64 (entV all ins r), .int .i64 (entN ins r)]) ∧ EpD w' d S' all (entI all ins r) ∧ Goes w w' S S' := by
  have HE : EpD w d S all ins := h
  obtain ⟨gA, gG, gI, rfl, h⟩ := h
  have hbad : outE ins r = false → ∀ {X : Ending}, ∀ (w' : World), w = w' → (X = .returned (.tuple #[.int .i64 0, .int .i64 120])) → ∃ S', X = .returned (.tuple #[.int .i64 (entV all ins r), .int .i64 (entN ins r)]) ∧ EpD w' d S' all (entI all ins r) ∧ Goes w w' [d, gA, gG, gI] S' := by
    intro ho X w' hw hX
    subst hw
    unfold entV entN entI
    rw [ho]
    exact ⟨_, hX, HE, Goes.of_tch (Tch.refl _ _)⟩
  rcases reader_cases ins r with h0 | ⟨i, x, hri, hil, hx⟩
  · by_cases h1 : r < 1
    · exact (rent_bad1 d gA gG gI all _ ins r h1 w h).mono fun e w' ⟨k1, k2⟩ => hbad (inE_bad h0).2 w' k2 k1
    · exact (rent_bad2 d gA gG gI all _ ins r h1 (by omega) w h).mono fun e w' ⟨k1, k2⟩ => hbad (inE_bad h0).2 w' k2 k1
  · have hio := (inE_at hx).2
    rw [← hri] at hio
    by_cases hx0 : x < 0
    · rw [decide_eq_true hx0] at hio
      refine (rent_ok d gA gG gI all _ ins (by omega) r i x hri hx hx0 w h).mono fun e w' ⟨k1, k2, k3⟩ => ?_
      have he : entI all ins r = ins.set i ((all.length - 1 : Nat) : Int) := by unfold entI; rw [if_pos hio, show (r - 1).toNat = i by omega]
      refine ⟨[d, gA, gG, gI], ?_, ⟨gA, gG, gI, rfl, ?_⟩, Goes.of_tch (k3.mono (by simp))⟩
      · unfold entV entN; rw [if_pos hio, if_pos hio]; exact k1
      · rw [lowE_ent, he]; exact k2
    · rw [decide_eq_false hx0] at hio
      exact (rent_bad3 d gA gG gI all _ ins r i x hri hx hx0 w h).mono fun e w' ⟨k1, k2⟩ => hbad hio w' k2 k1
theorem levD (d : Nat) (S : List Nat) (all ins : List Int) (r : Int) (hl : all.length ≤ 90000) (w : World) (h : EpD w d S all ins) :
    Calls Try.prog 17 #[.pointer (some ⟨d, 0, none⟩), .int .i64 r] w fun e w' => ∃ A c S', e = .returned (.tuple #[.slice A (levV all ins r).length c, .int .i64 (levN ins r)]) ∧
      NewR w w' S' A c (levV all ins r) ∧ EpD w' d S' all (levI ins r) ∧ Goes w w' S S' := by
  have HE : EpD w d S all ins := h
  have hlt := h.lt
  obtain ⟨gA, gG, gI, rfl, h⟩ := h
  have hbad : inE ins r = false → ∀ {X : Ending}, ∀ (w' : World), w = w' → (X = .returned (.tuple #[.slice none 0 0, .int .i64 120])) → ∃ A c S', X = .returned (.tuple #[.slice A (levV all ins r).length c, .int .i64 (levN ins r)]) ∧ NewR w w' S' A c (levV all ins r) ∧ EpD w' d S' all (levI ins r) ∧ Goes w w' [d, gA, gG, gI] S' := by
    intro ho X w' hw hX
    subst hw
    have hi : levI ins r = ins := by unfold levI; rw [ho]; rfl
    have hv : levV all ins r = [] := by unfold levV; rw [hi]; exact bkE_nil _ _
    have hn : levN ins r = 120 := by unfold levN; rw [ho]; rfl
    rw [hi, hv, hn]
    exact ⟨none, 0, _, hX, NewR.nil _ _ _, HE, Goes.of_tch (Tch.refl _ _)⟩
  rcases reader_cases ins r with h0 | ⟨i, x, hri, hil, hx⟩
  · by_cases h1 : r < 1
    · exact (rlev_bad1 d gA gG gI all _ ins r h1 w h).mono fun e w' ⟨k1, k2⟩ => hbad (inE_bad h0).1 w' k2 k1
    · exact (rlev_bad2 d gA gG gI all _ ins r h1 (by omega) w h).mono fun e w' ⟨k1, k2⟩ => hbad (inE_bad h0).1 w' k2 k1
  · have hio := (inE_at hx).1
    rw [← hri] at hio
    by_cases hx0 : x < 0
    · rw [decide_eq_false (by omega)] at hio
      exact (rlev_bad3 d gA gG gI all _ ins r i x hri hx hx0 w h).mono fun e w' ⟨k1, k2⟩ => hbad hio w' k2 k1
    · rw [decide_eq_true (by omega)] at hio
      obtain ⟨x, rfl⟩ : ∃ y : Nat, x = (y : Int) := ⟨x.toNat, by omega⟩
      refine (rlev_ok d gA gG gI all _ ins hl rfl r i x hri hx w h).mono fun e w' h => ?_
      have hi : levI ins r = ins.set i (-1) := by unfold levI; rw [if_pos hio, show (r - 1).toNat = i by omega]
      have hv : levV all ins r = bkE all (lowE all ins) (lowE all (ins.set i (-1))) := by unfold levV; rw [hi]
      have hn : levN ins r = 0 := by unfold levN; rw [if_pos hio]
      rw [hi, hv, hn]
      obtain ⟨A, c, k1, k2, k3, k4⟩ := h
      exact ⟨A, c, [d, gA, gG, gI], k1, NewR.of k2 (Nat.le_refl _) hlt, ⟨gA, gG, gI, rfl, k3⟩, Goes.of_tch (k4.mono (by simp))⟩
theorem curD (d : Nat) (S : List Nat) (all ins : List Int) (hl : all.length ≤ 90000) (w : World) (h : EpD w d S all ins) :
    Calls Try.prog 20 #[.pointer (some ⟨d, 0, none⟩)] w fun e w' => e = .returned (.int .i64 (curE all)) ∧ EpD w' d S all ins ∧ Tch w w' S := by
  have HE : EpD w d S all ins := h
  obtain ⟨gA, gG, gI, rfl, h⟩ := h
  exact (rcur_any d gA gG gI all _ ins (by omega) w h).mono fun e w' ⟨k1, k2⟩ => ⟨k1, k2 ▸ HE.tch (Tch.refl w []).drew (by simp), k2 ▸ (Tch.refl w _).drew⟩
theorem seeD (d : Nat) (S : List Nat) (all ins : List Int) (r : Int) (hl : all.length ≤ 90000) (w : World) (h : EpD w d S all ins) :
    Calls Try.prog 23 #[.pointer (some ⟨d, 0, none⟩), .int .i64 r] w fun e w' => e = .returned (.tuple #[.int .i64 (seeV all ins r), .bool (inE ins r)]) ∧ EpD w' d S all ins ∧ Tch w w' S := by
  have HE : EpD w d S all ins := h
  obtain ⟨gA, gG, gI, rfl, h⟩ := h
  have hbad : inE ins r = false → ∀ {X : Ending}, ∀ (w' : World), w = w' → (X = .returned (.tuple #[.int .i64 0, .bool false])) → X = .returned (.tuple #[.int .i64 (seeV all ins r), .bool (inE ins r)]) ∧ EpD w' d [d, gA, gG, gI] all ins ∧ Tch w w' [d, gA, gG, gI] := by
    intro ho X w' hw hX
    subst hw
    unfold seeV
    rw [ho]
    exact ⟨hX, HE, Tch.refl _ _⟩
  rcases reader_cases ins r with h0 | ⟨i, x, hri, hil, hx⟩
  · by_cases h1 : r < 1
    · exact (rsee_bad1 d gA gG gI all _ ins r h1 w h).mono fun e w' ⟨k1, k2⟩ => hbad (inE_bad h0).1 w' k2 k1
    · exact (rsee_bad2 d gA gG gI all _ ins r h1 (by omega) w h).mono fun e w' ⟨k1, k2⟩ => hbad (inE_bad h0).1 w' k2 k1
  · have hio := (inE_at hx).1
    rw [← hri] at hio
    by_cases hx0 : x < 0
    · rw [decide_eq_false (by omega)] at hio
      exact (rsee_bad3 d gA gG gI all _ ins r i x hri hx hx0 w h).mono fun e w' ⟨k1, k2⟩ => hbad hio w' k2 k1
    · rw [decide_eq_true (by omega)] at hio
      obtain ⟨x, rfl⟩ : ∃ y : Nat, x = (y : Int) := ⟨x.toNat, by omega⟩
      have hxl := (h.inv.in_ _ (List.mem_of_getElem? hx)).2
      have hv : all[x]? = some (seeV all ins r) := by
        unfold seeV
        rw [if_pos hio, show (r - 1).toNat = i by omega, List.getD_eq_getElem?_getD (l := ins), hx]
        simp only [Option.getD_some, Int.toNat_natCast]
        rw [List.getD_eq_getElem?_getD, List.getElem?_eq_getElem (by omega)]
        rfl
      rw [hio]
      exact (rsee_ok d gA gG gI all _ ins (by omega) r i x hri hx _ hv w h).mono fun e w' ⟨k1, k2⟩ => ⟨k1, k2 ▸ HE.tch (Tch.refl w []).drew (by simp), k2 ▸ (Tch.refl w _).drew⟩
theorem waitD (d : Nat) (S : List Nat) (all ins : List Int) (hl : all.length ≤ 90000) (w : World) (h : EpD w d S all ins) :
    Calls Try.prog 21 #[.pointer (some ⟨d, 0, none⟩)] w fun e w' => ∃ A c, e = .returned (.slice A (wtE all ins).length c) ∧ NewR w w' S A c (wtE all ins) ∧ EpD w' d S all ins ∧ Tch w w' S := by
  have HE : EpD w d S all ins := h
  have hlt := h.lt
  obtain ⟨gA, gG, gI, rfl, h⟩ := h
  refine (rwait_any d gA gG gI all _ ins hl (lowE_le _ _) w h).mono fun e w' h => ?_
  obtain ⟨A, c, k1, k2, k3⟩ := h
  exact ⟨A, c, k1, NewR.of k2 (Nat.le_refl _) hlt, HE.tch k3 (by simp), k3.mono (by simp)⟩
end Go.Proofs.Ytakeodnebegbhaa
