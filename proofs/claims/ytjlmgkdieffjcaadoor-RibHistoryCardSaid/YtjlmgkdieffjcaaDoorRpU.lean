/-
  A rib, plainly (layer 15): what a call does to the one row of a prefix; the prefixes as the keys.
-/
import Derived.Test.YtjlmgkdieffjcaaDoorRpF
namespace Go.Proofs.YtjlmgkdieffjcaaDoor
open Go.RowKit
set_option linter.unusedVariables false

theorem wayI_cons (t : TdI) (r : List TdI) (p : PfI) (x : PaI) : wayI (t :: r) p x = if isW p x t = true then 1 else if wayI r p x = 0 then 0 else wayI r p x + 1 := rfl
theorem fnd_cons {α : Type} (f : α → Bool) (y : α) (l : List α) : fndI f (y :: l) = if f y = true then 1 else if fndI f l = 0 then 0 else fndI f l + 1 := rfl
theorem paths_hd {t : TdI} {r : List TdI} {p : PfI} (h : t.1 = p) : pathsI (t :: r) p = t.2 :: pathsI r p := by
  unfold pathsI; rw [List.filter_cons_of_pos (by simpa using h), List.map_cons]
theorem paths_tl {t : TdI} {r : List TdI} {p : PfI} (h : ¬ t.1 = p) : pathsI (t :: r) p = pathsI r p := by
  unfold pathsI; rw [List.filter_cons_of_neg (by simpa using h)]
/-- Where a way stands, in the prefix's own row. -/
theorem way_row : ∀ (L : List TdI) (p : PfI) (x : PaI), (wayI L p x = 0 ↔ fndI (fun y => sameW x y) (pathsI L p) = 0) ∧
    (¬ wayI L p x = 0 → pathsI (L.eraseIdx (wayI L p x - 1)) p = (pathsI L p).eraseIdx (fndI (fun y => sameW x y) (pathsI L p) - 1) ∧ ∀ q, ¬ q = p → pathsI (L.eraseIdx (wayI L p x - 1)) q = pathsI L q)
  | [], p, x => by simp [wayI, pathsI, fndI]
  | t :: r, p, x => by
    obtain ⟨i1, i2⟩ := way_row r p x
    rw [wayI_cons]
    by_cases hp : t.1 = p
    · rw [paths_hd hp, fnd_cons]
      have hw : isW p x t = sameW x t.2 := by unfold isW; rw [decide_eq_true hp, Bool.true_and]
      rw [hw]
      by_cases hs : sameW x t.2 = true
      · rw [if_pos hs, if_pos hs]
        refine ⟨by simp, fun _ => ⟨by simp, fun q hq => ?_⟩⟩
        rw [paths_tl (fun e => hq (by rw [← e, hp]))]
        simp
      · rw [if_neg hs, if_neg hs]
        by_cases h0 : wayI r p x = 0
        · rw [if_pos h0, if_pos (i1.1 h0)]
          exact ⟨by simp, fun h => absurd rfl h⟩
        · have h1 : ¬ fndI (fun y => sameW x y) (pathsI r p) = 0 := fun e => h0 (i1.2 e)
          obtain ⟨j1, j2⟩ := i2 h0
          rw [if_neg h0, if_neg h1]
          refine ⟨⟨fun e => by omega, fun e => by omega⟩, fun _ => ?_⟩
          obtain ⟨a, ha⟩ : ∃ a, wayI r p x = a + 1 := ⟨wayI r p x - 1, by omega⟩
          obtain ⟨b, hb⟩ : ∃ b, fndI (fun y => sameW x y) (pathsI r p) = b + 1 := ⟨fndI (fun y => sameW x y) (pathsI r p) - 1, by omega⟩
          rw [ha, Nat.add_sub_cancel] at j1 j2
          rw [hb, Nat.add_sub_cancel] at j1
          rw [ha, hb, Nat.add_sub_cancel, Nat.add_sub_cancel, List.eraseIdx_cons_succ, List.eraseIdx_cons_succ, paths_hd hp, j1]
          refine ⟨rfl, fun q hq => ?_⟩
          rw [paths_tl (fun e => hq (by rw [← e, hp])), paths_tl (fun e => hq (by rw [← e, hp])), j2 q hq]
    · have hw : isW p x t = false := by unfold isW; rw [decide_eq_false hp, Bool.false_and]
      rw [hw, if_neg (by simp), paths_tl hp]
      by_cases h0 : wayI r p x = 0
      · rw [if_pos h0]
        exact ⟨by simp [i1.1 h0], fun h => absurd rfl h⟩
      · obtain ⟨j1, j2⟩ := i2 h0
        rw [if_neg h0]
        refine ⟨⟨fun e => by omega, fun e => absurd (i1.2 e) h0⟩, fun _ => ?_⟩
        obtain ⟨a, ha⟩ : ∃ a, wayI r p x = a + 1 := ⟨wayI r p x - 1, by omega⟩
        rw [ha, Nat.add_sub_cancel] at j1 j2
        rw [ha, Nat.add_sub_cancel, List.eraseIdx_cons_succ, paths_tl hp, j1]
        refine ⟨rfl, fun q hq => ?_⟩
        by_cases hq2 : t.1 = q
        · rw [paths_hd hq2, paths_hd hq2, j2 q hq]
        · rw [paths_tl hq2, paths_tl hq2, j2 q hq]
def srtB (l : List PaI) : Prop := l.Pairwise fun x y => betI x y = true
theorem srtB_ext : ∀ {L M : List PaI}, srtB L → srtB M → (∀ t, t ∈ L ↔ t ∈ M) → L = M
  | [], [], _, _, _ => rfl
  | [], y :: s, _, _, h => by have := (h y).2 (by simp); cases this
  | x :: r, [], _, _, h => by have := (h x).1 (by simp); cases this
  | x :: r, y :: s, hL, hM, h => by
    unfold srtB at hL hM
    rw [List.pairwise_cons] at hL hM
    have irr : ∀ z, ¬ betI z z = true := fun z => by rw [betI_irr]; simp
    have hxy : x = y := by
      rcases List.mem_cons.1 ((h x).1 (by simp)) with e | e
      · exact e
      · rcases List.mem_cons.1 ((h y).2 (by simp)) with e2 | e2
        · exact e2.symm
        · exact absurd (betI_trans (hL.1 y e2) (hM.1 x e)) (irr x)
    subst hxy
    congr 1
    refine srtB_ext hL.2 hM.2 fun t => ⟨fun ht => ?_, fun ht => ?_⟩
    · rcases List.mem_cons.1 ((h t).1 (List.mem_cons_of_mem _ ht)) with e | e
      · subst e; exact absurd (hL.1 t ht) (irr t)
      · exact e
    · rcases List.mem_cons.1 ((h t).2 (List.mem_cons_of_mem _ ht)) with e | e
      · subst e; exact absurd (hM.1 t ht) (irr t)
      · exact e
theorem ltT_bet {t u : TdI} (e : t.1 = u.1) : ltT t u ↔ betI t.2 u.2 = true := by
  unfold ltT keyT
  rw [lexP_app (a := keyP t.1) (b := keyP u.1) rfl, betI_key, e]
  exact ⟨fun h => h.elim (fun h => absurd h (lexP.irrefl _)) (fun h => h.2), fun h => .inr ⟨rfl, h⟩⟩
theorem paths_srt {L : List TdI} (h : InvR L) (p : PfI) : srtB (pathsI L p) := by
  unfold srtB pathsI
  rw [List.pairwise_map]
  refine (h.srt.sublist List.filter_sublist).imp_of_mem fun {a b} ha hb hab => ?_
  have e1 := (List.mem_filter.1 ha).2
  have e2 := (List.mem_filter.1 hb).2
  simp at e1 e2
  exact (ltT_bet (by rw [e1, e2])).1 hab
theorem insP_mem (l : List PaI) (x y : PaI) : y ∈ insP l x ↔ y = x ∨ y ∈ l := by
  unfold insP
  split
  · simp [or_comm]
  · generalize fndI (fun y => betI x y) l - 1 = k
    rw [List.mem_append, List.mem_cons]
    have := List.take_append_drop k l
    constructor
    · rintro (h | h | h)
      · exact .inr (List.mem_of_mem_take h)
      · exact .inl h
      · exact .inr (List.mem_of_mem_drop h)
    · rintro (h | h)
      · exact .inr (.inl h)
      · rw [← this, List.mem_append] at h
        rcases h with h | h
        · exact .inl h
        · exact .inr (.inr h)
theorem insP_srt {l : List PaI} {x : PaI} (h : srtB l) (ht : ∀ y ∈ l, betI x y = true ∨ betI y x = true) : srtB (insP l x) := by
  unfold insP srtB at *
  have hb : ∀ y ∈ l, betI x y = false → betI y x = true := fun y hy e => (ht y hy).resolve_left (by rw [e]; simp)
  split
  · rename_i h0
    rw [List.pairwise_append]
    refine ⟨h, List.pairwise_singleton _ _, fun a ha b hb' => ?_⟩
    rw [List.mem_singleton.1 hb']
    obtain ⟨i, hi⟩ := List.mem_iff_getElem?.1 ha
    exact hb a ha (fndI_zero.1 h0 i a hi)
  · rename_i h0
    obtain ⟨k, hk⟩ : ∃ k, fndI (fun y => betI x y) l = k + 1 := ⟨fndI (fun y => betI x y) l - 1, by omega⟩
    rw [hk, Nat.add_sub_cancel]
    obtain ⟨⟨z, hz, hxz⟩, hlt⟩ := fndI_succ.1 hk
    have hd : l.drop k = z :: l.drop (k + 1) := by
      obtain ⟨e1, e2⟩ := List.getElem?_eq_some_iff.1 hz
      rw [List.drop_eq_getElem_cons e1, e2]
    have h2 := h
    rw [← List.take_append_drop k l, List.pairwise_append] at h2
    obtain ⟨s1, s2, s3⟩ := h2
    have hx2 : ∀ y ∈ l.drop k, betI x y = true := fun y hy => by
      rw [hd] at hy s2
      rw [List.pairwise_cons] at s2
      rcases List.mem_cons.1 hy with e | e
      · rw [e]; exact hxz
      · exact betI_trans hxz (s2.1 y e)
    rw [List.pairwise_append, List.pairwise_cons]
    refine ⟨s1, ⟨hx2, s2⟩, fun a ha b hb' => ?_⟩
    have hax : betI a x = true := by
      obtain ⟨i, hi⟩ := List.mem_iff_getElem?.1 ha
      rw [List.getElem?_take] at hi
      split at hi
      · exact hb a (List.mem_of_getElem? hi) (hlt i a (by assumption) hi)
      · cases hi
    rcases List.mem_cons.1 hb' with e | e
    · rw [e]; exact hax
    · exact s3 a ha b e
/-- One path more, in the prefix's own row. -/
theorem ins_row {L : List TdI} (h : InvR L) {p : PfI} {x : PaI} (h2 : InvR (insI L (p, x))) (hn : (p, x) ∉ L) : pathsI (insI L (p, x)) p = insP (pathsI L p) x ∧ ∀ q, ¬ q = p → pathsI (insI L (p, x)) q = pathsI L q := by
  constructor
  · refine srtB_ext (paths_srt h2 p) (insP_srt (paths_srt h p) fun y hy => ?_) fun y => ?_
    · have hm := pathsI_mem.1 hy
      have ht := h2.ok (p, x) ((insI_mem _ _ _).2 (.inl rfl))
      rcases ltT_tri ht (h.ok _ hm) with e | e | e
      · exact .inl ((ltT_bet (t := (p, x)) (u := (p, y)) rfl).1 e)
      · exact absurd (e ▸ hm) hn
      · exact .inr ((ltT_bet (t := (p, y)) (u := (p, x)) rfl).1 e)
    · rw [pathsI_mem, insI_mem, insP_mem, pathsI_mem]
      constructor
      · rintro (e | e)
        · injection e with _ e; exact .inl e
        · exact .inr e
      · rintro (e | e)
        · exact .inl (by rw [e])
        · exact .inr e
  · intro q hq
    unfold insI pathsI
    rw [List.filter_append, List.filter_cons_of_neg (by simp; exact fun e => hq e.symm), ← List.filter_append, List.take_append_drop]
theorem flush_row (L : List TdI) (f : TdI → Bool) (g : PaI → Bool) (q : PfI) (h : ∀ t, t.1 = q → f t = g t.2) : pathsI (L.filter f) q = (pathsI L q).filter g := by
  induction L with
  | nil => rfl
  | cons t r ih =>
    by_cases e : t.1 = q
    · rw [paths_hd e]
      by_cases hf : f t = true
      · rw [List.filter_cons_of_pos hf, paths_hd e, ih, List.filter_cons_of_pos (by rw [← h t e]; exact hf)]
      · rw [List.filter_cons_of_neg hf, ih, List.filter_cons_of_neg (by rw [← h t e]; exact hf)]
    · rw [paths_tl e]
      by_cases hf : f t = true
      · rw [List.filter_cons_of_pos hf, paths_tl e, ih]
      · rw [List.filter_cons_of_neg hf, ih]
/-- How many in all. -/
theorem len_sum : ∀ (K : List PfI) (L : List TdI), K.Nodup → (∀ t ∈ L, t.1 ∈ K) → (K.map fun p => (pathsI L p).length).sum = L.length
  | [], L, _, h => by
    cases L with
    | nil => rfl
    | cons t r => exact absurd (h t (by simp)) (by simp)
  | p :: K, L, hn, h => by
    rw [List.nodup_cons] at hn
    have h1 : L.length = (L.filter fun t => decide (t.1 = p)).length + (L.filter fun t => !decide (t.1 = p)).length := by
      clear h
      induction L with
      | nil => rfl
      | cons t r ih => by_cases e : t.1 = p <;> simp [e, ih] <;> omega
    have h2 := len_sum K (L.filter fun t => !decide (t.1 = p)) hn.2 (fun t ht => by
      have h5 := List.mem_filter.1 ht
      rcases List.mem_cons.1 (h t h5.1) with e | e
      · exact absurd h5.2 (by simp [e])
      · exact e)
    have h3 : (K.map fun q => (pathsI (L.filter fun t => !decide (t.1 = p)) q).length) = K.map fun q => (pathsI L q).length := by
      refine List.map_congr_left fun q hq => ?_
      have hqp : ¬ q = p := fun e => hn.1 (e ▸ hq)
      rw [flush_row L _ (fun _ => true) q (fun t e => by simp [e, hqp])]
      simp
    rw [List.map_cons, List.sum_cons, ← h3, h2, h1]
    congr 1
    unfold pathsI
    rw [List.length_map]
section
variable {w : World} {t m : Nat} {M : List (PfI × Value)} {S : List Nat} {L : List TdI}
/-- The map's keys are the prefixes. -/
theorem RpM.keys (h : RpM w t m M S L) : (M.map Prod.fst).Perm (prefsI L) := by
  refine (List.perm_ext_iff_of_nodup h.mp.nodup (prefsI_nodup h.inv.inv)).2 fun p => ?_
  have e := paths_nil h.inv.inv (p := p)
  constructor
  · intro hp
    obtain ⟨x, hx, rfl⟩ := List.mem_map.1 hp
    have := (h.row x hx).2
    exact Classical.byContradiction fun hn => by have := e.2 hn; omega
  · intro hp
    obtain ⟨v, hv⟩ := h.all p (by
      rcases Nat.eq_zero_or_pos (pathsI L p).length with h0 | h0
      · exact absurd hp (e.1 h0)
      · exact h0)
    exact List.mem_map.2 ⟨_, hv, rfl⟩
theorem RpM.len (h : RpM w t m M S L) : M.length = (prefsI L).length := by
  rw [← h.keys.length_eq, List.length_map]
theorem RpM.sum (h : RpM w t m M S L) : (M.map fun x => (pathsI L x.1).length).sum = L.length := by
  have := len_sum (M.map Prod.fst) L h.mp.nodup (fun u hu => h.keys.mem_iff.2 ((prefsI_mem h.inv.inv).2 ⟨u, hu, rfl⟩))
  rw [List.map_map] at this
  exact this
end
end Go.Proofs.YtjlmgkdieffjcaaDoor
