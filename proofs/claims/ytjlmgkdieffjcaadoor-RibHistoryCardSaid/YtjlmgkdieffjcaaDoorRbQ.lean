/-
  A rib, plainly (layer 15): at most four paths a prefix, at most ninety prefixes; a rib is what stands in it.
-/
import Derived.Test.YtjlmgkdieffjcaaDoorRbP
namespace Go.Proofs.YtjlmgkdieffjcaaDoor
set_option linter.unusedVariables false

theorem paths_cons (t : TdI) (L : List TdI) (p : PfI) : (pathsI (t :: L) p).length = (if t.1 = p then 1 else 0) + (pathsI L p).length := by
  unfold pathsI
  rw [List.filter_cons]
  by_cases h : t.1 = p
  · simp [h]; omega
  · simp [h]
theorem paths_ins (L : List TdI) (t : TdI) (p : PfI) : (pathsI (insI L t) p).length = (if t.1 = p then 1 else 0) + (pathsI L p).length := by
  rw [(paths_perm (insI_perm L t) p).length_eq, paths_cons]
theorem erase_perm {α : Type} : ∀ {L : List α} {i : Nat} {t : α}, L[i]? = some t → L.Perm (t :: L.eraseIdx i)
  | [], i, t, h => by simp at h
  | x :: r, 0, t, h => by simp at h; subst h; exact List.Perm.refl _
  | x :: r, i + 1, t, h => by
    have := erase_perm (L := r) (i := i) (by simpa using h)
    exact (this.cons x).trans (List.Perm.swap t x _)
theorem prefs_mem_erase {L : List TdI} (h : InvR L) {i : Nat} {t : TdI} (ht : L[i]? = some t) (q : PfI) : q ∈ prefsI L ↔ q = t.1 ∨ q ∈ prefsI (L.eraseIdx i) := by
  rw [prefsI_mem h, prefsI_mem (h.sub (List.eraseIdx_sublist _ _))]
  have hp := erase_perm ht
  constructor
  · rintro ⟨u, hu, e⟩
    rcases List.mem_cons.1 (hp.subset hu) with k | k
    · subst k; exact .inl e.symm
    · exact .inr ⟨u, k, e⟩
  · rintro (e | ⟨u, hu, e⟩)
    · exact ⟨t, List.mem_of_getElem? ht, e.symm⟩
    · exact ⟨u, List.mem_of_mem_eraseIdx hu, e⟩
/-- And it is within its limits. -/
structure InvB (L : List TdI) : Prop where
  inv : InvR L
  four : ∀ p, (pathsI L p).length ≤ 4
  ninety : (prefsI L).length ≤ 90
theorem InvB.nil : InvB [] := ⟨InvR.nil, fun p => by simp [pathsI], by simp [prefsI, prefK]⟩
theorem prefs_sub {L M : List TdI} (h : InvR L) (hs : M.Sublist L) : (prefsI M).length ≤ (prefsI L).length := by
  have hM := h.sub hs
  have e : prefsI M = (prefsI L).filter (fun p => decide (p ∈ prefsI M)) := by
    refine srtP_ext (prefsI_srt hM) ((prefsI_srt h).sublist List.filter_sublist) fun q => ?_
    rw [List.mem_filter, decide_eq_true_eq]
    refine ⟨fun hq => ⟨?_, hq⟩, fun hq => hq.2⟩
    obtain ⟨t, ht, e⟩ := (prefsI_mem hM).1 hq
    exact (prefsI_mem h).2 ⟨t, hs.subset ht, e⟩
  rw [e]
  exact List.length_filter_le _ _
theorem paths_sub {L M : List TdI} (hs : M.Sublist L) (p : PfI) : (pathsI M p).length ≤ (pathsI L p).length := ((hs.filter _).map _).length_le
theorem InvB.sub {L M : List TdI} (h : InvB L) (hs : M.Sublist L) : InvB M := ⟨h.inv.sub hs, fun p => Nat.le_trans (paths_sub hs p) (h.four p), Nat.le_trans (prefs_sub h.inv hs) h.ninety⟩
theorem InvB.put {L : List TdI} (h : InvB L) (p : PfI) (x : PaI) (n1 : N64 p.1.2.1 ∧ N64 p.1.2.2) (n2 : N64 x.2.2.1.2.1 ∧ N64 x.2.2.1.2.2) : InvB (putR L p x).1 := by
  have hI := h.inv.put p x n1 n2
  unfold putR at hI ⊢
  split at hI
  · rename_i h1; rw [if_pos h1]; exact h
  · rename_i h1
    rw [if_neg h1]
    split at hI
    · rename_i hw
      rw [if_pos hw]
      obtain ⟨i, hi⟩ : ∃ i, wayI L p x = i + 1 := ⟨wayI L p x - 1, by omega⟩
      rw [hi, Nat.add_sub_cancel] at hI ⊢
      obtain ⟨t, ht, hwt⟩ := wayI_at hi
      have htp := (isW_pair.1 hwt).1
      have hE := h.inv.sub (List.eraseIdx_sublist L i)
      refine ⟨hI, fun q => ?_, ?_⟩
      · have e1 := (paths_perm (erase_perm ht) q).length_eq
        rw [paths_cons] at e1
        rw [paths_ins]
        have := h.four q
        rw [htp] at e1
        show (if p = q then 1 else 0) + _ ≤ 4
        omega
      · have : prefsI (insI (L.eraseIdx i) (p, x)) = prefsI L := by
          refine srtP_ext (prefsI_srt hI) (prefsI_srt h.inv) fun q => ?_
          rw [prefs_mem_erase h.inv ht, prefsI_mem hI, prefsI_mem hE, htp]
          constructor
          · rintro ⟨u, hu, e⟩
            rcases (insI_mem _ _ _).1 hu with k | k
            · subst k; exact .inl e.symm
            · exact .inr ⟨u, k, e⟩
          · rintro (e | ⟨u, hu, e⟩)
            · exact ⟨(p, x), (insI_mem _ _ _).2 (.inl rfl), e.symm⟩
            · exact ⟨u, (insI_mem _ _ _).2 (.inr hu), e⟩
        rw [this]
        exact h.ninety
    · rename_i hw
      rw [if_neg hw]
      split at hI
      · rename_i hf; rw [if_pos hf]; exact h
      · rename_i hf
        rw [if_neg hf]
        obtain ⟨a1, a2⟩ := prefs_ins h.inv hI
        refine ⟨hI, fun q => ?_, ?_⟩
        · rw [paths_ins]
          have := h.four q
          by_cases e : p = q
          · subst e; simp; omega
          · simp [e]; omega
        · by_cases hp : p ∈ prefsI L
          · rw [a1 hp]; exact h.ninety
          · have h8 := (a2 hp).length_eq
            rw [List.length_cons] at h8
            have h0 := (paths_nil h.inv).2 hp
            show (prefsI (insI L (p, x))).length ≤ 90
            omega
theorem InvB.drop {L : List TdI} (h : InvB L) (p : PfI) (x : PaI) : InvB (dropR L p x).1 := by
  unfold dropR
  split
  · exact h
  · exact h.sub (List.eraseIdx_sublist _ _)
theorem InvB.flush {L : List TdI} (h : InvB L) (pr : Int) : InvB (flushR L pr).1 := h.sub List.filter_sublist
/-! a rib is what stands in it -/
/-- One told again into a part of what stands. -/
theorem put_part {L : List TdI} (h : InvB L) (D : TdI → Bool) {t : TdI} (ht : t ∈ L) (hD : D t = false) : putR (L.filter D) t.1 t.2 = (L.filter (fun u => D u || decide (u = t)), 0) := by
  have hok := h.inv.ok t ht
  have hM := h.inv.sub (List.filter_sublist (p := D) (l := L))
  have hw : wayI (L.filter D) t.1 t.2 = 0 := by
    rw [wayI_zero]
    intro u hu
    rw [List.mem_filter] at hu
    rw [Bool.eq_false_iff]
    intro hwu
    obtain ⟨k1, k2⟩ := isW_pair.1 hwu
    have hne : u ≠ t := fun e => by subst e; rw [hD] at hu; exact absurd hu.2 (by simp)
    have hpw : ∀ a ∈ L, ∀ b ∈ L, a ≠ b → ¬ (a.1 = b.1 ∧ sameW a.2 b.2 = true) := by
      have h9 := h.inv.way
      intro a ha b hb hab
      obtain ⟨i, hi, ei⟩ := List.mem_iff_getElem.1 ha
      obtain ⟨j, hj, ej⟩ := List.mem_iff_getElem.1 hb
      rcases Nat.lt_trichotomy i j with hij | hij | hij
      · have := (List.pairwise_iff_getElem.1 h9) i j hi hj hij
        rw [ei, ej] at this; exact this
      · subst hij; exact absurd (ei.symm.trans ej) hab
      · have := (List.pairwise_iff_getElem.1 h9) j i hj hi hij
        rw [ei, ej] at this; exact way_symm this
    exact hpw u hu.1 t ht hne ⟨k1, k2⟩
  have hI := hM.ins (p := t.1) (x := t.2) hok hw
  have hlt : ∀ q, (pathsI (insI (L.filter D) t) q).length ≤ (pathsI L q).length := by
    intro q
    have h1 := hI
    have hsub : (insI (L.filter D) t).Sublist L := by
      have e : insI (L.filter D) t = L.filter (fun u => D u || decide (u = t)) := by
        refine srt_ext hI.srt (h.inv.srt.sublist List.filter_sublist) fun u => ?_
        rw [insI_mem, List.mem_filter, List.mem_filter, Bool.or_eq_true, decide_eq_true_eq]
        constructor
        · rintro (e | ⟨k1, k2⟩)
          · subst e; exact ⟨ht, .inr rfl⟩
          · exact ⟨k1, .inl k2⟩
        · rintro ⟨k1, k2 | k2⟩
          · exact .inr ⟨k1, k2⟩
          · exact .inl k2
      rw [e]; exact List.filter_sublist
    exact paths_sub hsub q
  have e : insI (L.filter D) t = L.filter (fun u => D u || decide (u = t)) := by
    refine srt_ext hI.srt (h.inv.srt.sublist List.filter_sublist) fun u => ?_
    rw [insI_mem, List.mem_filter, List.mem_filter, Bool.or_eq_true, decide_eq_true_eq]
    constructor
    · rintro (e | ⟨k1, k2⟩)
      · subst e; exact ⟨ht, .inr rfl⟩
      · exact ⟨k1, .inl k2⟩
    · rintro ⟨k1, k2 | k2⟩
      · exact .inr ⟨k1, k2⟩
      · exact .inl k2
  have hc := hlt t.1
  rw [paths_ins, if_pos rfl] at hc
  have h4 := h.four t.1
  unfold putR
  rw [if_neg (by rw [hok.right]; simp), if_neg (by simpa using hw), if_neg ?_]
  · exact Prod.ext e rfl
  · rintro (k | ⟨k1, k2⟩)
    · omega
    · have hnp := (paths_nil hM).1 k1
      have h1 := ((prefs_ins hM hI).2 hnp).length_eq
      rw [List.length_cons] at h1
      have h2 : (prefsI (insI (L.filter D) t)).length ≤ (prefsI L).length := by
        show (prefsI (insI (L.filter D) t)).length ≤ _
        rw [e]
        exact prefs_sub h.inv List.filter_sublist
      have h3 := h.ninety
      have h5 : insI (L.filter D) (t.1, t.2) = insI (L.filter D) t := rfl
      rw [h5] at h1
      omega
end Go.Proofs.YtjlmgkdieffjcaaDoor
