/-
  A rib, plainly (layer 15): each call keeps what holds of every rib; the prefixes that have a path.
-/
import Derived.Test.YtjlmgkdieffjcaaDoorRbM
namespace Go.Proofs.YtjlmgkdieffjcaaDoor
set_option linter.unusedVariables false

theorem InvR.sub {L M : List TdI} (h : InvR L) (hs : M.Sublist L) : InvR M := ⟨fun t ht => h.ok t (hs.subset ht), h.srt.sublist hs, h.way.sublist hs⟩
theorem insI_perm (L : List TdI) (t : TdI) : (insI L t).Perm (t :: L) := by
  unfold insI
  have h := List.perm_middle (a := t) (l₁ := L.take (posI L t)) (l₂ := L.drop (posI L t))
  rwa [List.take_append_drop] at h
theorem isW_pair {p : PfI} {x : PaI} {t : TdI} : isW p x t = true ↔ (t.1 = p ∧ sameW t.2 x = true) := by
  unfold isW
  rw [Bool.and_eq_true, decide_eq_true_eq, sameW_comm]
theorem wayI_zero {L : List TdI} {p : PfI} {x : PaI} : wayI L p x = 0 ↔ ∀ t ∈ L, isW p x t = false := by
  unfold wayI
  rw [fndI_zero]
  constructor
  · intro h t ht
    obtain ⟨i, hi⟩ := List.mem_iff_getElem?.1 ht
    exact h i t hi
  · intro h i t ht
    exact h t (List.mem_of_getElem? ht)
theorem way_symm : ∀ {t u : TdI}, (¬ (t.1 = u.1 ∧ sameW t.2 u.2 = true)) → ¬ (u.1 = t.1 ∧ sameW u.2 t.2 = true) := fun {t u} h k => h ⟨k.1.symm, by rw [sameW_comm]; exact k.2⟩
theorem InvR.ins {L : List TdI} (h : InvR L) {p : PfI} {x : PaI} (hok : TdOk (p, x)) (hw : wayI L p x = 0) : InvR (insI L (p, x)) := by
  have hw := wayI_zero.1 hw
  have hn : (p, x) ∉ L := fun hm => by
    have := hw _ hm
    rw [(isW_pair (t := (p, x))).2 ⟨rfl, sameW_refl x⟩] at this
    cases this
  refine ⟨fun t ht => ?_, insI_srt h.ok hok h.srt hn, ?_⟩
  · rcases (insI_mem L (p, x) t).1 ht with e | e
    · subst e; exact hok
    · exact h.ok t e
  · rw [(insI_perm L (p, x)).pairwise_iff (fun {a b} k => way_symm k), List.pairwise_cons]
    refine ⟨fun u hu k => ?_, h.way⟩
    have := hw u hu
    rw [isW_pair.2 ⟨k.1.symm, by rw [sameW_comm]; exact k.2⟩] at this
    cases this
theorem wayI_at {L : List TdI} {p : PfI} {x : PaI} {i : Nat} (h : wayI L p x = i + 1) : ∃ t, L[i]? = some t ∧ isW p x t = true := (fndI_succ.1 h).1
theorem erase_way {L : List TdI} (h : L.Pairwise fun t u => ¬ (t.1 = u.1 ∧ sameW t.2 u.2 = true)) {p : PfI} {x : PaI} (hw : ¬ wayI L p x = 0) : wayI (L.eraseIdx (wayI L p x - 1)) p x = 0 := by
  obtain ⟨i, hi⟩ : ∃ i, wayI L p x = i + 1 := ⟨wayI L p x - 1, by omega⟩
  rw [hi, Nat.add_sub_cancel]
  obtain ⟨t, ht, hwt⟩ := wayI_at hi
  obtain ⟨h1, h2⟩ := isW_pair.1 hwt
  have hil := (List.getElem?_eq_some_iff.1 ht).1
  rw [wayI_zero]
  intro u hu
  rw [Bool.eq_false_iff]
  intro hwu
  obtain ⟨k1, k2⟩ := isW_pair.1 hwu
  have hsame : sameW t.2 u.2 = true := by
    unfold sameW at h2 k2 ⊢
    simp only [Bool.and_eq_true, decide_eq_true_eq] at h2 k2 ⊢
    exact ⟨h2.1.trans k2.1.symm, h2.2.1.trans k2.2.1.symm, h2.2.2.1.trans k2.2.2.1.symm, h2.2.2.2.trans k2.2.2.2.symm⟩
  obtain ⟨j, hj⟩ := List.mem_iff_getElem?.1 hu
  rw [List.getElem?_eraseIdx] at hj
  rw [List.pairwise_iff_getElem] at h
  split at hj
  · rename_i hji
    obtain ⟨hjl, e⟩ := List.getElem?_eq_some_iff.1 hj
    have := h j i hjl hil hji
    obtain ⟨_, e2⟩ := List.getElem?_eq_some_iff.1 ht
    rw [e, e2] at this
    exact this ⟨k1.trans h1.symm, by rw [sameW_comm]; exact hsame⟩
  · rename_i hji
    obtain ⟨hjl, e⟩ := List.getElem?_eq_some_iff.1 hj
    have := h i (j + 1) hil hjl (by omega)
    obtain ⟨_, e2⟩ := List.getElem?_eq_some_iff.1 ht
    rw [e, e2] at this
    exact this ⟨h1.trans k1.symm, hsame⟩
theorem InvR.put {L : List TdI} (h : InvR L) (p : PfI) (x : PaI) (n1 : N64 p.1.2.1 ∧ N64 p.1.2.2) (n2 : N64 x.2.2.1.2.1 ∧ N64 x.2.2.1.2.2) : InvR (putR L p x).1 := by
  unfold putR
  split
  · exact h
  · rename_i hr
    have hok : TdOk (p, x) := TdOk.of (by simpa using hr) n1 n2
    split
    · rename_i hw
      exact (h.sub (List.eraseIdx_sublist _ _)).ins hok (erase_way h.way hw)
    · rename_i hw
      split
      · exact h
      · exact h.ins hok (by simpa using hw)
theorem InvR.drop {L : List TdI} (h : InvR L) (p : PfI) (x : PaI) : InvR (dropR L p x).1 := by
  unfold dropR
  split
  · exact h
  · exact h.sub (List.eraseIdx_sublist _ _)
theorem InvR.flush {L : List TdI} (h : InvR L) (pr : Int) : InvR (flushR L pr).1 := h.sub List.filter_sublist
theorem insI_len (L : List TdI) (t : TdI) : (insI L t).length = L.length + 1 := by
  rw [(insI_perm L t).length_eq, List.length_cons]
theorem putR_len (L : List TdI) (p : PfI) (x : PaI) : (putR L p x).1.length ≤ L.length + 1 := by
  unfold putR
  split
  · exact Nat.le_succ _
  · split
    · rename_i hw
      have h1 : wayI L p x ≤ L.length := fndI_le _ _
      rw [insI_len, List.length_eraseIdx, if_pos (by omega)]
      omega
    · split
      · exact Nat.le_succ _
      · exact Nat.le_of_eq (insI_len _ _)
theorem dropR_len (L : List TdI) (p : PfI) (x : PaI) : (dropR L p x).1.length ≤ L.length := by
  unfold dropR
  split
  · exact Nat.le_refl _
  · exact (List.eraseIdx_sublist _ _).length_le
theorem flushR_len (L : List TdI) (pr : Int) : (flushR L pr).1.length ≤ L.length := List.length_filter_le _ _
/-! the prefixes -/
theorem prefK_at {L : List TdI} {k : Nat} {t : TdI} (h : L[k]? = some t) : prefK L (k + 1) = if newP? L k = true then prefK L k ++ [t.1] else prefK L k := by
  rw [prefK, h]
theorem newP_zero {L : List TdI} {t : TdI} (h : L[0]? = some t) : newP? L 0 = true := by
  unfold newP?; rw [h]
theorem newP_succ {L : List TdI} {k : Nat} {t u : TdI} (h : L[k + 1]? = some t) (hu : L[k]? = some u) : newP? L (k + 1) = !decide (u.1 = t.1) := by
  unfold newP?
  rw [h]
  simp only
  rw [hu]
  simp
theorem prefK_le (L : List TdI) : ∀ k, (prefK L k).length ≤ k
  | 0 => Nat.le_refl _
  | k + 1 => by
    have ih := prefK_le L k
    unfold prefK
    split
    · omega
    · split
      · simp; omega
      · omega
def ltP (p q : PfI) : Prop := lexP (keyP p) (keyP q)
theorem ltT_le {t u : TdI} (h : ltT t u) : ltP t.1 u.1 ∨ t.1 = u.1 := by
  unfold ltT keyT at h
  rw [lexP_app (a := keyP t.1) (b := keyP u.1) rfl] at h
  rcases h with h | ⟨h, -⟩
  · exact .inl h
  · exact .inr (keyP_inj h)
/-- The prefixes of the first k: which they are; they rise; the last one is the last told. -/
theorem prefK_spec {L : List TdI} (hs : L.Pairwise ltT) : ∀ k, k ≤ L.length → (∀ p, p ∈ prefK L k ↔ ∃ t ∈ L.take k, t.1 = p) ∧ (prefK L k).Pairwise ltP
  | 0, _ => ⟨fun p => by simp [prefK], .nil⟩
  | k + 1, hk => by
    obtain ⟨ih1, ih2⟩ := prefK_spec hs k (by omega)
    obtain ⟨t, ht⟩ : ∃ t, L[k]? = some t := ⟨_, List.getElem?_eq_getElem (by omega)⟩
    have htk : L.take (k + 1) = L.take k ++ [t] := by rw [List.take_add_one, ht]; rfl
    have hlt : ∀ u ∈ L.take k, ltT u t := by
      intro u hu
      have h2 := hs.sublist (List.take_sublist (k + 1) L)
      rw [htk, List.pairwise_append] at h2
      exact h2.2.2 u hu t (by simp)
    rw [prefK_at ht]
    by_cases hn : newP? L k = true
    · rw [if_pos hn]
      have hnew : ∀ u ∈ L.take k, ltP u.1 t.1 := by
        intro u hu
        rcases ltT_le (hlt u hu) with h | h
        · exact h
        · exfalso
          cases k with
          | zero => simp at hu
          | succ j =>
            obtain ⟨v, hv⟩ : ∃ v, L[j]? = some v := ⟨_, List.getElem?_eq_getElem (by omega)⟩
            rw [newP_succ ht hv] at hn
            have hvt : ¬ v.1 = t.1 := by simpa using hn
            have hvm : v ∈ L.take (j + 1) := List.mem_of_getElem? (i := j) (by rw [List.getElem?_take, if_pos (by omega)]; exact hv)
            have hlv : ltP v.1 t.1 := by
              rcases ltT_le (hlt v hvm) with h9 | h9
              · exact h9
              · exact absurd h9 hvt
            obtain ⟨i, hi⟩ := List.mem_iff_getElem?.1 hu
            rw [List.getElem?_take] at hi
            split at hi
            · rename_i hij
              rcases Nat.lt_or_ge i j with h9 | h9
              · have h8 := (List.pairwise_iff_getElem.1 hs) i j (by omega) (by omega) h9
                obtain ⟨_, e1⟩ := List.getElem?_eq_some_iff.1 hi
                obtain ⟨_, e2⟩ := List.getElem?_eq_some_iff.1 hv
                rw [e1, e2] at h8
                rcases ltT_le h8 with h7 | h7
                · rw [h] at h7
                  exact lexP.irrefl _ (lexP.trans h7 hlv)
                · exact hvt (h7.symm.trans h)
              · obtain rfl : i = j := by omega
                rw [hv] at hi
                injection hi with hi
                subst hi
                exact hvt h
            · cases hi
      refine ⟨fun p => ?_, ?_⟩
      · rw [List.mem_append, ih1, htk]
        constructor
        · rintro (⟨u, hu, e⟩ | h)
          · exact ⟨u, List.mem_append_left _ hu, e⟩
          · exact ⟨t, by simp, (List.mem_singleton.1 h).symm⟩
        · rintro ⟨u, hu, e⟩
          rcases List.mem_append.1 hu with h | h
          · exact .inl ⟨u, h, e⟩
          · have : u = t := by simpa using h
            subst this
            exact .inr (by simp [e])
      · rw [List.pairwise_append]
        refine ⟨ih2, List.pairwise_singleton _ _, fun a ha b hb => ?_⟩
        obtain ⟨u, hu, e⟩ := (ih1 a).1 ha
        have : b = t.1 := by simpa using hb
        rw [this, ← e]
        exact hnew u hu
    · rw [if_neg hn]
      refine ⟨fun p => ?_, ih2⟩
      rw [ih1, htk]
      constructor
      · rintro ⟨u, hu, e⟩
        exact ⟨u, List.mem_append_left _ hu, e⟩
      · rintro ⟨u, hu, e⟩
        rcases List.mem_append.1 hu with h | h
        · exact ⟨u, h, e⟩
        · have hut : u = t := by simpa using h
          subst hut
          cases k with
          | zero => exact absurd (newP_zero ht) hn
          | succ j =>
            obtain ⟨v, hv⟩ : ∃ v, L[j]? = some v := ⟨_, List.getElem?_eq_getElem (by omega)⟩
            rw [newP_succ ht hv] at hn
            have hvt : v.1 = u.1 := by simpa using hn
            exact ⟨v, List.mem_of_getElem? (i := j) (by rw [List.getElem?_take, if_pos (by omega)]; exact hv), hvt.trans e⟩
theorem prefsI_mem {L : List TdI} (h : InvR L) {p : PfI} : p ∈ prefsI L ↔ ∃ t ∈ L, t.1 = p := by
  have := (prefK_spec h.srt L.length (Nat.le_refl _)).1 p
  rwa [List.take_length] at this
theorem prefsI_srt {L : List TdI} (h : InvR L) : (prefsI L).Pairwise ltP := (prefK_spec h.srt L.length (Nat.le_refl _)).2
theorem ltP_irr (p : PfI) : ¬ ltP p p := lexP.irrefl _
theorem ltP_trans {p q r : PfI} (h : ltP p q) (k : ltP q r) : ltP p r := lexP.trans h k
theorem srtP_ext : ∀ {L M : List PfI}, L.Pairwise ltP → M.Pairwise ltP → (∀ t, t ∈ L ↔ t ∈ M) → L = M
  | [], [], _, _, _ => rfl
  | [], y :: s, _, _, h => by have := (h y).2 (by simp); cases this
  | x :: r, [], _, _, h => by have := (h x).1 (by simp); cases this
  | x :: r, y :: s, hL, hM, h => by
    rw [List.pairwise_cons] at hL hM
    have hxy : x = y := by
      rcases List.mem_cons.1 ((h x).1 (by simp)) with e | e
      · exact e
      · rcases List.mem_cons.1 ((h y).2 (by simp)) with e2 | e2
        · exact e2.symm
        · exact absurd (ltP_trans (hL.1 y e2) (hM.1 x e)) (ltP_irr x)
    subst hxy
    congr 1
    refine srtP_ext hL.2 hM.2 fun t => ⟨fun ht => ?_, fun ht => ?_⟩
    · rcases List.mem_cons.1 ((h t).1 (List.mem_cons_of_mem _ ht)) with e | e
      · subst e; exact absurd (hL.1 t ht) (ltP_irr t)
      · exact e
    · rcases List.mem_cons.1 ((h t).2 (List.mem_cons_of_mem _ ht)) with e | e
      · subst e; exact absurd (hM.1 t ht) (ltP_irr t)
      · exact e
theorem prefsI_nodup {L : List TdI} (h : InvR L) : (prefsI L).Nodup := (prefsI_srt h).imp fun {a b} hab e => by subst e; exact ltP_irr a hab
theorem prefs_ins {L : List TdI} (h : InvR L) {p : PfI} {x : PaI} (h2 : InvR (insI L (p, x))) : (p ∈ prefsI L → prefsI (insI L (p, x)) = prefsI L) ∧ (p ∉ prefsI L → (prefsI (insI L (p, x))).Perm (p :: prefsI L)) := by
  have hm : ∀ q, q ∈ prefsI (insI L (p, x)) ↔ q = p ∨ q ∈ prefsI L := by
    intro q
    rw [prefsI_mem h2, prefsI_mem h]
    constructor
    · rintro ⟨t, ht, e⟩
      rcases (insI_mem _ _ _).1 ht with k | k
      · subst k; exact .inl e.symm
      · exact .inr ⟨t, k, e⟩
    · rintro (e | ⟨t, ht, e⟩)
      · exact ⟨(p, x), (insI_mem _ _ _).2 (.inl rfl), e.symm⟩
      · exact ⟨t, (insI_mem _ _ _).2 (.inr ht), e⟩
  refine ⟨fun hp => srtP_ext (prefsI_srt h2) (prefsI_srt h) fun q => ?_, fun hp => ?_⟩
  · rw [hm]
    exact ⟨fun k => by rcases k with k | k; (subst k; exact hp); exact k, .inr⟩
  · rw [List.perm_ext_iff_of_nodup (prefsI_nodup h2) (List.nodup_cons.2 ⟨hp, prefsI_nodup h⟩)]
    intro q
    rw [hm, List.mem_cons]
theorem paths_perm {L M : List TdI} (h : L.Perm M) (p : PfI) : (pathsI L p).Perm (pathsI M p) := (h.filter _).map _
theorem pathsI_mem {L : List TdI} {p : PfI} {x : PaI} : x ∈ pathsI L p ↔ (p, x) ∈ L := by
  unfold pathsI
  rw [List.mem_map]
  constructor
  · rintro ⟨t, ht, e⟩
    rw [List.mem_filter, decide_eq_true_eq] at ht
    obtain ⟨t1, t2⟩ := t
    simp only at ht e
    rw [← ht.2, ← e]
    exact ht.1
  · intro h
    exact ⟨(p, x), List.mem_filter.2 ⟨h, by simp⟩, rfl⟩
theorem paths_nil {L : List TdI} (h : InvR L) {p : PfI} : (pathsI L p).length = 0 ↔ p ∉ prefsI L := by
  rw [List.length_eq_zero_iff, prefsI_mem h]
  constructor
  · rintro e ⟨t, ht, e2⟩
    have : t.2 ∈ pathsI L p := pathsI_mem.2 (by rw [← e2]; exact ht)
    rw [e] at this
    cases this
  · intro hn
    apply List.eq_nil_iff_forall_not_mem.2
    intro x hx
    exact hn ⟨(p, x), pathsI_mem.1 hx, rfl⟩
end Go.Proofs.YtjlmgkdieffjcaaDoor
