/-
  Several texts in one: RbP, RbQ, IfN, Ig, RvN, Tk.
-/
import Derived.Test.YtgfkmgbcajdcdaaGreatDoorZac
import Derived.Test.YtgfkmgbcajdcdaaGreatDoorZab
import Derived.Test.YtgfkmgbcajdcdaaGreatDoorZaa
set_option linter.unusedVariables false
set_option maxRecDepth 100000
set_option maxHeartbeats 16000000
namespace Go.Proofs.YtgfkmgbcajdcdaaGreatDoor

theorem InvR.sub {L M : List TdI} (h : InvR L) (hs : M.Sublist L) : InvR M := ⟨fun t ht => h.ok t (hs.subset ht), h.srt.sublist hs, h.way.sublist hs⟩
theorem insI_perm (L : List TdI) (t : TdI) : (insI L t).Perm (t :: L) := by
 unfold insI
 have h := List.perm_middle (a := t) (l₁ := L.take (posI L t)) (l₂ := L.drop (posI L t))
 rwa [List.take_append_drop] at h
theorem isW_pair {p : PfI} {x : PaI} {t : TdI} : isW p x t = true ↔ (t.1 = p ∧ sameW t.2 x = true) := by
 unfold isW
 rw [Bool.and_eq_true, decide_eq_true_eq, sameW_comm]
theorem wayI_zero {L : List TdI} {p : PfI} {x : PaI} : wayI L p x = 0 ↔ ∀ t ∈ L, isW p x t = false := by
 unfold wayI
 rw [fndI_zero]
 constructor
 ·intro h t ht
  obtain ⟨i, hi⟩ := List.mem_iff_getElem?.1 ht
  exact h i t hi
 ·intro h i t ht
  exact h t (List.mem_of_getElem? ht)
theorem way_symm : ∀ {t u : TdI}, (¬ (t.1 = u.1 ∧ sameW t.2 u.2 = true)) → ¬ (u.1 = t.1 ∧ sameW u.2 t.2 = true) := fun {t u} h k => h ⟨k.1.symm, by rw [sameW_comm]; exact k.2⟩
theorem InvR.ins {L : List TdI} (h : InvR L) {p : PfI} {x : PaI} (hok : TdOk (p, x)) (hw : wayI L p x = 0) : InvR (insI L (p, x)) := by
 have hw := wayI_zero.1 hw
 have hn : (p, x) ∉ L := fun hm => by
  have := hw _ hm
  rw [(isW_pair (t := (p, x))).2 ⟨rfl, sameW_refl x⟩] at this
  cases this
 refine ⟨fun t ht => ?_, insI_srt h.ok hok h.srt hn, ?_⟩
 ·rcases (insI_mem L (p, x) t).1 ht with e | e
  ·subst e; exact hok
  ·exact h.ok t e
 ·rw [(insI_perm L (p, x)).pairwise_iff (fun {a b} k => way_symm k), List.pairwise_cons]
  refine ⟨fun u hu k => ?_, h.way⟩
  have := hw u hu
  rw [isW_pair.2 ⟨k.1.symm, by rw [sameW_comm]; exact k.2⟩] at this
  cases this
theorem wayI_at {L : List TdI} {p : PfI} {x : PaI} {i : Nat} (h : wayI L p x = i + 1) : ∃ t, L[i]? = some t ∧ isW p x t = true := (fndI_succ.1 h).1
theorem erase_way {L : List TdI} (h : L.Pairwise fun t u => ¬ (t.1 = u.1 ∧ sameW t.2 u.2 = true)) {p : PfI} {x : PaI} (hw : ¬ wayI L p x = 0) : wayI (L.eraseIdx (wayI L p x - 1)) p x = 0 := by
 obtain ⟨i, hi⟩ : ∃ i, wayI L p x = i + 1 := ⟨wayI L p x - 1, by omega⟩
 rw [hi, Nat.add_sub_cancel]
 obtain ⟨t, ht, hwt⟩ := wayI_at hi
 obtain ⟨h1, h2⟩ := isW_pair.1 hwt
 have hil := (List.getElem?_eq_some_iff.1 ht).1
 rw [wayI_zero]
 intro u hu
 rw [Bool.eq_false_iff]
 intro hwu
 obtain ⟨k1, k2⟩ := isW_pair.1 hwu
 have hsame : sameW t.2 u.2 = true := by
  unfold sameW at h2 k2 ⊢
  simp only [Bool.and_eq_true, decide_eq_true_eq] at h2 k2 ⊢
  exact ⟨h2.1.trans k2.1.symm, h2.2.1.trans k2.2.1.symm, h2.2.2.1.trans k2.2.2.1.symm, h2.2.2.2.trans k2.2.2.2.symm⟩
 obtain ⟨j, hj⟩ := List.mem_iff_getElem?.1 hu
 rw [List.getElem?_eraseIdx] at hj
 rw [List.pairwise_iff_getElem] at h
 split at hj
 ·rename_i hji
  obtain ⟨hjl, e⟩ := List.getElem?_eq_some_iff.1 hj
  have := h j i hjl hil hji
  obtain ⟨_, e2⟩ := List.getElem?_eq_some_iff.1 ht
  rw [e, e2] at this
  exact this ⟨k1.trans h1.symm, by rw [sameW_comm]; exact hsame⟩
 ·rename_i hji
  obtain ⟨hjl, e⟩ := List.getElem?_eq_some_iff.1 hj
  have := h i (j + 1) hil hjl (by omega)
  obtain ⟨_, e2⟩ := List.getElem?_eq_some_iff.1 ht
  rw [e, e2] at this
  exact this ⟨h1.trans k1.symm, hsame⟩
theorem InvR.put {L : List TdI} (h : InvR L) (p : PfI) (x : PaI) (n1 : N64 p.1.2.1 ∧ N64 p.1.2.2) (n2 : N64 x.2.2.1.2.1 ∧ N64 x.2.2.1.2.2) : InvR (putR L p x).1 := by
 unfold putR
 split
 ·exact h
 ·rename_i hr
  have hok : TdOk (p, x) := TdOk.of (by simpa using hr) n1 n2
  split
  ·rename_i hw
   exact (h.sub (List.eraseIdx_sublist _ _)).ins hok (erase_way h.way hw)
  ·rename_i hw
   split
   ·exact h
   ·exact h.ins hok (by simpa using hw)
theorem InvR.drop {L : List TdI} (h : InvR L) (p : PfI) (x : PaI) : InvR (dropR L p x).1 := by
 unfold dropR
 split
 ·exact h
 ·exact h.sub (List.eraseIdx_sublist _ _)
theorem InvR.flush {L : List TdI} (h : InvR L) (pr : Int) : InvR (flushR L pr).1 := h.sub List.filter_sublist
theorem insI_len (L : List TdI) (t : TdI) : (insI L t).length = L.length + 1 := by
 rw [(insI_perm L t).length_eq, List.length_cons]
theorem prefK_at {L : List TdI} {k : Nat} {t : TdI} (h : L[k]? = some t) : prefK L (k + 1) = if newP? L k = true then prefK L k ++ [t.1] else prefK L k := by
 rw [prefK, h]
theorem newP_zero {L : List TdI} {t : TdI} (h : L[0]? = some t) : newP? L 0 = true := by
 unfold newP?; rw [h]
theorem newP_succ {L : List TdI} {k : Nat} {t u : TdI} (h : L[k + 1]? = some t) (hu : L[k]? = some u) : newP? L (k + 1) = !decide (u.1 = t.1) := by
 unfold newP?
 rw [h]
 simp only
 rw [hu]
 simp
theorem prefK_le (L : List TdI) : ∀ k, (prefK L k).length ≤ k
 | 0 => Nat.le_refl _
 | k + 1 => by
  have ih := prefK_le L k
  unfold prefK
  split
  ·omega
  ·split
   ·simp; omega
   ·omega
def ltP (p q : PfI) : Prop := lexP (keyP p) (keyP q)
theorem ltT_le {t u : TdI} (h : ltT t u) : ltP t.1 u.1 ∨ t.1 = u.1 := by
 unfold ltT keyT at h
 rw [lexP_app (a := keyP t.1) (b := keyP u.1) rfl] at h
 rcases h with h | ⟨h, -⟩
 ·exact .inl h
 ·exact .inr (keyP_inj h)
theorem prefK_spec {L : List TdI} (hs : L.Pairwise ltT) : ∀ k, k ≤ L.length → (∀ p, p ∈ prefK L k ↔ ∃ t ∈ L.take k, t.1 = p) ∧ (prefK L k).Pairwise ltP
 | 0, _ => ⟨fun p => by simp [prefK], .nil⟩
 | k + 1, hk => by
  obtain ⟨ih1, ih2⟩ := prefK_spec hs k (by omega)
  obtain ⟨t, ht⟩ : ∃ t, L[k]? = some t := ⟨_, List.getElem?_eq_getElem (by omega)⟩
  have htk : L.take (k + 1) = L.take k ++ [t] := by rw [List.take_add_one, ht]; rfl
  have hlt : ∀ u ∈ L.take k, ltT u t := by
   intro u hu
   have h2 := hs.sublist (List.take_sublist (k + 1) L)
   rw [htk, List.pairwise_append] at h2
   exact h2.2.2 u hu t (by simp)
  rw [prefK_at ht]
  by_cases hn : newP? L k = true
  ·rw [if_pos hn]
   have hnew : ∀ u ∈ L.take k, ltP u.1 t.1 := by
    intro u hu
    rcases ltT_le (hlt u hu) with h | h
    ·exact h
    ·exfalso
     cases k with
     | zero => simp at hu
     | succ j =>
      obtain ⟨v, hv⟩ : ∃ v, L[j]? = some v := ⟨_, List.getElem?_eq_getElem (by omega)⟩
      rw [newP_succ ht hv] at hn
      have hvt : ¬ v.1 = t.1 := by simpa using hn
      have hvm : v ∈ L.take (j + 1) := List.mem_of_getElem? (i := j) (by rw [List.getElem?_take, if_pos (by omega)]; exact hv)
      have hlv : ltP v.1 t.1 := by
       rcases ltT_le (hlt v hvm) with h9 | h9
       ·exact h9
       ·exact absurd h9 hvt
      obtain ⟨i, hi⟩ := List.mem_iff_getElem?.1 hu
      rw [List.getElem?_take] at hi
      split at hi
      ·rename_i hij
       rcases Nat.lt_or_ge i j with h9 | h9
       ·have h8 := (List.pairwise_iff_getElem.1 hs) i j (by omega) (by omega) h9
        obtain ⟨_, e1⟩ := List.getElem?_eq_some_iff.1 hi
        obtain ⟨_, e2⟩ := List.getElem?_eq_some_iff.1 hv
        rw [e1, e2] at h8
        rcases ltT_le h8 with h7 | h7
        ·rw [h] at h7
         exact lexP.irrefl _ (lexP.trans h7 hlv)
        ·exact hvt (h7.symm.trans h)
       ·obtain rfl : i = j := by omega
        rw [hv] at hi
        injection hi with hi
        subst hi
        exact hvt h
      ·cases hi
   refine ⟨fun p => ?_, ?_⟩
   ·rw [List.mem_append, ih1, htk]
    constructor
    ·rintro (⟨u, hu, e⟩ | h)
     ·exact ⟨u, List.mem_append_left _ hu, e⟩
     ·exact ⟨t, by simp, (List.mem_singleton.1 h).symm⟩
    ·rintro ⟨u, hu, e⟩
     rcases List.mem_append.1 hu with h | h
     ·exact .inl ⟨u, h, e⟩
     ·have : u = t := by simpa using h
      subst this
      exact .inr (by simp [e])
   ·rw [List.pairwise_append]
    refine ⟨ih2, List.pairwise_singleton _ _, fun a ha b hb => ?_⟩
    obtain ⟨u, hu, e⟩ := (ih1 a).1 ha
    have : b = t.1 := by simpa using hb
    rw [this, ← e]
    exact hnew u hu
  ·rw [if_neg hn]
   refine ⟨fun p => ?_, ih2⟩
   rw [ih1, htk]
   constructor
   ·rintro ⟨u, hu, e⟩
    exact ⟨u, List.mem_append_left _ hu, e⟩
   ·rintro ⟨u, hu, e⟩
    rcases List.mem_append.1 hu with h | h
    ·exact ⟨u, h, e⟩
    ·have hut : u = t := by simpa using h
     subst hut
     cases k with
     | zero => exact absurd (newP_zero ht) hn
     | succ j =>
      obtain ⟨v, hv⟩ : ∃ v, L[j]? = some v := ⟨_, List.getElem?_eq_getElem (by omega)⟩
      rw [newP_succ ht hv] at hn
      have hvt : v.1 = u.1 := by simpa using hn
      exact ⟨v, List.mem_of_getElem? (i := j) (by rw [List.getElem?_take, if_pos (by omega)]; exact hv), hvt.trans e⟩
theorem prefsI_mem {L : List TdI} (h : InvR L) {p : PfI} : p ∈ prefsI L ↔ ∃ t ∈ L, t.1 = p := by
 have := (prefK_spec h.srt L.length (Nat.le_refl _)).1 p
 rwa [List.take_length] at this
theorem prefsI_srt {L : List TdI} (h : InvR L) : (prefsI L).Pairwise ltP := (prefK_spec h.srt L.length (Nat.le_refl _)).2
theorem ltP_irr (p : PfI) : ¬ ltP p p := lexP.irrefl _
theorem ltP_trans {p q r : PfI} (h : ltP p q) (k : ltP q r) : ltP p r := lexP.trans h k
theorem srtP_ext : ∀ {L M : List PfI}, L.Pairwise ltP → M.Pairwise ltP → (∀ t, t ∈ L ↔ t ∈ M) → L = M
 | [], [], _, _, _ => rfl
 | [], y :: s, _, _, h => by have := (h y).2 (by simp); cases this
 | x :: r, [], _, _, h => by have := (h x).1 (by simp); cases this
 | x :: r, y :: s, hL, hM, h => by
  rw [List.pairwise_cons] at hL hM
  have hxy : x = y := by
   rcases List.mem_cons.1 ((h x).1 (by simp)) with e | e
   ·exact e
   ·rcases List.mem_cons.1 ((h y).2 (by simp)) with e2 | e2
    ·exact e2.symm
    ·exact absurd (ltP_trans (hL.1 y e2) (hM.1 x e)) (ltP_irr x)
  subst hxy
  congr 1
  refine srtP_ext hL.2 hM.2 fun t => ⟨fun ht => ?_, fun ht => ?_⟩
  ·rcases List.mem_cons.1 ((h t).1 (List.mem_cons_of_mem _ ht)) with e | e
   ·subst e; exact absurd (hL.1 t ht) (ltP_irr t)
   ·exact e
  ·rcases List.mem_cons.1 ((h t).2 (List.mem_cons_of_mem _ ht)) with e | e
   ·subst e; exact absurd (hM.1 t ht) (ltP_irr t)
   ·exact e
theorem prefsI_nodup {L : List TdI} (h : InvR L) : (prefsI L).Nodup := (prefsI_srt h).imp fun {a b} hab e => by subst e; exact ltP_irr a hab
theorem prefs_ins {L : List TdI} (h : InvR L) {p : PfI} {x : PaI} (h2 : InvR (insI L (p, x))) : (p ∈ prefsI L → prefsI (insI L (p, x)) = prefsI L) ∧ (p ∉ prefsI L → (prefsI (insI L (p, x))).Perm (p :: prefsI L)) := by
 have hm : ∀ q, q ∈ prefsI (insI L (p, x)) ↔ q = p ∨ q ∈ prefsI L := by
  intro q
  rw [prefsI_mem h2, prefsI_mem h]
  constructor
  ·rintro ⟨t, ht, e⟩
   rcases (insI_mem _ _ _).1 ht with k | k
   ·subst k; exact .inl e.symm
   ·exact .inr ⟨t, k, e⟩
  ·rintro (e | ⟨t, ht, e⟩)
   ·exact ⟨(p, x), (insI_mem _ _ _).2 (.inl rfl), e.symm⟩
   ·exact ⟨t, (insI_mem _ _ _).2 (.inr ht), e⟩
 refine ⟨fun hp => srtP_ext (prefsI_srt h2) (prefsI_srt h) fun q => ?_, fun hp => ?_⟩
 ·rw [hm]
  exact ⟨fun k => by rcases k with k | k; (subst k; exact hp); exact k, .inr⟩
 ·rw [List.perm_ext_iff_of_nodup (prefsI_nodup h2) (List.nodup_cons.2 ⟨hp, prefsI_nodup h⟩)]
  intro q
  rw [hm, List.mem_cons]
theorem paths_perm {L M : List TdI} (h : L.Perm M) (p : PfI) : (pathsI L p).Perm (pathsI M p) := (h.filter _).map _
theorem pathsI_mem {L : List TdI} {p : PfI} {x : PaI} : x ∈ pathsI L p ↔ (p, x) ∈ L := by
 unfold pathsI
 rw [List.mem_map]
 constructor
 ·rintro ⟨t, ht, e⟩
  rw [List.mem_filter, decide_eq_true_eq] at ht
  obtain ⟨t1, t2⟩ := t
  simp only at ht e
  rw [← ht.2, ← e]
  exact ht.1
 ·intro h
  exact ⟨(p, x), List.mem_filter.2 ⟨h, by simp⟩, rfl⟩
theorem paths_nil {L : List TdI} (h : InvR L) {p : PfI} : (pathsI L p).length = 0 ↔ p ∉ prefsI L := by
 rw [List.length_eq_zero_iff, prefsI_mem h]
 constructor
 ·rintro e ⟨t, ht, e2⟩
  have : t.2 ∈ pathsI L p := pathsI_mem.2 (by rw [← e2]; exact ht)
  rw [e] at this
  cases this
 ·intro hn
  apply List.eq_nil_iff_forall_not_mem.2
  intro x hx
  exact hn ⟨(p, x), pathsI_mem.1 hx, rfl⟩
end Go.Proofs.YtgfkmgbcajdcdaaGreatDoor

namespace Go.Proofs.YtgfkmgbcajdcdaaGreatDoor

theorem paths_cons (t : TdI) (L : List TdI) (p : PfI) : (pathsI (t :: L) p).length = (if t.1 = p then 1 else 0) + (pathsI L p).length := by
 unfold pathsI
 rw [List.filter_cons]
 by_cases h : t.1 = p
 ·simp [h]; omega
 ·simp [h]
theorem paths_ins (L : List TdI) (t : TdI) (p : PfI) : (pathsI (insI L t) p).length = (if t.1 = p then 1 else 0) + (pathsI L p).length := by
 rw [(paths_perm (insI_perm L t) p).length_eq, paths_cons]
theorem erase_perm {α : Type} : ∀ {L : List α} {i : Nat} {t : α}, L[i]? = some t → L.Perm (t :: L.eraseIdx i)
 | [], i, t, h => by simp at h
 | x :: r, 0, t, h => by simp at h; subst h; exact List.Perm.refl _
 | x :: r, i + 1, t, h => by
  have := erase_perm (L := r) (i := i) (by simpa using h)
  exact (this.cons x).trans (List.Perm.swap t x _)
theorem prefs_mem_erase {L : List TdI} (h : InvR L) {i : Nat} {t : TdI} (ht : L[i]? = some t) (q : PfI) : q ∈ prefsI L ↔ q = t.1 ∨ q ∈ prefsI (L.eraseIdx i) := by
 rw [prefsI_mem h, prefsI_mem (h.sub (List.eraseIdx_sublist _ _))]
 have hp := erase_perm ht
 constructor
 ·rintro ⟨u, hu, e⟩
  rcases List.mem_cons.1 (hp.subset hu) with k | k
  ·subst k; exact .inl e.symm
  ·exact .inr ⟨u, k, e⟩
 ·rintro (e | ⟨u, hu, e⟩)
  ·exact ⟨t, List.mem_of_getElem? ht, e.symm⟩
  ·exact ⟨u, List.mem_of_mem_eraseIdx hu, e⟩
structure InvB (L : List TdI) : Prop where
 inv : InvR L
 four : ∀ p, (pathsI L p).length ≤ 4
 ninety : (prefsI L).length ≤ 90
theorem InvB.nil : InvB [] := ⟨InvR.nil, fun p => by simp [pathsI], by simp [prefsI, prefK]⟩
theorem prefs_sub {L M : List TdI} (h : InvR L) (hs : M.Sublist L) : (prefsI M).length ≤ (prefsI L).length := by
 have hM := h.sub hs
 have e : prefsI M = (prefsI L).filter (fun p => decide (p ∈ prefsI M)) := by
  refine srtP_ext (prefsI_srt hM) ((prefsI_srt h).sublist List.filter_sublist) fun q => ?_
  rw [List.mem_filter, decide_eq_true_eq]
  refine ⟨fun hq => ⟨?_, hq⟩, fun hq => hq.2⟩
  obtain ⟨t, ht, e⟩ := (prefsI_mem hM).1 hq
  exact (prefsI_mem h).2 ⟨t, hs.subset ht, e⟩
 rw [e]
 exact List.length_filter_le _ _
theorem paths_sub {L M : List TdI} (hs : M.Sublist L) (p : PfI) : (pathsI M p).length ≤ (pathsI L p).length := ((hs.filter _).map _).length_le
theorem InvB.sub {L M : List TdI} (h : InvB L) (hs : M.Sublist L) : InvB M := ⟨h.inv.sub hs, fun p => Nat.le_trans (paths_sub hs p) (h.four p), Nat.le_trans (prefs_sub h.inv hs) h.ninety⟩
theorem InvB.put {L : List TdI} (h : InvB L) (p : PfI) (x : PaI) (n1 : N64 p.1.2.1 ∧ N64 p.1.2.2) (n2 : N64 x.2.2.1.2.1 ∧ N64 x.2.2.1.2.2) : InvB (putR L p x).1 := by
 have hI := h.inv.put p x n1 n2
 unfold putR at hI ⊢
 split at hI
 ·rename_i h1; rw [if_pos h1]; exact h
 ·rename_i h1
  rw [if_neg h1]
  split at hI
  ·rename_i hw
   rw [if_pos hw]
   obtain ⟨i, hi⟩ : ∃ i, wayI L p x = i + 1 := ⟨wayI L p x - 1, by omega⟩
   rw [hi, Nat.add_sub_cancel] at hI ⊢
   obtain ⟨t, ht, hwt⟩ := wayI_at hi
   have htp := (isW_pair.1 hwt).1
   have hE := h.inv.sub (List.eraseIdx_sublist L i)
   refine ⟨hI, fun q => ?_, ?_⟩
   ·have e1 := (paths_perm (erase_perm ht) q).length_eq
    rw [paths_cons] at e1
    rw [paths_ins]
    have := h.four q
    rw [htp] at e1
    show (if p = q then 1 else 0) + _ ≤ 4
    omega
   ·have : prefsI (insI (L.eraseIdx i) (p, x)) = prefsI L := by
     refine srtP_ext (prefsI_srt hI) (prefsI_srt h.inv) fun q => ?_
     rw [prefs_mem_erase h.inv ht, prefsI_mem hI, prefsI_mem hE, htp]
     constructor
     ·rintro ⟨u, hu, e⟩
      rcases (insI_mem _ _ _).1 hu with k | k
      ·subst k; exact .inl e.symm
      ·exact .inr ⟨u, k, e⟩
     ·rintro (e | ⟨u, hu, e⟩)
      ·exact ⟨(p, x), (insI_mem _ _ _).2 (.inl rfl), e.symm⟩
      ·exact ⟨u, (insI_mem _ _ _).2 (.inr hu), e⟩
    rw [this]
    exact h.ninety
  ·rename_i hw
   rw [if_neg hw]
   split at hI
   ·rename_i hf; rw [if_pos hf]; exact h
   ·rename_i hf
    rw [if_neg hf]
    obtain ⟨a1, a2⟩ := prefs_ins h.inv hI
    refine ⟨hI, fun q => ?_, ?_⟩
    ·rw [paths_ins]
     have := h.four q
     by_cases e : p = q
     ·subst e; simp; omega
     ·simp [e]; omega
    ·by_cases hp : p ∈ prefsI L
     ·rw [a1 hp]; exact h.ninety
     ·have h8 := (a2 hp).length_eq
      rw [List.length_cons] at h8
      have h0 := (paths_nil h.inv).2 hp
      show (prefsI (insI L (p, x))).length ≤ 90
      omega
theorem InvB.drop {L : List TdI} (h : InvB L) (p : PfI) (x : PaI) : InvB (dropR L p x).1 := by
 unfold dropR
 split
 ·exact h
 ·exact h.sub (List.eraseIdx_sublist _ _)
theorem InvB.flush {L : List TdI} (h : InvB L) (pr : Int) : InvB (flushR L pr).1 := h.sub List.filter_sublist
/-! a rib is what stands in it -/
end Go.Proofs.YtgfkmgbcajdcdaaGreatDoor

namespace Go.Proofs.YtgfkmgbcajdcdaaGreatDoor.Ifs

abbrev AdI := Bool × Nat × Nat
abbrev Prt := ByteArray × Int × Int × Bool
abbrev Loc := AdI × Int
abbrev StI := List Prt × List (List Loc)
def nameOk (s : ByteArray) : Bool := decide (1 ≤ s.size ∧ s.size ≤ 8) && (s.data.toList.zipIdx.all fun x => (decide (97 ≤ x.1.toNat ∧ x.1.toNat ≤ 122)) || (decide (x.2 ≠ 0) && decide (48 ≤ x.1.toNat ∧ x.1.toNat ≤ 57)))
def macOk (m : Int) : Bool := decide (m ≠ 0 ∧ m < 281474976710656 ∧ m / 1099511627776 % 2 ≠ 1)
def mtuOk (m : Int) : Bool := decide (68 ≤ m ∧ m ≤ 1500)
def isA (a : AdI) (x : Loc) : Bool := decide (x.1 = a)
def mineI (L : List (List Loc)) (a : AdI) : Nat := fndI (fun l => l.any (isA a)) L
def namedI (P : List Prt) (n : ByteArray) : Nat := fndI (fun p => decide (p.1 = n)) P
def thereI (st : StI) (port : Int) : Bool := decide (1 ≤ port ∧ port ≤ (st.1.length : Int))
def idxI (port : Int) : Nat := (port - 1).toNat
def addI (st : StI) (n : ByteArray) (mac mtu : Int) : StI × Int × Int :=
 if nameOk n = false ∨ namedI st.1 n ≠ 0 then (st, 0, 130) else if (macOk mac && mtuOk mtu) = false then (st, 0, 1) else if 8 ≤ st.1.length then (st, 0, 131) else
 ((st.1 ++ [(n, mac, mtu, false)], st.2 ++ [[]]), ((st.1.length + 1 : Nat) : Int), 0)
def turnI (st : StI) (port : Int) (up : Bool) : StI × Int :=
 if thereI st port = false then (st, 132) else ((st.1.modify (idxI port) fun p => (p.1, p.2.1, p.2.2.1, up), st.2), 0)
def clsI (a : AdI) : Int := clsV a.1 (a.2.1 : Int) (a.2.2 : Int)
def mtuI (st : StI) (port : Int) : Int := ((st.1[idxI port]?).map fun p => p.2.2.1).getD 0
def locI (st : StI) (port : Int) : List Loc := (st.2[idxI port]?).getD []
def adOk (st : StI) (port : Int) (a : AdI) (bits : Int) : Bool :=
 (decide (clsI a = 2) || decide (clsI a = 5)) && decide (1 ≤ bits ∧ bits ≤ (wd a.1 : Int)) && decide (mineI st.2 a = 0) && !(a.1 && decide (mtuI st port < 1280))
def putI (st : StI) (port : Int) (a : AdI) (bits : Int) : StI × Int :=
 if thereI st port = false then (st, 132) else if adOk st port a bits = false then (st, 133) else if 8 ≤ (locI st port).length then (st, 131) else
 ((st.1, st.2.modify (idxI port) fun l => l ++ [(a, bits)]), 0)
def dropI (st : StI) (port : Int) (a : AdI) : StI × Int :=
 if thereI st port = false then (st, 132) else if (locI st port).any (isA a) = false then (st, 132) else ((st.1, st.2.modify (idxI port) fun l => l.filter fun x => !isA a x), 0)
def portI (st : StI) (port : Int) : Prt := if thereI st port = false then (⟨#[]⟩, 0, 0, false) else (st.1[idxI port]?).getD (⟨#[]⟩, 0, 0, false)
def localsI (st : StI) (port : Int) : List Loc := if thereI st port = false then [] else locI st port
def hldI (a : AdI) (x : Loc) : Bool := decide (x.2 ≤ comV x.1.1 x.1.2.1 x.1.2.2 a.1 a.2.1 a.2.2)
def nearT (a : AdI) (up : Bool) (port : Nat) (l : List Loc) (b : Nat × Int) : Nat → Nat × Int
 | 0 => b
 | n + 1 => match l[n]? with
  | none => nearT a up port l b n
  | some x => if up = true ∧ (nearT a up port l b n).2 < x.2 ∧ hldI a x = true then (port, x.2) else nearT a up port l b n
def nearQ (st : StI) (a : AdI) : Nat → Nat × Int
 | 0 => (0, 0)
 | n + 1 => match st.1[n]?, st.2[n]? with
  | some p, some l => nearT a p.2.2.2 (n + 1) l (nearQ st a n) l.length
  | _, _ => nearQ st a n
def nearI (st : StI) (a : AdI) : Nat := (nearQ st a st.1.length).1
structure InvI (st : StI) : Prop where
 len : st.1.length = st.2.length
 few : st.1.length ≤ 8
 names : (st.1.map (·.1)).Nodup
 loc : ∀ l ∈ st.2, l.length ≤ 8
 ad : ∀ (i : Nat) (p : Prt) (l : List Loc), st.1[i]? = some p → st.2[i]? = some l → ∀ x ∈ l, (clsI x.1 = 2 ∨ clsI x.1 = 5) ∧ (1 ≤ x.2 ∧ x.2 ≤ (wd x.1.1 : Int)) ∧ (x.1.1 = true → 1280 ≤ p.2.2.1)
 one : (st.2.flatten.map (·.1)).Nodup
 u64 : ∀ l ∈ st.2, ∀ x ∈ l, N64 x.1.2.1 ∧ N64 x.1.2.2
theorem InvI.nil : InvI ([], []) := ⟨rfl, by decide, by simp, by simp, by simp, by simp, by simp⟩
theorem mineI_zero {L : List (List Loc)} {a : AdI} : mineI L a = 0 ↔ a ∉ L.flatten.map (·.1) := by
 unfold mineI
 rw [fndI_zero]
 constructor
 ·intro h hm
  obtain ⟨x, hx, rfl⟩ := List.mem_map.1 hm
  obtain ⟨l, hl, hxl⟩ := List.mem_flatten.1 hx
  obtain ⟨i, hi⟩ := List.mem_iff_getElem?.1 hl
  have := h i l hi
  rw [List.any_eq_false] at this
  exact this x hxl (by simp [isA])
 ·intro h i l hl
  rw [List.any_eq_false]
  intro x hx hxa
  apply h
  simp [isA] at hxa
  exact List.mem_map.2 ⟨x, List.mem_flatten.2 ⟨l, List.mem_of_getElem? hl, hx⟩, hxa⟩
theorem InvI.add {st : StI} (h : InvI st) (n : ByteArray) (mac mtu : Int) : InvI (addI st n mac mtu).1 := by
 unfold addI
 split
 ·exact h
 ·rename_i h1
  split
  ·exact h
  ·split
   ·exact h
   ·rename_i h3
    have hn : namedI st.1 n = 0 := by
     rcases Nat.eq_zero_or_pos (namedI st.1 n) with h0 | h0
     ·exact h0
     ·exact absurd (.inr (by omega)) h1
    have hl := h.len
    refine ⟨by simp [h.len], by simp; omega, ?_, ?_, ?_, ?_, ?_⟩
    ·rw [List.map_append, List.nodup_append]
     refine ⟨h.names, by simp, fun a ha b hb => ?_⟩
     simp at hb
     subst hb
     intro e
     subst e
     obtain ⟨p, hp, hpe⟩ := List.mem_map.1 ha
     obtain ⟨i, hi⟩ := List.mem_iff_getElem?.1 hp
     have := (fndI_zero.1 hn) i p hi
     rw [decide_eq_false_iff_not] at this
     exact this hpe
    ·intro l hl
     rcases List.mem_append.1 hl with h4 | h4
     ·exact h.loc l h4
     ·simp at h4; subst h4; simp
    ·intro i p l hp hl' x hx
     rcases Nat.lt_or_ge i st.1.length with h4 | h4
     ·rw [List.getElem?_append_left h4] at hp
      rw [List.getElem?_append_left (by omega)] at hl'
      exact h.ad i p l hp hl' x hx
     ·rw [List.getElem?_append_right (by omega)] at hl'
      have : l = [] := by
       have := List.mem_of_getElem? hl'
       simpa using this
      subst this
      cases hx
    ·simpa using h.one
    ·intro l hl x hx
     rcases List.mem_append.1 hl with h4 | h4
     ·exact h.u64 l h4 x hx
     ·simp at h4; subst h4; cases hx
theorem modify_at {α : Type} {l : List α} {i j : Nat} {f : α → α} {y : α} (h : (l.modify i f)[j]? = some y) : ∃ x, l[j]? = some x ∧ y = if i = j then f x else x := by
 rw [List.getElem?_modify] at h
 obtain ⟨x, hx, e⟩ := Option.map_eq_some_iff.1 h
 exact ⟨x, hx, by split at e <;> simp_all⟩
theorem InvI.turn {st : StI} (h : InvI st) (port : Int) (up : Bool) : InvI (turnI st port up).1 := by
 unfold turnI
 split
 ·exact h
 ·refine ⟨by simpa using h.len, by simpa using h.few, ?_, h.loc, fun i p l hp hl x hx => ?_, h.one, h.u64⟩
  ·have e : (st.1.modify (idxI port) fun p => (p.1, p.2.1, p.2.2.1, up)).map (·.1) = st.1.map (·.1) := by
    apply List.ext_getElem?
    intro j
    rw [List.getElem?_map, List.getElem?_map, List.getElem?_modify]
    cases st.1[j]? with
    | none => rfl
    | some q => simp; split <;> rfl
   show ((st.1.modify (idxI port) fun p => (p.1, p.2.1, p.2.2.1, up)).map (·.1)).Nodup
   rw [e]; exact h.names
  ·obtain ⟨q, hq, e⟩ := modify_at hp
   have := h.ad i q l hq hl x hx
   rw [e]
   split <;> exact this
theorem flatten_modify {α β : Type} (g : α → β) {L : List (List α)} {i : Nat} {l : List α} {f : List α → List α} (hl : L[i]? = some l) (hn : (L.flatten.map g).Nodup)
  (h1 : ((f l).map g).Nodup) (h2 : ∀ b ∈ (f l).map g, b ∈ l.map g ∨ b ∉ L.flatten.map g) : ((L.modify i f).flatten.map g).Nodup := by
 induction L generalizing i with
 | nil => simp at hl
 | cons z r ih =>
  rw [List.flatten_cons, List.map_append, List.nodup_append] at hn
  cases i with
  | zero =>
   simp at hl; subst hl
   rw [List.modify_zero_cons, List.flatten_cons, List.map_append, List.nodup_append]
   refine ⟨h1, hn.2.1, fun a ha b hb e => ?_⟩
   subst e
   rcases h2 a ha with h3 | h3
   ·exact hn.2.2 a h3 a hb rfl
   ·exact h3 (by rw [List.flatten_cons, List.map_append]; exact List.mem_append_right _ hb)
  | succ i =>
   have hl' : r[i]? = some l := by simpa using hl
   rw [List.modify_succ_cons, List.flatten_cons, List.map_append, List.nodup_append]
   refine ⟨hn.1, ih hl' hn.2.1 (fun b hb => ?_), fun a ha b hb e => ?_⟩
   ·rcases h2 b hb with h3 | h3
    ·exact .inl h3
    ·exact .inr (fun hm => h3 (by rw [List.flatten_cons, List.map_append]; exact List.mem_append_right _ hm))
   ·subst e
    have hsub : a ∈ r.flatten.map g ∨ a ∈ (f l).map g := by
     obtain ⟨y, hy, rfl⟩ := List.mem_map.1 hb
     obtain ⟨m, hm, hym⟩ := List.mem_flatten.1 hy
     obtain ⟨j, hj⟩ := List.mem_iff_getElem?.1 hm
     obtain ⟨x, hx, e⟩ := modify_at hj
     split at e
     ·rename_i hij
      subst hij
      rw [hl'] at hx
      injection hx with hx
      subst hx e
      exact .inr (List.mem_map.2 ⟨y, hym, rfl⟩)
     ·subst e
      exact .inl (List.mem_map.2 ⟨y, List.mem_flatten.2 ⟨m, List.mem_of_getElem? hx, hym⟩, rfl⟩)
    rcases hsub with h3 | h3
    ·exact hn.2.2 a ha a h3 rfl
    ·rcases h2 a h3 with h4 | h4
     ·refine hn.2.2 a ha a ?_ rfl
      obtain ⟨y, hy, rfl⟩ := List.mem_map.1 h4
      exact List.mem_map.2 ⟨y, List.mem_flatten.2 ⟨l, List.mem_of_getElem? hl', hy⟩, rfl⟩
     ·exact h4 (by rw [List.flatten_cons, List.map_append]; exact List.mem_append_left _ ha)
theorem nodup_in {α β : Type} {g : α → β} {L : List (List α)} (hn : (L.flatten.map g).Nodup) {i : Nat} {l : List α} (hl : L[i]? = some l) : (l.map g).Nodup := by
 induction L generalizing i with
 | nil => simp at hl
 | cons z r ih =>
  rw [List.flatten_cons, List.map_append, List.nodup_append] at hn
  cases i with
  | zero => simp at hl; subst hl; exact hn.1
  | succ i => exact ih hn.2.1 (by simpa using hl)
theorem locI_at {st : StI} (h : InvI st) {port : Int} (ht : thereI st port = true) : ∃ p l, st.1[idxI port]? = some p ∧ st.2[idxI port]? = some l ∧ locI st port = l ∧ mtuI st port = p.2.2.1 ∧ idxI port < st.1.length ∧ port = (idxI port : Int) + 1 := by
 unfold thereI at ht
 rw [decide_eq_true_eq] at ht
 have hl : idxI port < st.1.length := by unfold idxI; omega
 have hl2 : idxI port < st.2.length := by rw [← h.len]; exact hl
 refine ⟨_, _, List.getElem?_eq_getElem hl, List.getElem?_eq_getElem hl2, by unfold locI; rw [List.getElem?_eq_getElem hl2]; rfl, by unfold mtuI; rw [List.getElem?_eq_getElem hl]; rfl, hl, by unfold idxI; omega⟩
theorem InvI.put {st : StI} (h : InvI st) (port : Int) (a : AdI) (bits : Int) (ha : N64 a.2.1 ∧ N64 a.2.2) : InvI (putI st port a bits).1 := by
 unfold putI
 split
 ·exact h
 ·rename_i h1
  split
  ·exact h
  ·rename_i h2
   split
   ·exact h
   ·rename_i h3
    obtain ⟨p, l, hp, hl, he, hm, hlt, -⟩ := locI_at h (by simpa using h1)
    rw [he] at h3
    have h2 : adOk st port a bits = true := by simpa using h2
    unfold adOk at h2
    simp only [Bool.and_eq_true, Bool.or_eq_true, decide_eq_true_eq, Bool.not_eq_true', Bool.and_eq_false_iff, decide_eq_false_iff_not] at h2
    obtain ⟨⟨⟨hc, hb⟩, hmi⟩, hsx⟩ := h2
    rw [hm] at hsx
    have hnm := mineI_zero.1 hmi
    refine ⟨by simpa using h.len, h.few, h.names, fun m hm' => ?_, fun i q m hq hm' x hx => ?_, ?_, fun m hm' x hx => ?_⟩
    ·obtain ⟨j, hj⟩ := List.mem_iff_getElem?.1 hm'
     obtain ⟨y, hy, e⟩ := modify_at hj
     have h8 := h.loc y (List.mem_of_getElem? hy)
     split at e
     ·rename_i hij
      subst hij
      rw [hl] at hy
      injection hy with hy
      subst hy e
      simp; omega
     ·subst e; exact h8
    ·obtain ⟨y, hy, e⟩ := modify_at hm'
     split at e
     ·rename_i hij
      subst hij
      rw [hl] at hy
      rw [hp] at hq
      injection hy with hy
      injection hq with hq
      subst hy e hq
      rcases List.mem_append.1 hx with h5 | h5
      ·exact h.ad _ p l hp hl x h5
      ·simp at h5
       subst h5
       refine ⟨hc, hb, fun hs => ?_⟩
       rcases hsx with h6 | h6
       ·rw [hs] at h6; cases h6
       ·omega
     ·rw [e] at hx
      exact h.ad i q y hq hy x hx
    ·have hlm : ∀ b ∈ l.map (·.1), b ∈ st.2.flatten.map (·.1) := fun b hb => by
      obtain ⟨y, hy, rfl⟩ := List.mem_map.1 hb
      exact List.mem_map.2 ⟨y, List.mem_flatten.2 ⟨l, List.mem_of_getElem? hl, hy⟩, rfl⟩
     refine flatten_modify (·.1) hl h.one ?_ (fun b hb => ?_)
     ·rw [List.map_append, List.nodup_append]
      refine ⟨nodup_in h.one hl, by simp, fun b hb9 c hc' e => ?_⟩
      simp at hc'
      subst hc' e
      exact hnm (hlm _ hb9)
     ·rw [List.map_append] at hb
      rcases List.mem_append.1 hb with h5 | h5
      ·exact .inl h5
      ·simp at h5; subst h5; exact .inr hnm
    ·obtain ⟨j, hj⟩ := List.mem_iff_getElem?.1 hm'
     obtain ⟨y, hy, e⟩ := modify_at hj
     rw [e] at hx
     split at hx
     ·rcases List.mem_append.1 hx with h5 | h5
      ·exact h.u64 y (List.mem_of_getElem? hy) x h5
      ·simp at h5; subst h5; exact ha
     ·exact h.u64 y (List.mem_of_getElem? hy) x hx
theorem InvI.drop {st : StI} (h : InvI st) (port : Int) (a : AdI) : InvI (dropI st port a).1 := by
 unfold dropI
 split
 ·exact h
 ·rename_i h1
  split
  ·exact h
  ·obtain ⟨p, l, hp, hl, he, hm, hlt, -⟩ := locI_at h (by simpa using h1)
   refine ⟨by simpa using h.len, h.few, h.names, fun m hm' => ?_, fun i q m hq hm' x hx => ?_, ?_, fun m hm' x hx => ?_⟩
   ·obtain ⟨j, hj⟩ := List.mem_iff_getElem?.1 hm'
    obtain ⟨y, hy, e⟩ := modify_at hj
    have h8 := h.loc y (List.mem_of_getElem? hy)
    split at e
    ·subst e
     exact Nat.le_trans (List.length_filter_le _ _) h8
    ·subst e; exact h8
   ·obtain ⟨y, hy, e⟩ := modify_at hm'
    split at e
    ·subst e
     exact h.ad i q y hq hy x (List.mem_filter.1 hx).1
    ·rw [e] at hx
     exact h.ad i q y hq hy x hx
   ·refine flatten_modify (·.1) hl h.one ?_ (fun b hb => .inl ?_)
    ·exact (nodup_in h.one hl).sublist (List.filter_sublist.map _)
    ·obtain ⟨y, hy, rfl⟩ := List.mem_map.1 hb
     exact List.mem_map.2 ⟨y, (List.mem_filter.1 hy).1, rfl⟩
   ·obtain ⟨j, hj⟩ := List.mem_iff_getElem?.1 hm'
    obtain ⟨y, hy, e⟩ := modify_at hj
    rw [e] at hx
    split at hx
    ·exact h.u64 y (List.mem_of_getElem? hy) x (List.mem_filter.1 hx).1
    ·exact h.u64 y (List.mem_of_getElem? hy) x hx
end Go.Proofs.YtgfkmgbcajdcdaaGreatDoor.Ifs

namespace Go.Proofs.YtgfkmgbcajdcdaaGreatDoor
open Go.RowKit

theorem Goes.trans {w w1 w2 : World} {S S1 S2 : List Nat} (h : Goes w w1 S S1) (h2 : Goes w1 w2 S1 S2) : Goes w w2 S S2 := by
 refine ⟨h.tch.trans_fre h2.tch h.fre, fun s hs => ?_⟩
 rcases h2.fre s hs with h3 | h3
 ·exact h.fre s h3
 ·exact .inr (Nat.le_trans h.tch.size h3)
end Go.Proofs.YtgfkmgbcajdcdaaGreatDoor
namespace Go.Proofs.YtgfkmgbcajdcdaaGreatDoor.Ifs
open Go.RowKit
def prC (p : Prt) : List Value := [.string p.1, .int .u64 p.2.1, .int .i64 p.2.2.1, .bool p.2.2.2]
def lcC (x : Loc) : List Value := [.bool x.1.1, .int .u64 (x.1.2.1 : Int), .int .u64 (x.1.2.2 : Int), .int .i64 x.2]
theorem flat4_len {α : Type} {f : α → List Value} (hf : ∀ x, (f x).length = 4) (l : List α) : (l.flatMap f).length = l.length * 4 := by
 induction l with
 | nil => rfl
 | cons y r ih => rw [List.flatMap_cons, List.length_append, hf, ih, List.length_cons]; omega
theorem flat4_at {α : Type} {f : α → List Value} (hf : ∀ x, (f x).length = 4) {l : List α} {i : Nat} {x : α} (hx : l[i]? = some x) {k : Nat} (hk : k < 4) : (l.flatMap f)[i * 4 + k]? = (f x)[k]? := by
 induction l generalizing i with
 | nil => simp at hx
 | cons y r ih =>
  rw [List.flatMap_cons]
  cases i with
  | zero =>
   simp at hx; subst hx
   rw [List.getElem?_append_left (by rw [hf]; omega)]
   congr 1; omega
  | succ i =>
   rw [List.getElem?_append_right (by rw [hf]; omega), hf, show (i + 1) * 4 + k - 4 = i * 4 + k by omega]
   exact ih (by simpa using hx)
abbrev adV (a : AdI) : Value := .agg #[.bool a.1, .int .u64 (a.2.1 : Int), .int .u64 (a.2.2 : Int)]
theorem sizePt : (Tryz.prog.info? 74).map (·.size) = some 4 := by kernel_rfl
theorem lcC_one (l : List Loc) : ∀ u ∈ l.flatMap lcC, u.oneCell' = true := by
 intro u hu
 obtain ⟨x, -, hx⟩ := List.mem_flatMap.1 hu
 unfold lcC at hx
 simp at hx
 rcases hx with rfl | rfl | rfl | rfl <;> rfl
theorem infoLc : (Tryz.prog.info? 202).map (fun i => (i.zero, i.size, i.bytes)) = some (some (.agg #[.bool false, .int .u64 0, .int .u64 0, .int .i64 0]), 4, 32) := by kernel_rfl
def okB (i b : Nat) : Bool := decide (97 ≤ b ∧ b ≤ 122) || (decide (i ≠ 0) && decide (48 ≤ b ∧ b ≤ 57))
theorem nameOk_iff {s : ByteArray} : nameOk s = true ↔ (1 ≤ s.size ∧ s.size ≤ 8) ∧ ∀ (j : Nat) (h : j < s.size), okB j s[j].toNat = true := by
 unfold nameOk
 rw [Bool.and_eq_true, decide_eq_true_eq, List.all_eq_true]
 refine and_congr_right fun _ => ?_
 constructor
 ·intro h j hj
  have hl : s.data.toList[j]? = some s[j] := by
   have : s.data[j]? = some s[j] := Array.getElem?_eq_getElem hj
   simpa using this
  have := h (s[j], j) (List.mem_zipIdx_iff_getElem?.2 hl)
  simpa [okB] using this
 ·rintro h ⟨b, j⟩ hm
  have hl := List.mem_zipIdx_iff_getElem?.1 hm
  have hj : j < s.size := by
   have := (List.getElem?_eq_some_iff.1 hl).1
   simpa using this
  have hb : b = s[j] := by
   have h1 : s.data[j]? = some b := by simpa using hl
   have h2 : s.data[j]? = some s[j] := Array.getElem?_eq_getElem hj
   rw [h1] at h2
   exact Option.some.inj h2
  have := h j hj
  subst hb
  simpa [okB] using this
theorem cls_vld {a : AdI} (h : clsI a = 2 ∨ clsI a = 5) : vld a.1 (a.2.1 : Int) (a.2.2 : Int) = true := by
 cases hv : vld a.1 (a.2.1 : Int) (a.2.2 : Int) with
 | true => rfl
 | false =>
  have h2 : (a.1 || (decide ((a.2.1 : Int) = 0) && decide ((a.2.2 : Int) ≤ 4294967295))) = false := hv
  unfold clsI clsV at h
  rw [if_pos h2] at h
  omega
theorem sizeLc : (Tryz.prog.info? 202).map (·.size) = some 4 := by kernel_rfl
end Go.Proofs.YtgfkmgbcajdcdaaGreatDoor.Ifs

namespace Go.Proofs.YtgfkmgbcajdcdaaGreatDoor
open Ifs

abbrev HpI := Int × AdR × Bool
abbrev EnI := PfI × HpI
def zeroH : HpI := (0, zeroA, false)
def upI (st : StI) (port : Int) : Bool := thereI st port && (portI st port).2.2.2
def stdI (st : StI) (x : PaI) : Bool := decide (x.2.2.2.1 = 0) || upI st x.2.2.2.1
def pathI (L : List TdI) (st : StI) (p : PfI) : Option PaI := (pathsI L p).find? (stdI st)
def nbX (x : PaI) : Bool := !x.2.2.2.2 && decide (x.2.2.2.1 = 0)
def folX (x y : PaI) : PaI := if ¬ y.2.2.2.1 = 0 ∧ y.2.2.1 = zeroA then (y.1, y.2.1, x.2.2.1, y.2.2.2.1, y.2.2.2.2) else y
def nxtI (L : List TdI) (st : StI) (a : AdR) : Option PaI := (overI L a).findSome? (pathI L st)
def hpX (x : PaI) : HpI := (x.2.2.2.1, x.2.2.1, x.2.2.2.2)
def hopF (L : List TdI) (st : StI) : Nat → PaI → HpI × Int
 | 0, x => if nbX x = false then (hpX x, 0) else (zeroH, 151)
 | f + 1, x => if nbX x = false then (hpX x, 0) else match nxtI L st x.2.2.1 with
  | none => (zeroH, 150)
  | some y => hopF L st f (folX x y)
def hopI (L : List TdI) (st : StI) (p : PfI) : HpI × Int := match pathI L st p with
 | none => (zeroH, 150)
 | some x => hopF L st 8 x
def entI (L : List TdI) (st : StI) (p : PfI) : Option EnI := if (hopI L st p).2 = 0 then some (p, (hopI L st p).1) else none
def tabI (L : List TdI) (st : StI) : List EnI := (prefsI L).filterMap (entI L st)
def tabK (L : List TdI) (st : StI) (k : Nat) : List EnI := ((prefsI L).take k).filterMap (entI L st)
theorem tabK_zero (L : List TdI) (st : StI) : tabK L st 0 = [] := by simp [tabK]
theorem tabK_all {L : List TdI} {st : StI} {k : Nat} (h : (prefsI L).length ≤ k) : tabK L st k = tabI L st := by unfold tabK tabI; rw [List.take_of_length_le h]
theorem tabK_succ {L : List TdI} {st : StI} {k : Nat} {p : PfI} (h : (prefsI L)[k]? = some p) : tabK L st (k + 1) = tabK L st k ++ (entI L st p).toList := by
 unfold tabK
 rw [List.take_add_one, h, List.filterMap_append]
 cases e : entI L st p <;> simp [e]
theorem tabK_le (L : List TdI) (st : StI) (k : Nat) : (tabK L st k).length ≤ (prefsI L).length := by
 unfold tabK
 refine Nat.le_trans (List.length_filterMap_le _ _) ?_
 rw [List.length_take]
 exact Nat.min_le_right _ _
structure GoodX (st : StI) (x : PaI) : Prop where
 aw : x.2.2.2.2 = true → x.2.2.2.1 = 0 ∧ x.2.2.1 = zeroA
 pt : ¬ x.2.2.2.1 = 0 → upI st x.2.2.2.1 = true
theorem GoodX.of {st : StI} {p : PfI} {x : PaI} (hr : rightI p x = true) (hs : stdI st x = true) : GoodX st x := by
 refine ⟨fun ha => ?_, fun hp => ?_⟩
 ·unfold rightI at hr
  split at hr
  ·cases hr
  ·simpa [ha] using hr
 ·unfold stdI at hs
  rw [Bool.or_eq_true, decide_eq_true_eq] at hs
  exact hs.resolve_left hp
theorem pathI_some {L : List TdI} {st : StI} {p : PfI} {x : PaI} (hI : InvR L) (h : pathI L st p = some x) : GoodX st x ∧ (p, x) ∈ L := by
 have h1 : (p, x) ∈ L := pathsI_mem.1 (List.mem_of_find?_eq_some h)
 exact ⟨GoodX.of (hI.ok _ h1).right (List.find?_some h), h1⟩
theorem tabI_mem {L : List TdI} {st : StI} {e : EnI} (h : e ∈ tabI L st) : e.1 ∈ prefsI L ∧ (hopI L st e.1).2 = 0 ∧ e.2 = (hopI L st e.1).1 := by
 obtain ⟨p, hp, he⟩ := List.mem_filterMap.1 h
 unfold entI at he
 split at he
 ·rename_i h0
  injection he with he
  subst he
  exact ⟨hp, h0, rfl⟩
 ·cases he
theorem entI_fst {L : List TdI} {st : StI} {p : PfI} {e : EnI} (he : entI L st p = some e) : e.1 = p := by
 unfold entI at he
 split at he
 ·injection he with he
  rw [← he]
 ·cases he
theorem tabI_srt {L : List TdI} {st : StI} (hI : InvR L) : (tabI L st).Pairwise fun e f => ltP e.1 f.1 := by
 unfold tabI
 rw [List.pairwise_filterMap]
 refine (prefsI_srt hI).imp fun {p q} hpq e he f hf => ?_
 rw [entI_fst he, entI_fst hf]
 exact hpq
theorem pref_ok {L : List TdI} (hI : InvR L) {p : PfI} (h : p ∈ prefsI L) : pvI p = true ∧ vld p.1.1 (p.1.2.1 : Int) (p.1.2.2 : Int) = true ∧ N64 p.1.2.1 ∧ N64 p.1.2.2 := by
 obtain ⟨t, ht, e⟩ := (prefsI_mem hI).1 h
 have := hI.ok t ht
 rw [← e]
 exact ⟨this.pv, this.vl, this.n1.1, this.n1.2⟩
end Go.Proofs.YtgfkmgbcajdcdaaGreatDoor

namespace Go.Proofs.YtgfkmgbcajdcdaaGreatDoor
open Go.RowKit

theorem tkH {P : Program} {md : Region.Mode} {ops : Array Oper} {Q : Exit → Act → World → Prop} {S : World → Prop} (i : Nat) {oi : Oper} {v : Value} {fuel : Nat} {listed l' : Array Bool} {a a' : Act} {w : World}
  (h : wpAnyH P md ops Q S fuel l' a' w) (hS : S w := by assumption) (hi : ops[i]? = some oi := by (simp only [List.getElem?_toArray, List.getElem?_cons_succ, List.getElem?_cons_zero]; try rfl)) (hs : Region.noSelect ops = true := by kernel_rfl) (hf : Region.free md ops listed i = true := by kernel_rfl) (hr : (Region.ready md ops listed).contains i = true := by kernel_rfl)
  (hw : Region.wanted oi (yielded ops a.tmps) = true := by rfl)
  (hy : ∀ w, S w → (execOp a.eval oi).run P w = .ok (.value v) w := by (intro w hSw; (try dsimp only at hSw); go_simp; try (with_reducible rfl)))
  (hQ : ∀ c a w, Q (.panic c) (a.put oi.dst v) w → Q (.panic c) a w := by exact fun _ _ _ h => h)
  (hl : listed.setIfInBounds i true = l' := by rfl) (ha : a.put oi.dst v = a' := by (try simp only [Act.put, List.setIfInBounds_toArray, List.set_cons_zero, List.set_cons_succ]); rfl) : wpAnyH P md ops Q S (fuel + 1) listed a w := by
 subst hl ha
 exact wpAnyH_take hi hs hf hr hQ (Or.inl ⟨hw, hy⟩) hS h
theorem tkO {P : Program} {md : Region.Mode} {ops : Array Oper} {Q : Exit → Act → World → Prop} {S : World → Prop} (i : Nat) {oi : Oper} {fuel : Nat} {listed l' : Array Bool} {a a' : Act} {w : World}
  (h : wpAnyH P md ops Q S fuel l' a' w) (hS : S w := by assumption) (hi : ops[i]? = some oi := by (simp only [List.getElem?_toArray, List.getElem?_cons_succ, List.getElem?_cons_zero]; try rfl)) (hs : Region.noSelect ops = true := by kernel_rfl) (hf : Region.free md ops listed i = true := by kernel_rfl) (hr : (Region.ready md ops listed).contains i = true := by kernel_rfl)
  (hw : Region.wanted oi (yielded ops a.tmps) = false := by rfl)
  (hQ : ∀ c a w, Q (.panic c) (a.put oi.dst undef) w → Q (.panic c) a w := by exact fun _ _ _ h => h)
  (hl : listed.setIfInBounds i true = l' := by rfl) (ha : a.put oi.dst undef = a' := by (try simp only [Act.put, List.setIfInBounds_toArray, List.set_cons_zero, List.set_cons_succ]); rfl) : wpAnyH P md ops Q S (fuel + 1) listed a w := by
 subst hl ha
 exact wpAnyH_take hi hs hf hr hQ (Or.inr ⟨hw, rfl⟩) hS h
end Go.Proofs.YtgfkmgbcajdcdaaGreatDoor
