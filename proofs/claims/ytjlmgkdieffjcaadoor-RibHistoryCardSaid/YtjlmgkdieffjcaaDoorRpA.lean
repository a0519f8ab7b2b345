/-
  The program's own rib (layer 15): a map by prefixes, each with a row of paths of its own: how it lies in memory.
-/
import Derived.Test.YtjlmgkdieffjcaaDoorRbEq
import Derived.Test.YtjlmgkdieffjcaaDoorRbQ
import Derived.Test.YtjlmgkdieffjcaaDoorMpk
namespace Go.Proofs.YtjlmgkdieffjcaaDoor
open Go.RowKit
set_option linter.unusedVariables false

abbrev I64 (x : Int) : Prop := (Lit.int .i64 x).wf = true
/-- Is a path of Go's numbers. -/
def PaOk (x : PaI) : Prop := I64 x.1 ∧ I64 x.2.1 ∧ (N64 x.2.2.1.2.1 ∧ N64 x.2.2.1.2.2) ∧ I64 x.2.2.2.1
def PfOk (p : PfI) : Prop := (N64 p.1.2.1 ∧ N64 p.1.2.2) ∧ I64 p.2
theorem chkA (b : Bool) (n : Nat) (s : Bool) (h l : Int) (W : World) : (Instr.checkKey b (n + 2) 24 (.agg #[.bool s, .int .u64 h, .int .u64 l])).run Tryd.prog W = .ok () W := by
  have u0 := fun W => run_underlying Tryd.underlying24 W
  have u1 := fun W => run_underlying Tryd.underlying4 W
  have u2 := fun W => run_underlying Tryd.underlying22 W
  unfold Instr.checkKey
  go_simp
  simp [Instr.checkKey]
theorem chkPf0 (b : Bool) (n : Nat) (s : Bool) (h l k : Int) (W : World) : (Instr.checkKey b (n + 3) 37 (.agg #[.bool s, .int .u64 h, .int .u64 l, .int .i64 k])).run Tryd.prog W = .ok () W := by
  have u0 := fun W => run_underlying Tryd.underlying37 W
  have u1 := fun W => run_underlying Tryd.underlying3 W
  have hA := fun W => chkA b n s h l W
  unfold Instr.checkKey
  go_simp
  simp [Instr.checkKey]
set_option maxRecDepth 100000 in
theorem chkPf (b : Bool) (p : PfI) (W : World) : (Instr.checkKey b 10000 37 (pfR p)).run Tryd.prog W = .ok () W := by
  obtain ⟨⟨s, h, l⟩, n⟩ := p
  exact chkPf0 b 9997 s h l n W
set_option maxRecDepth 100000 in
theorem keyPf : KeyT (κ := PfI) 37 (fun p => pfR p) where
  und := ⟨_, Tryd.underlying37⟩
  agg := fun x => ⟨_, rfl⟩
  eq := fun x y W => eq_pfR x y rfl W
  chk := fun b x W => chkPf b x W
  same := fun x => by simp [Instr.sameBits]
abbrev nilS : Value := .slice none 0 0
theorem zeroPas (w : World) : (zeroValue 38).run Tryd.prog w = .ok nilS w := by kernel_rfl
/-- A prefix's row of paths. -/
def RowP (w : World) (L : List TdI) (p : PfI) (v : Value) : Prop := ∃ A c, v = .slice A (pathsI L p).length c ∧ w.ownsRow 0 26 7 (.slice A (pathsI L p).length c) (pathsI L p).length ((pathsI L p).flatMap paC)
/-- What lies in memory: t the rib's block, m the map's, M its keys with their rows. -/
structure RpM (w : World) (t m : Nat) (M : List (PfI × Value)) (S : List Nat) (L : List TdI) : Prop where
  eS : S = t :: m :: (M.map Prod.snd).flatMap obI
  nod : S.Nodup
  bt : Blk w t 64 #[.map (some m)]
  mp : MpIs (fun p => pfR p) w m M
  row : ∀ x ∈ M, RowP w L x.1 x.2 ∧ 0 < (pathsI L x.1).length
  all : ∀ p, 0 < (pathsI L p).length → ∃ v, (p, v) ∈ M
  inv : InvB L
  ok : ∀ u ∈ L, PfOk u.1 ∧ PaOk u.2
/-- The program's rib, with its blocks S. -/
def RbP (w : World) (t : Nat) (S : List Nat) (L : List TdI) : Prop := ∃ m M, RpM w t m M S L
theorem sub_flat {α β : Type} {f : α → List β} {l m : List α} (h : l.Sublist m) : (l.flatMap f).Sublist (m.flatMap f) := by
  induction h with
  | slnil => exact List.Sublist.refl _
  | cons x _ ih => rw [List.flatMap_cons]; exact ih.trans (List.sublist_append_right _ _)
  | cons_cons x _ ih => rw [List.flatMap_cons, List.flatMap_cons]; exact (List.Sublist.refl _).append ih
section
variable {w w' : World} {t m : Nat} {M : List (PfI × Value)} {S T : List Nat} {L L' : List TdI} {p : PfI}
theorem RpM.lt (h : RpM w t m M S L) : ∀ s ∈ S, s < w.heap.size := by
  intro s hs
  rw [h.eS] at hs
  rcases List.mem_cons.1 hs with e | e
  · rw [e]; exact h.bt.lt
  rcases List.mem_cons.1 e with e | e
  · rw [e]; exact h.mp.lt
  obtain ⟨v, hv, hs⟩ := List.mem_flatMap.1 e
  obtain ⟨x, hx, rfl⟩ := List.mem_map.1 hv
  obtain ⟨⟨A, c, e, ho⟩, -⟩ := h.row x hx
  rw [e] at hs
  exact own_lts ho s hs
theorem RowP.tch {v : Value} (h : RowP w L p v) (ht : Tch w w' T) (hn : ∀ s ∈ obI v, s ∉ T) : RowP w' L p v := by
  obtain ⟨A, c, e, ho⟩ := h
  exact ⟨A, c, e, own_tch ho ht (fun s hs => hn s (by rw [e]; exact hs))⟩
theorem RpM.tch (h : RpM w t m M S L) (ht : Tch w w' T) (hn : ∀ s ∈ S, s ∉ T) : RpM w' t m M S L := by
  refine ⟨h.eS, h.nod, ht.blk h.bt (hn t (by rw [h.eS]; simp)), h.mp.tch ht (hn m (by rw [h.eS]; simp)), fun x hx => ⟨(h.row x hx).1.tch ht (fun s hs => hn s ?_), (h.row x hx).2⟩, h.all, h.inv, h.ok⟩
  rw [h.eS]
  exact List.mem_cons_of_mem _ (List.mem_cons_of_mem _ (List.mem_flatMap.2 ⟨_, List.mem_map.2 ⟨x, hx, rfl⟩, hs⟩))
theorem RbP.inv (h : RbP w t S L) : InvB L := by obtain ⟨m, M, h⟩ := h; exact h.inv
theorem RbP.ok (h : RbP w t S L) : ∀ u ∈ L, PfOk u.1 ∧ PaOk u.2 := by obtain ⟨m, M, h⟩ := h; exact h.ok
theorem RbP.lt (h : RbP w t S L) : ∀ s ∈ S, s < w.heap.size := by obtain ⟨m, M, h⟩ := h; exact h.lt
theorem RbP.tch (h : RbP w t S L) (ht : Tch w w' T) (hn : ∀ s ∈ S, s ∉ T) : RbP w' t S L := by obtain ⟨m, M, h⟩ := h; exact ⟨m, M, h.tch ht hn⟩
/-- What a look-up finds. -/
theorem RpM.at_ (h : RpM w t m M S L) (p : PfI) : RowP w L p (mpV M p nilS) := by
  unfold mpV
  cases hg : mpG p M 0 with
  | none =>
    have h0 : (pathsI L p).length = 0 := by
      rcases Nat.eq_zero_or_pos (pathsI L p).length with e | e
      · exact e
      · obtain ⟨v, hv⟩ := h.all p e
        exact absurd rfl (mpG_none.1 hg _ hv)
    have h1 : pathsI L p = [] := List.eq_nil_of_length_eq_zero h0
    exact ⟨none, 0, by simp [h1], by rw [h1]; exact ⟨rfl, .inl ⟨rfl, rfl⟩⟩⟩
  | some a =>
    obtain ⟨j, v⟩ := a
    obtain ⟨q, e, hq⟩ := mpG_some hg
    exact (h.row (p, v) (List.mem_of_getElem? hq)).1
theorem RpM.sub_ (h : RpM w t m M S L) (p : PfI) : ∀ s ∈ obI (mpV M p nilS), s ∈ S ∧ s ≠ t ∧ s ≠ m := by
  intro s hs
  unfold mpV at hs
  cases hg : mpG p M 0 with
  | none => rw [hg] at hs; cases hs
  | some a =>
    obtain ⟨j, v⟩ := a
    rw [hg] at hs
    obtain ⟨q, e, hq⟩ := mpG_some hg
    have hm : s ∈ (M.map Prod.snd).flatMap obI := List.mem_flatMap.2 ⟨v, List.mem_map.2 ⟨_, List.mem_of_getElem? hq, rfl⟩, hs⟩
    have hn := h.nod
    rw [h.eS, List.nodup_cons, List.nodup_cons] at hn
    exact ⟨by rw [h.eS]; exact List.mem_cons_of_mem _ (List.mem_cons_of_mem _ hm), fun e => hn.1 (by rw [← e]; exact List.mem_cons_of_mem _ hm), fun e => hn.2.1 (by rw [← e]; exact hm)⟩
/-- What one row's block touches no other row. -/
theorem RpM.apart (h : RpM w t m M S L) {x : PfI × Value} (hx : x ∈ M) (hne : ¬ x.1 = p) : ∀ s ∈ obI x.2, s ∉ obI (mpV M p nilS) := by
  intro s hs hm
  unfold mpV at hm
  cases hg : mpG p M 0 with
  | none => rw [hg] at hm; cases hm
  | some a =>
    obtain ⟨j, v⟩ := a
    rw [hg] at hm
    obtain ⟨q, e, hq⟩ := mpG_some hg
    obtain ⟨i, hi⟩ := List.mem_iff_getElem?.1 hx
    have hn := h.nod
    rw [h.eS, List.nodup_cons, List.nodup_cons] at hn
    have hij : q ≠ i := fun e => hne (by
      subst e
      rw [hi] at hq
      injection hq with hq
      rw [hq])
    exact flat_disj hn.2.2 (i := q) (j := i) (v := v) (u := x.2) (by rw [List.getElem?_map, hq]; rfl) (by rw [List.getElem?_map, hi]; rfl) hij s hs hm
/-- What is left when a prefix's row is set anew. -/
theorem RpM.set_ {W W' : World} {v : Value} (h : RpM w t m M S L) (hT : Tch w W (obI (mpV M p nilS))) (hv : RowP W L' p v) (h0 : 0 < (pathsI L' p).length) (hf : ∀ s ∈ obI v, s ∈ obI (mpV M p nilS) ∨ w.heap.size ≤ s)
    (hq : ∀ q, ¬ q = p → pathsI L' q = pathsI L q) (hI : InvB L') (hok : ∀ u ∈ L', PfOk u.1 ∧ PaOk u.2) (hM : MpIs (fun p => pfR p) W' m (mpPut M p v)) (hT2 : Tch W W' [m]) :
    ∃ S', RbP W' t S' L' ∧ Goes w W' S S' := by
  have hn := h.nod
  rw [h.eS, List.nodup_cons, List.nodup_cons] at hn
  obtain ⟨n1, n2, n3⟩ := hn
  have hlt : ∀ s ∈ (M.map Prod.snd).flatMap obI, s < w.heap.size := fun s hs => h.lt s (by rw [h.eS]; exact List.mem_cons_of_mem _ (List.mem_cons_of_mem _ hs))
  have ht := h.lt t (by rw [h.eS]; simp)
  have hm := h.lt m (by rw [h.eS]; simp)
  have hk : (((mpPut M p v).map Prod.snd).flatMap obI).Nodup ∧ ∀ s ∈ ((mpPut M p v).map Prod.snd).flatMap obI, s ∈ (M.map Prod.snd).flatMap obI ∨ w.heap.size ≤ s := by
    unfold mpPut
    unfold mpV at hf
    cases hg : mpG p M 0 with
    | none =>
      rw [hg] at hf
      simp only
      rw [List.map_append, List.flatMap_append, List.nodup_append]
      have e1 : ∀ s ∈ ([(p, v)].map Prod.snd).flatMap obI, s ∈ obI v := fun s hs => by simpa using hs
      have e2 : ∀ s ∈ obI v, w.heap.size ≤ s := fun s hs => (hf s hs).resolve_left (by simp [obI, Value.ownBlock])
      refine ⟨⟨n3, by simpa using obI_nodup v, fun a ha b hb e => ?_⟩, fun s hs => ?_⟩
      · have := hlt a ha; have := e2 b (e1 b hb); omega
      · rcases List.mem_append.1 hs with k | k
        · exact .inl k
        · exact .inr (e2 s (e1 s k))
    | some a =>
      obtain ⟨j, u⟩ := a
      rw [hg] at hf
      obtain ⟨q, e, hjq⟩ := mpG_some hg
      obtain rfl : j = q := by omega
      simp only
      rw [List.map_set]
      exact flat_set2 n3 (i := j) (v0 := u) (by rw [List.getElem?_map, hjq]; rfl) hlt hf
  refine ⟨t :: m :: ((mpPut M p v).map Prod.snd).flatMap obI, ⟨m, mpPut M p v, rfl, ?_, ?_, hM, ?_, ?_, hI, hok⟩, ⟨?_, ?_⟩⟩
  · rw [List.nodup_cons, List.nodup_cons]
    refine ⟨fun hc => ?_, fun hc => ?_, hk.1⟩
    · rcases List.mem_cons.1 hc with e | e
      · exact n1 (by rw [e]; simp)
      · rcases hk.2 t e with e | e
        · exact n1 (List.mem_cons_of_mem _ e)
        · omega
    · rcases hk.2 m hc with e | e
      · exact n2 e
      · omega
  · refine hT2.blk (hT.blk h.bt (fun hc => (h.sub_ p t hc).2.1 rfl)) (fun hc => n1 (by rw [List.mem_singleton.1 hc]; simp))
  · have hrow : ∀ x ∈ M, ¬ x.1 = p → RowP W' L' x.1 x.2 ∧ 0 < (pathsI L' x.1).length := fun x hx hne => by
      obtain ⟨r1, r2⟩ := h.row x hx
      have r3 := (r1.tch hT (h.apart hx hne)).tch hT2 (fun s hs hc => by
        rw [List.mem_singleton.1 hc] at hs
        exact n2 (List.mem_flatMap.2 ⟨_, List.mem_map.2 ⟨x, hx, rfl⟩, hs⟩))
      unfold RowP at r3 ⊢
      rw [hq _ hne]
      exact ⟨r3, r2⟩
    have hnew : RowP W' L' p v := hv.tch hT2 (fun s hs hc => by
      rw [List.mem_singleton.1 hc] at hs
      rcases hf m hs with e | e
      · exact (h.sub_ p m e).2.2 rfl
      · omega)
    intro x hx
    unfold mpPut at hx
    cases hg : mpG p M 0 with
    | none =>
      rw [hg] at hx
      rcases List.mem_append.1 hx with e | e
      · exact hrow x e (fun e1 => mpG_none.1 hg x e e1)
      · rw [List.mem_singleton.1 e]; exact ⟨hnew, h0⟩
    | some a =>
      obtain ⟨j, u⟩ := a
      rw [hg] at hx
      simp only at hx
      obtain ⟨i, hi⟩ := List.mem_iff_getElem?.1 hx
      rw [List.getElem?_set] at hi
      obtain ⟨q, e, hjq⟩ := mpG_some hg
      obtain rfl : j = q := by omega
      by_cases hji : j = i
      · rw [if_pos hji] at hi
        split at hi
        · injection hi with hi; rw [← hi]; exact ⟨hnew, h0⟩
        · cases hi
      · rw [if_neg hji] at hi
        refine hrow x (List.mem_of_getElem? hi) (fun e1 => ?_)
        obtain ⟨q', hq1, hq2⟩ := mpG_mem h.mp.nodup (p := p) (v := x.2) (by rw [← e1]; exact List.mem_of_getElem? hi) 0
        rw [hg] at hq2
        injection hq2 with hq2
        injection hq2 with hq2 _
        have li := (List.getElem?_eq_some_iff.1 hi).1
        have ei := (List.getElem?_eq_some_iff.1 hi).2
        have lj := (List.getElem?_eq_some_iff.1 hjq).1
        have ej := (List.getElem?_eq_some_iff.1 hjq).2
        have hp := List.pairwise_iff_getElem.1 h.mp.nodup
        rcases Nat.lt_trichotomy i j with hlt | heq | hgt
        · exact hp i j (by simpa using li) (by simpa using lj) hlt (by simp [ei, ej, e1])
        · exact hji heq.symm
        · exact hp j i (by simpa using lj) (by simpa using li) hgt (by simp [ei, ej, e1])
  · intro q hq0
    unfold mpPut
    by_cases e : q = p
    · subst e
      cases hg : mpG q M 0 with
      | none => exact ⟨v, by simp⟩
      | some a =>
        obtain ⟨j, u⟩ := a
        obtain ⟨q', e, hjq⟩ := mpG_some hg
        obtain rfl : j = q' := by omega
        exact ⟨v, by simp only; exact List.mem_of_getElem? (i := j) (by rw [List.getElem?_set, if_pos rfl, if_pos (List.getElem?_eq_some_iff.1 hjq).1])⟩
    · rw [hq q e] at hq0
      obtain ⟨u, hu⟩ := h.all q hq0
      cases hg : mpG p M 0 with
      | none => exact ⟨u, List.mem_append_left _ hu⟩
      | some a =>
        obtain ⟨j, u'⟩ := a
        obtain ⟨q', e', hjq⟩ := mpG_some hg
        obtain rfl : j = q' := by omega
        obtain ⟨i, hi⟩ := List.mem_iff_getElem?.1 hu
        have hji : ¬ j = i := fun e1 => e (by rw [e1, hi] at hjq; injection hjq with hjq; injection hjq)
        exact ⟨u, by simp only; exact List.mem_of_getElem? (i := i) (by rw [List.getElem?_set, if_neg hji]; exact hi)⟩
  · refine (hT.mono fun s hs => (h.sub_ p s hs).1).trans_fre hT2 (fun s hs => .inl (by rw [List.mem_singleton.1 hs, h.eS]; simp))
  · intro s hs
    rcases List.mem_cons.1 hs with e | e
    · exact .inl (by rw [e, h.eS]; simp)
    rcases List.mem_cons.1 e with e | e
    · exact .inl (by rw [e, h.eS]; simp)
    rcases hk.2 s e with e | e
    · exact .inl (by rw [h.eS]; exact List.mem_cons_of_mem _ (List.mem_cons_of_mem _ e))
    · exact .inr e
/-- What is left when a prefix has no more paths. -/
theorem RpM.del_ {W W' : World} (h : RpM w t m M S L) (hT : Tch w W (obI (mpV M p nilS))) (h0 : (pathsI L' p).length = 0)
    (hq : ∀ q, ¬ q = p → pathsI L' q = pathsI L q) (hI : InvB L') (hok : ∀ u ∈ L', PfOk u.1 ∧ PaOk u.2) (hM : MpIs (fun p => pfR p) W' m (mpDel M p)) (hT2 : Tch W W' [m]) :
    ∃ S', RbP W' t S' L' ∧ Goes w W' S S' := by
  have hn := h.nod
  rw [h.eS, List.nodup_cons, List.nodup_cons] at hn
  obtain ⟨n1, n2, n3⟩ := hn
  have hsub : (mpDel M p).Sublist M := by
    unfold mpDel
    split
    · exact List.eraseIdx_sublist _ _
    · exact List.Sublist.refl _
  have hk : (((mpDel M p).map Prod.snd).flatMap obI).Sublist ((M.map Prod.snd).flatMap obI) := by
    exact sub_flat (hsub.map _)
  have hne : ∀ x ∈ mpDel M p, ¬ x.1 = p := by
    intro x hx e1
    unfold mpDel at hx
    cases hg : mpG p M 0 with
    | none => rw [hg] at hx; exact mpG_none.1 hg x hx e1
    | some a =>
      obtain ⟨j, u⟩ := a
      rw [hg] at hx
      simp only at hx
      obtain ⟨q, e, hjq⟩ := mpG_some hg
      obtain rfl : j = q := by omega
      obtain ⟨i, hij, hi⟩ := List.mem_eraseIdx_iff_getElem?.1 hx
      have li := (List.getElem?_eq_some_iff.1 hi).1
      have ei := (List.getElem?_eq_some_iff.1 hi).2
      have lj := (List.getElem?_eq_some_iff.1 hjq).1
      have ej := (List.getElem?_eq_some_iff.1 hjq).2
      have hp := List.pairwise_iff_getElem.1 h.mp.nodup
      rcases Nat.lt_trichotomy i j with hlt | heq | hgt
      · exact hp i j (by simpa using li) (by simpa using lj) hlt (by simp [ei, ej, e1])
      · exact hij heq
      · exact hp j i (by simpa using lj) (by simpa using li) hgt (by simp [ei, ej, e1])
  refine ⟨t :: m :: ((mpDel M p).map Prod.snd).flatMap obI, ⟨m, mpDel M p, rfl, ?_, ?_, hM, ?_, ?_, hI, hok⟩, ⟨?_, ?_⟩⟩
  · rw [List.nodup_cons, List.nodup_cons]
    refine ⟨fun hc => ?_, fun hc => n2 (hk.subset hc), n3.sublist hk⟩
    rcases List.mem_cons.1 hc with e | e
    · exact n1 (by rw [e]; simp)
    · exact n1 (List.mem_cons_of_mem _ (hk.subset e))
  · exact hT2.blk (hT.blk h.bt (fun hc => (h.sub_ p t hc).2.1 rfl)) (fun hc => n1 (by rw [List.mem_singleton.1 hc]; simp))
  · intro x hx
    have hxM := hsub.subset hx
    obtain ⟨r1, r2⟩ := h.row x hxM
    have r3 := (r1.tch hT (h.apart hxM (hne x hx))).tch hT2 (fun s hs hc => by
      rw [List.mem_singleton.1 hc] at hs
      exact n2 (List.mem_flatMap.2 ⟨_, List.mem_map.2 ⟨x, hxM, rfl⟩, hs⟩))
    unfold RowP at r3 ⊢
    rw [hq _ (hne x hx)]
    exact ⟨r3, r2⟩
  · intro q hq0
    have e : ¬ q = p := fun e => by rw [e, h0] at hq0; omega
    rw [hq q e] at hq0
    obtain ⟨u, hu⟩ := h.all q hq0
    unfold mpDel
    cases hg : mpG p M 0 with
    | none => exact ⟨u, hu⟩
    | some a =>
      obtain ⟨j, u'⟩ := a
      obtain ⟨q', e', hjq⟩ := mpG_some hg
      obtain rfl : j = q' := by omega
      obtain ⟨i, hi⟩ := List.mem_iff_getElem?.1 hu
      have hji : ¬ i = j := fun e1 => e (by rw [← e1, hi] at hjq; injection hjq with hjq; injection hjq)
      exact ⟨u, List.mem_eraseIdx_iff_getElem?.2 ⟨i, hji, hi⟩⟩
  · refine (hT.mono fun s hs => (h.sub_ p s hs).1).trans_fre hT2 (fun s hs => .inl (by rw [List.mem_singleton.1 hs, h.eS]; simp))
  · intro s hs
    rcases List.mem_cons.1 hs with e | e
    · exact .inl (by rw [e, h.eS]; simp)
    rcases List.mem_cons.1 e with e | e
    · exact .inl (by rw [e, h.eS]; simp)
    exact .inl (by rw [h.eS]; exact List.mem_cons_of_mem _ (List.mem_cons_of_mem _ (hk.subset e)))
end
end Go.Proofs.YtjlmgkdieffjcaaDoor
