/-
  Several texts in one: RpA, RpB, RpC.
-/
import Derived.Test.YtgfkmgbcajdcdaaGreatDoorKae
import Derived.Test.YtgfkmgbcajdcdaaGreatDoorKad
import Derived.StillTailTactics
namespace Go.Proofs.YtgfkmgbcajdcdaaGreatDoor
open Go.RowKit
set_option linter.unusedVariables false

abbrev I64 (x : Int) : Prop := (Lit.int .i64 x).wf = true
/-- Is a path of Go's numbers. -/
def PaOk (x : PaI) : Prop := I64 x.1 ∧ I64 x.2.1 ∧ (N64 x.2.2.1.2.1 ∧ N64 x.2.2.1.2.2) ∧ I64 x.2.2.2.1
def PfOk (p : PfI) : Prop := (N64 p.1.2.1 ∧ N64 p.1.2.2) ∧ I64 p.2
theorem chkA (b : Bool) (n : Nat) (s : Bool) (h l : Int) (W : World) : (Instr.checkKey b (n + 2) 28 (.agg #[.bool s, .int .u64 h, .int .u64 l])).run Tryz.prog W = .ok () W := by
  have u0 := fun W => run_underlying Tryz.underlying28 W
  have u1 := fun W => run_underlying Tryz.underlying4 W
  have u2 := fun W => run_underlying Tryz.underlying26 W
  unfold Instr.checkKey
  go_simp
  simp [Instr.checkKey]
theorem chkPf0 (b : Bool) (n : Nat) (s : Bool) (h l k : Int) (W : World) : (Instr.checkKey b (n + 3) 30 (.agg #[.bool s, .int .u64 h, .int .u64 l, .int .i64 k])).run Tryz.prog W = .ok () W := by
  have u0 := fun W => run_underlying Tryz.underlying30 W
  have u1 := fun W => run_underlying Tryz.underlying3 W
  have hA := fun W => chkA b n s h l W
  unfold Instr.checkKey
  go_simp
  simp [Instr.checkKey]
set_option maxRecDepth 100000 in
theorem chkPf (b : Bool) (p : PfI) (W : World) : (Instr.checkKey b 10000 30 (pfR p)).run Tryz.prog W = .ok () W := by
  obtain ⟨⟨s, h, l⟩, n⟩ := p
  exact chkPf0 b 9997 s h l n W
set_option maxRecDepth 100000 in
theorem keyPf : KeyT (κ := PfI) 30 (fun p => pfR p) where
  und := ⟨_, Tryz.underlying30⟩
  agg := fun x => ⟨_, rfl⟩
  eq := fun x y W => eq_pfR x y rfl W
  chk := fun b x W => chkPf b x W
  same := fun x => by simp [Instr.sameBits]
abbrev nilS : Value := .slice none 0 0
theorem zeroPas (w : World) : (zeroValue 118).run Tryz.prog w = .ok nilS w := by kernel_rfl
/-- A prefix's row of paths. -/
def RowP (w : World) (L : List TdI) (p : PfI) (v : Value) : Prop := ∃ A c, v = .slice A (pathsI L p).length c ∧ w.ownsRow 0 49 7 (.slice A (pathsI L p).length c) (pathsI L p).length ((pathsI L p).flatMap paC)
/-- What lies in memory: t the rib's block, m the map's, M its keys with their rows. -/
structure RpM (w : World) (t m : Nat) (M : List (PfI × Value)) (S : List Nat) (L : List TdI) : Prop where
  eS : S = t :: m :: (M.map Prod.snd).flatMap obI
  nod : S.Nodup
  bt : Blk w t 123 #[.map (some m)]
  mp : MpIs (fun p => pfR p) w m M
  row : ∀ x ∈ M, RowP w L x.1 x.2 ∧ 0 < (pathsI L x.1).length
  all : ∀ p, 0 < (pathsI L p).length → ∃ v, (p, v) ∈ M
  inv : InvB L
  ok : ∀ u ∈ L, PfOk u.1 ∧ PaOk u.2
/-- The program's rib, with its blocks S. -/
def RbP (w : World) (t : Nat) (S : List Nat) (L : List TdI) : Prop := ∃ m M, RpM w t m M S L
theorem sub_flat {α β : Type} {f : α → List β} {l m : List α} (h : l.Sublist m) : (l.flatMap f).Sublist (m.flatMap f) := by
  induction h with
  | slnil => exact List.Sublist.refl _
  | cons x _ ih => rw [List.flatMap_cons]; exact ih.trans (List.sublist_append_right _ _)
  | cons_cons x _ ih => rw [List.flatMap_cons, List.flatMap_cons]; exact (List.Sublist.refl _).append ih
section
variable {w w' : World} {t m : Nat} {M : List (PfI × Value)} {S T : List Nat} {L L' : List TdI} {p : PfI}
theorem RpM.lt (h : RpM w t m M S L) : ∀ s ∈ S, s < w.heap.size := by
  intro s hs
  rw [h.eS] at hs
  rcases List.mem_cons.1 hs with e | e
  · rw [e]; exact h.bt.lt
  rcases List.mem_cons.1 e with e | e
  · rw [e]; exact h.mp.lt
  obtain ⟨v, hv, hs⟩ := List.mem_flatMap.1 e
  obtain ⟨x, hx, rfl⟩ := List.mem_map.1 hv
  obtain ⟨⟨A, c, e, ho⟩, -⟩ := h.row x hx
  rw [e] at hs
  exact own_lts ho s hs
theorem RowP.tch {v : Value} (h : RowP w L p v) (ht : Tch w w' T) (hn : ∀ s ∈ obI v, s ∉ T) : RowP w' L p v := by
  obtain ⟨A, c, e, ho⟩ := h
  exact ⟨A, c, e, own_tch ho ht (fun s hs => hn s (by rw [e]; exact hs))⟩
theorem RpM.tch (h : RpM w t m M S L) (ht : Tch w w' T) (hn : ∀ s ∈ S, s ∉ T) : RpM w' t m M S L := by
  refine ⟨h.eS, h.nod, ht.blk h.bt (hn t (by rw [h.eS]; simp)), h.mp.tch ht (hn m (by rw [h.eS]; simp)), fun x hx => ⟨(h.row x hx).1.tch ht (fun s hs => hn s ?_), (h.row x hx).2⟩, h.all, h.inv, h.ok⟩
  rw [h.eS]
  exact List.mem_cons_of_mem _ (List.mem_cons_of_mem _ (List.mem_flatMap.2 ⟨_, List.mem_map.2 ⟨x, hx, rfl⟩, hs⟩))
theorem RbP.inv (h : RbP w t S L) : InvB L := by obtain ⟨m, M, h⟩ := h; exact h.inv
theorem RbP.ok (h : RbP w t S L) : ∀ u ∈ L, PfOk u.1 ∧ PaOk u.2 := by obtain ⟨m, M, h⟩ := h; exact h.ok
theorem RbP.lt (h : RbP w t S L) : ∀ s ∈ S, s < w.heap.size := by obtain ⟨m, M, h⟩ := h; exact h.lt
theorem RbP.tch (h : RbP w t S L) (ht : Tch w w' T) (hn : ∀ s ∈ S, s ∉ T) : RbP w' t S L := by obtain ⟨m, M, h⟩ := h; exact ⟨m, M, h.tch ht hn⟩
/-- What a look-up finds. -/
theorem RpM.at_ (h : RpM w t m M S L) (p : PfI) : RowP w L p (mpV M p nilS) := by
  unfold mpV
  cases hg : mpG p M 0 with
  | none =>
    have h0 : (pathsI L p).length = 0 := by
      rcases Nat.eq_zero_or_pos (pathsI L p).length with e | e
      · exact e
      · obtain ⟨v, hv⟩ := h.all p e
        exact absurd rfl (mpG_none.1 hg _ hv)
    have h1 : pathsI L p = [] := List.eq_nil_of_length_eq_zero h0
    exact ⟨none, 0, by simp [h1], by rw [h1]; exact ⟨rfl, .inl ⟨rfl, rfl⟩⟩⟩
  | some a =>
    obtain ⟨j, v⟩ := a
    obtain ⟨q, e, hq⟩ := mpG_some hg
    exact (h.row (p, v) (List.mem_of_getElem? hq)).1
theorem RpM.sub_ (h : RpM w t m M S L) (p : PfI) : ∀ s ∈ obI (mpV M p nilS), s ∈ S ∧ s ≠ t ∧ s ≠ m := by
  intro s hs
  unfold mpV at hs
  cases hg : mpG p M 0 with
  | none => rw [hg] at hs; cases hs
  | some a =>
    obtain ⟨j, v⟩ := a
    rw [hg] at hs
    obtain ⟨q, e, hq⟩ := mpG_some hg
    have hm : s ∈ (M.map Prod.snd).flatMap obI := List.mem_flatMap.2 ⟨v, List.mem_map.2 ⟨_, List.mem_of_getElem? hq, rfl⟩, hs⟩
    have hn := h.nod
    rw [h.eS, List.nodup_cons, List.nodup_cons] at hn
    exact ⟨by rw [h.eS]; exact List.mem_cons_of_mem _ (List.mem_cons_of_mem _ hm), fun e => hn.1 (by rw [← e]; exact List.mem_cons_of_mem _ hm), fun e => hn.2.1 (by rw [← e]; exact hm)⟩
/-- What one row's block touches no other row. -/
theorem RpM.apart (h : RpM w t m M S L) {x : PfI × Value} (hx : x ∈ M) (hne : ¬ x.1 = p) : ∀ s ∈ obI x.2, s ∉ obI (mpV M p nilS) := by
  intro s hs hm
  unfold mpV at hm
  cases hg : mpG p M 0 with
  | none => rw [hg] at hm; cases hm
  | some a =>
    obtain ⟨j, v⟩ := a
    rw [hg] at hm
    obtain ⟨q, e, hq⟩ := mpG_some hg
    obtain ⟨i, hi⟩ := List.mem_iff_getElem?.1 hx
    have hn := h.nod
    rw [h.eS, List.nodup_cons, List.nodup_cons] at hn
    have hij : q ≠ i := fun e => hne (by
      subst e
      rw [hi] at hq
      injection hq with hq
      rw [hq])
    exact flat_disj hn.2.2 (i := q) (j := i) (v := v) (u := x.2) (by rw [List.getElem?_map, hq]; rfl) (by rw [List.getElem?_map, hi]; rfl) hij s hs hm
/-- What is left when a prefix's row is set anew. -/
theorem RpM.set_ {W W' : World} {v : Value} (h : RpM w t m M S L) (hT : Tch w W (obI (mpV M p nilS))) (hv : RowP W L' p v) (h0 : 0 < (pathsI L' p).length) (hf : ∀ s ∈ obI v, s ∈ obI (mpV M p nilS) ∨ w.heap.size ≤ s)
    (hq : ∀ q, ¬ q = p → pathsI L' q = pathsI L q) (hI : InvB L') (hok : ∀ u ∈ L', PfOk u.1 ∧ PaOk u.2) (hM : MpIs (fun p => pfR p) W' m (mpPut M p v)) (hT2 : Tch W W' [m]) :
    ∃ S', RbP W' t S' L' ∧ Goes w W' S S' := by
  have hn := h.nod
  rw [h.eS, List.nodup_cons, List.nodup_cons] at hn
  obtain ⟨n1, n2, n3⟩ := hn
  have hlt : ∀ s ∈ (M.map Prod.snd).flatMap obI, s < w.heap.size := fun s hs => h.lt s (by rw [h.eS]; exact List.mem_cons_of_mem _ (List.mem_cons_of_mem _ hs))
  have ht := h.lt t (by rw [h.eS]; simp)
  have hm := h.lt m (by rw [h.eS]; simp)
  have hk : (((mpPut M p v).map Prod.snd).flatMap obI).Nodup ∧ ∀ s ∈ ((mpPut M p v).map Prod.snd).flatMap obI, s ∈ (M.map Prod.snd).flatMap obI ∨ w.heap.size ≤ s := by
    unfold mpPut
    unfold mpV at hf
    cases hg : mpG p M 0 with
    | none =>
      rw [hg] at hf
      simp only
      rw [List.map_append, List.flatMap_append, List.nodup_append]
      have e1 : ∀ s ∈ ([(p, v)].map Prod.snd).flatMap obI, s ∈ obI v := fun s hs => by simpa using hs
      have e2 : ∀ s ∈ obI v, w.heap.size ≤ s := fun s hs => (hf s hs).resolve_left (by simp [obI, Value.ownBlock])
      refine ⟨⟨n3, by simpa using obI_nodup v, fun a ha b hb e => ?_⟩, fun s hs => ?_⟩
      · have := hlt a ha; have := e2 b (e1 b hb); omega
      · rcases List.mem_append.1 hs with k | k
        · exact .inl k
        · exact .inr (e2 s (e1 s k))
    | some a =>
      obtain ⟨j, u⟩ := a
      rw [hg] at hf
      obtain ⟨q, e, hjq⟩ := mpG_some hg
      obtain rfl : j = q := by omega
      simp only
      rw [List.map_set]
      exact flat_set2 n3 (i := j) (v0 := u) (by rw [List.getElem?_map, hjq]; rfl) hlt hf
  refine ⟨t :: m :: ((mpPut M p v).map Prod.snd).flatMap obI, ⟨m, mpPut M p v, rfl, ?_, ?_, hM, ?_, ?_, hI, hok⟩, ⟨?_, ?_⟩⟩
  · rw [List.nodup_cons, List.nodup_cons]
    refine ⟨fun hc => ?_, fun hc => ?_, hk.1⟩
    · rcases List.mem_cons.1 hc with e | e
      · exact n1 (by rw [e]; simp)
      · rcases hk.2 t e with e | e
        · exact n1 (List.mem_cons_of_mem _ e)
        · omega
    · rcases hk.2 m hc with e | e
      · exact n2 e
      · omega
  · refine hT2.blk (hT.blk h.bt (fun hc => (h.sub_ p t hc).2.1 rfl)) (fun hc => n1 (by rw [List.mem_singleton.1 hc]; simp))
  · have hrow : ∀ x ∈ M, ¬ x.1 = p → RowP W' L' x.1 x.2 ∧ 0 < (pathsI L' x.1).length := fun x hx hne => by
      obtain ⟨r1, r2⟩ := h.row x hx
      have r3 := (r1.tch hT (h.apart hx hne)).tch hT2 (fun s hs hc => by
        rw [List.mem_singleton.1 hc] at hs
        exact n2 (List.mem_flatMap.2 ⟨_, List.mem_map.2 ⟨x, hx, rfl⟩, hs⟩))
      unfold RowP at r3 ⊢
      rw [hq _ hne]
      exact ⟨r3, r2⟩
    have hnew : RowP W' L' p v := hv.tch hT2 (fun s hs hc => by
      rw [List.mem_singleton.1 hc] at hs
      rcases hf m hs with e | e
      · exact (h.sub_ p m e).2.2 rfl
      · omega)
    intro x hx
    unfold mpPut at hx
    cases hg : mpG p M 0 with
    | none =>
      rw [hg] at hx
      rcases List.mem_append.1 hx with e | e
      · exact hrow x e (fun e1 => mpG_none.1 hg x e e1)
      · rw [List.mem_singleton.1 e]; exact ⟨hnew, h0⟩
    | some a =>
      obtain ⟨j, u⟩ := a
      rw [hg] at hx
      simp only at hx
      obtain ⟨i, hi⟩ := List.mem_iff_getElem?.1 hx
      rw [List.getElem?_set] at hi
      obtain ⟨q, e, hjq⟩ := mpG_some hg
      obtain rfl : j = q := by omega
      by_cases hji : j = i
      · rw [if_pos hji] at hi
        split at hi
        · injection hi with hi; rw [← hi]; exact ⟨hnew, h0⟩
        · cases hi
      · rw [if_neg hji] at hi
        refine hrow x (List.mem_of_getElem? hi) (fun e1 => ?_)
        obtain ⟨q', hq1, hq2⟩ := mpG_mem h.mp.nodup (p := p) (v := x.2) (by rw [← e1]; exact List.mem_of_getElem? hi) 0
        rw [hg] at hq2
        injection hq2 with hq2
        injection hq2 with hq2 _
        have li := (List.getElem?_eq_some_iff.1 hi).1
        have ei := (List.getElem?_eq_some_iff.1 hi).2
        have lj := (List.getElem?_eq_some_iff.1 hjq).1
        have ej := (List.getElem?_eq_some_iff.1 hjq).2
        have hp := List.pairwise_iff_getElem.1 h.mp.nodup
        rcases Nat.lt_trichotomy i j with hlt | heq | hgt
        · exact hp i j (by simpa using li) (by simpa using lj) hlt (by simp [ei, ej, e1])
        · exact hji heq.symm
        · exact hp j i (by simpa using lj) (by simpa using li) hgt (by simp [ei, ej, e1])
  · intro q hq0
    unfold mpPut
    by_cases e : q = p
    · subst e
      cases hg : mpG q M 0 with
      | none => exact ⟨v, by simp⟩
      | some a =>
        obtain ⟨j, u⟩ := a
        obtain ⟨q', e, hjq⟩ := mpG_some hg
        obtain rfl : j = q' := by omega
        exact ⟨v, by simp only; exact List.mem_of_getElem? (i := j) (by rw [List.getElem?_set, if_pos rfl, if_pos (List.getElem?_eq_some_iff.1 hjq).1])⟩
    · rw [hq q e] at hq0
      obtain ⟨u, hu⟩ := h.all q hq0
      cases hg : mpG p M 0 with
      | none => exact ⟨u, List.mem_append_left _ hu⟩
      | some a =>
        obtain ⟨j, u'⟩ := a
        obtain ⟨q', e', hjq⟩ := mpG_some hg
        obtain rfl : j = q' := by omega
        obtain ⟨i, hi⟩ := List.mem_iff_getElem?.1 hu
        have hji : ¬ j = i := fun e1 => e (by rw [e1, hi] at hjq; injection hjq with hjq; injection hjq)
        exact ⟨u, by simp only; exact List.mem_of_getElem? (i := i) (by rw [List.getElem?_set, if_neg hji]; exact hi)⟩
  · refine (hT.mono fun s hs => (h.sub_ p s hs).1).trans_fre hT2 (fun s hs => .inl (by rw [List.mem_singleton.1 hs, h.eS]; simp))
  · intro s hs
    rcases List.mem_cons.1 hs with e | e
    · exact .inl (by rw [e, h.eS]; simp)
    rcases List.mem_cons.1 e with e | e
    · exact .inl (by rw [e, h.eS]; simp)
    rcases hk.2 s e with e | e
    · exact .inl (by rw [h.eS]; exact List.mem_cons_of_mem _ (List.mem_cons_of_mem _ e))
    · exact .inr e
/-- What is left when a prefix has no more paths. -/
theorem RpM.del_ {W W' : World} (h : RpM w t m M S L) (hT : Tch w W (obI (mpV M p nilS))) (h0 : (pathsI L' p).length = 0)
    (hq : ∀ q, ¬ q = p → pathsI L' q = pathsI L q) (hI : InvB L') (hok : ∀ u ∈ L', PfOk u.1 ∧ PaOk u.2) (hM : MpIs (fun p => pfR p) W' m (mpDel M p)) (hT2 : Tch W W' [m]) :
    ∃ S', RbP W' t S' L' ∧ Goes w W' S S' := by
  have hn := h.nod
  rw [h.eS, List.nodup_cons, List.nodup_cons] at hn
  obtain ⟨n1, n2, n3⟩ := hn
  have hsub : (mpDel M p).Sublist M := by
    unfold mpDel
    split
    · exact List.eraseIdx_sublist _ _
    · exact List.Sublist.refl _
  have hk : (((mpDel M p).map Prod.snd).flatMap obI).Sublist ((M.map Prod.snd).flatMap obI) := by
    exact sub_flat (hsub.map _)
  have hne : ∀ x ∈ mpDel M p, ¬ x.1 = p := by
    intro x hx e1
    unfold mpDel at hx
    cases hg : mpG p M 0 with
    | none => rw [hg] at hx; exact mpG_none.1 hg x hx e1
    | some a =>
      obtain ⟨j, u⟩ := a
      rw [hg] at hx
      simp only at hx
      obtain ⟨q, e, hjq⟩ := mpG_some hg
      obtain rfl : j = q := by omega
      obtain ⟨i, hij, hi⟩ := List.mem_eraseIdx_iff_getElem?.1 hx
      have li := (List.getElem?_eq_some_iff.1 hi).1
      have ei := (List.getElem?_eq_some_iff.1 hi).2
      have lj := (List.getElem?_eq_some_iff.1 hjq).1
      have ej := (List.getElem?_eq_some_iff.1 hjq).2
      have hp := List.pairwise_iff_getElem.1 h.mp.nodup
      rcases Nat.lt_trichotomy i j with hlt | heq | hgt
      · exact hp i j (by simpa using li) (by simpa using lj) hlt (by simp [ei, ej, e1])
      · exact hij heq
      · exact hp j i (by simpa using lj) (by simpa using li) hgt (by simp [ei, ej, e1])
  refine ⟨t :: m :: ((mpDel M p).map Prod.snd).flatMap obI, ⟨m, mpDel M p, rfl, ?_, ?_, hM, ?_, ?_, hI, hok⟩, ⟨?_, ?_⟩⟩
  · rw [List.nodup_cons, List.nodup_cons]
    refine ⟨fun hc => ?_, fun hc => n2 (hk.subset hc), n3.sublist hk⟩
    rcases List.mem_cons.1 hc with e | e
    · exact n1 (by rw [e]; simp)
    · exact n1 (List.mem_cons_of_mem _ (hk.subset e))
  · exact hT2.blk (hT.blk h.bt (fun hc => (h.sub_ p t hc).2.1 rfl)) (fun hc => n1 (by rw [List.mem_singleton.1 hc]; simp))
  · intro x hx
    have hxM := hsub.subset hx
    obtain ⟨r1, r2⟩ := h.row x hxM
    have r3 := (r1.tch hT (h.apart hxM (hne x hx))).tch hT2 (fun s hs hc => by
      rw [List.mem_singleton.1 hc] at hs
      exact n2 (List.mem_flatMap.2 ⟨_, List.mem_map.2 ⟨x, hxM, rfl⟩, hs⟩))
    unfold RowP at r3 ⊢
    rw [hq _ (hne x hx)]
    exact ⟨r3, r2⟩
  · intro q hq0
    have e : ¬ q = p := fun e => by rw [e, h0] at hq0; omega
    rw [hq q e] at hq0
    obtain ⟨u, hu⟩ := h.all q hq0
    unfold mpDel
    cases hg : mpG p M 0 with
    | none => exact ⟨u, hu⟩
    | some a =>
      obtain ⟨j, u'⟩ := a
      obtain ⟨q', e', hjq⟩ := mpG_some hg
      obtain rfl : j = q' := by omega
      obtain ⟨i, hi⟩ := List.mem_iff_getElem?.1 hu
      have hji : ¬ i = j := fun e1 => e (by rw [← e1, hi] at hjq; injection hjq with hjq; injection hjq)
      exact ⟨u, List.mem_eraseIdx_iff_getElem?.2 ⟨i, hji, hi⟩⟩
  · refine (hT.mono fun s hs => (h.sub_ p s hs).1).trans_fre hT2 (fun s hs => .inl (by rw [List.mem_singleton.1 hs, h.eS]; simp))
  · intro s hs
    rcases List.mem_cons.1 hs with e | e
    · exact .inl (by rw [e, h.eS]; simp)
    rcases List.mem_cons.1 e with e | e
    · exact .inl (by rw [e, h.eS]; simp)
    exact .inl (by rw [h.eS]; exact List.mem_cons_of_mem _ (List.mem_cons_of_mem _ (hk.subset e)))
end
end Go.Proofs.YtgfkmgbcajdcdaaGreatDoor

namespace Go.Proofs.YtgfkmgbcajdcdaaGreatDoor
open Go.RowKit
set_option linter.unusedVariables false

def distT : List Int := [0, 1, 20, 110, 120]
/-- What the package's table holds. -/
def EnvR (w : World) : Prop := ∀ j, j < 5 → w.cell? ⟨0, j, none⟩ = some (.int .i64 (distT.getD j 0))
theorem EnvR.lt {w : World} (h : EnvR w) : 0 < w.heap.size := World.block_lt_of_cell? w _ (h 0 (by decide))
theorem EnvR.tch {w w' : World} {T : List Nat} (h : EnvR w) (ht : Tch w w' T) (hn : 0 ∉ T) : EnvR w' := fun j hj => (ht.cell (p := ⟨0, j, none⟩) h.lt hn).trans (h j hj)
theorem EnvR.tch0 {w w' : World} (h : EnvR w) (ht : Tch w w' []) : EnvR w' := h.tch ht (by simp)
theorem EnvR.below {w w' : World} (h : EnvR w) (hb : Below w.heap.size w w') : EnvR w' := h.tch0 (Tch.of_below [] hb)
theorem EnvR.nin {w : World} {S : List Nat} (h : EnvR w) (hs : ∀ s ∈ S, w.heap.size ≤ s) : 0 ∉ S := fun hm => by have := hs _ hm; have := h.lt; omega
theorem isProto_at (p : Int) {b : Bool} (hb : (decide (0 ≤ p) && decide (p < 5)) = b) (w : World) : Calls Tryz.prog 120 #[.int .i64 p] w fun e w' => e = .returned (.bool b) ∧ w' = w := by
  by_cases h0 : 0 ≤ p
  · by_cases h5 : p < 5
    · have hb1 : b = true := by rw [← hb]; simp [h0, h5]
      subst hb1
      clear hb
      go_enter Tryz.func120, Tryz.ntmps120
      go_wp2
      go_ret
      exact ⟨rfl, rfl⟩
    · have hb1 : b = false := by rw [← hb]; simp [h5]
      subst hb1
      clear hb
      go_enter Tryz.func120, Tryz.ntmps120
      go_wp2
      go_ret
      exact ⟨rfl, rfl⟩
  · have hb1 : b = false := by rw [← hb]; simp [h0]
    subst hb1
    clear hb
    go_enter Tryz.func120, Tryz.ntmps120
    go_wp2
    go_ret
    exact ⟨rfl, rfl⟩
theorem distT_at {p : Int} (h0 : 0 ≤ p) (h5 : p < 5) : distT.getD p.toNat 0 = distI p := by
  have : p = 0 ∨ p = 1 ∨ p = 2 ∨ p = 3 ∨ p = 4 := by omega
  rcases this with rfl | rfl | rfl | rfl | rfl <;> rfl
theorem distI_far {p : Int} (h : ¬ (0 ≤ p ∧ p < 5)) : distI p = 255 := by
  unfold distI
  rw [if_neg (by omega), if_neg (by omega), if_neg (by omega), if_neg (by omega), if_neg (by omega)]
set_option maxHeartbeats 1000000 in
theorem pdist_any (p : Int) (w : World) (hE : EnvR w) : Calls Tryz.prog 161 #[.int .i64 p] w fun e w' => e = .returned (.int .i64 (distI p)) ∧ w' = w := by
  by_cases h : 0 ≤ p ∧ p < 5
  · have HP := Lib.hid (isProto_at p (b := true) (by simp [h.1, h.2]) w)
    obtain ⟨k, rfl⟩ : ∃ k : Nat, p = k := ⟨p.toNat, by omega⟩
    have hc := hE k (by omega)
    have hd := distT_at h.1 h.2
    rw [Int.toNat_natCast] at hd
    rw [hd] at hc
    obtain ⟨D, hD⟩ : ∃ D, distI (k : Int) = D := ⟨_, rfl⟩
    rw [hD] at hc ⊢
    obtain ⟨k0, k5⟩ := h
    clear hd hD hE
    go_enter Tryz.func161, Tryz.ntmps161
    go_wp2_with (go_at_call 120; refine Calls.mono HP.out ?_; rintro e w' ⟨rfl, rfl⟩)
    go_ret
    exact ⟨rfl, rfl⟩
  · have HP := Lib.hid (isProto_at p (b := false) (by by_cases h0 : 0 ≤ p <;> by_cases h5 : p < 5 <;> simp [h0, h5]; exact h ⟨h0, h5⟩) w)
    rw [distI_far h]
    clear h hE
    go_enter Tryz.func161, Tryz.ntmps161
    go_wp2_with (go_at_call 120; refine Calls.mono HP.out ?_; rintro e w' ⟨rfl, rfl⟩)
    go_ret
    exact ⟨rfl, rfl⟩
/-- cmp.Compare. -/
def cmpI (a b : Int) : Int := if a < b then -1 else if b < a then 1 else 0
set_option maxHeartbeats 1000000 in
theorem nan_i (a : Int) (w : World) : Calls Tryz.prog 139 #[.int .i64 a] w fun e w' => e = .returned (.bool false) ∧ w' = w := by
  have e0 : (a != a) = false := by simp
  go_enter Tryz.func139, Tryz.ntmps139
  go_wp2
  go_ret
  exact ⟨rfl, rfl⟩
theorem nan_u (a : Int) (w : World) : Calls Tryz.prog 195 #[.int .u64 a] w fun e w' => e = .returned (.bool false) ∧ w' = w := by
  have e0 : (a != a) = false := by simp
  go_enter Tryz.func195, Tryz.ntmps195
  go_wp2
  go_ret
  exact ⟨rfl, rfl⟩
set_option maxHeartbeats 2000000 in
theorem cmp_i (a b : Int) (w : World) : Calls Tryz.prog 96 #[.int .i64 a, .int .i64 b] w fun e w' => e = .returned (.int .i64 (cmpI a b)) ∧ w' = w := by
  have HA := Lib.hid (nan_i a w)
  have HB := Lib.hid (nan_i b w)
  unfold cmpI
  by_cases h1 : a < b
  · rw [if_pos h1]
    go_enter Tryz.func96, Tryz.ntmps96
    go_wp2_with fail
    refine Calls.mono HA.out ?_
    rintro e w' ⟨rfl, rfl⟩
    go_wp2_with fail
    refine Calls.mono HB.out ?_
    rintro e w' ⟨rfl, rfl⟩
    go_wp2
    go_ret
    exact ⟨rfl, rfl⟩
  · by_cases h2 : b < a
    · rw [if_neg h1, if_pos h2]
      go_enter Tryz.func96, Tryz.ntmps96
      go_wp2_with fail
      refine Calls.mono HA.out ?_
      rintro e w' ⟨rfl, rfl⟩
      go_wp2_with fail
      refine Calls.mono HB.out ?_
      rintro e w' ⟨rfl, rfl⟩
      go_wp2
      go_ret
      exact ⟨rfl, rfl⟩
    · rw [if_neg h1, if_neg h2]
      go_enter Tryz.func96, Tryz.ntmps96
      go_wp2_with fail
      refine Calls.mono HA.out ?_
      rintro e w' ⟨rfl, rfl⟩
      go_wp2_with fail
      refine Calls.mono HB.out ?_
      rintro e w' ⟨rfl, rfl⟩
      go_wp2
      go_ret
      exact ⟨rfl, rfl⟩
set_option maxHeartbeats 2000000 in
theorem cmp_u (a b : Int) (w : World) : Calls Tryz.prog 163 #[.int .u64 a, .int .u64 b] w fun e w' => e = .returned (.int .i64 (cmpI a b)) ∧ w' = w := by
  have HA := Lib.hid (nan_u a w)
  have HB := Lib.hid (nan_u b w)
  unfold cmpI
  by_cases h1 : a < b
  · rw [if_pos h1]
    go_enter Tryz.func163, Tryz.ntmps163
    go_wp2_with fail
    refine Calls.mono HA.out ?_
    rintro e w' ⟨rfl, rfl⟩
    go_wp2_with fail
    refine Calls.mono HB.out ?_
    rintro e w' ⟨rfl, rfl⟩
    go_wp2
    go_ret
    exact ⟨rfl, rfl⟩
  · by_cases h2 : b < a
    · rw [if_neg h1, if_pos h2]
      go_enter Tryz.func163, Tryz.ntmps163
      go_wp2_with fail
      refine Calls.mono HA.out ?_
      rintro e w' ⟨rfl, rfl⟩
      go_wp2_with fail
      refine Calls.mono HB.out ?_
      rintro e w' ⟨rfl, rfl⟩
      go_wp2
      go_ret
      exact ⟨rfl, rfl⟩
    · rw [if_neg h1, if_neg h2]
      go_enter Tryz.func163, Tryz.ntmps163
      go_wp2_with fail
      refine Calls.mono HA.out ?_
      rintro e w' ⟨rfl, rfl⟩
      go_wp2_with fail
      refine Calls.mono HB.out ?_
      rintro e w' ⟨rfl, rfl⟩
      go_wp2
      go_ret
      exact ⟨rfl, rfl⟩
theorem cmpB_any (a b : Bool) (w : World) : Calls Tryz.prog 162 #[.bool a, .bool b] w fun e w' => e = .returned (.int .i64 (cmpI (bI a) (bI b))) ∧ w' = w := by
  cases a <;> cases b
  all_goals
    go_enter Tryz.func162, Tryz.ntmps162
    go_wp2
    go_ret
    exact ⟨rfl, rfl⟩
/-- cmp.Or: the first that isn't 0. -/
def orI (l : List Int) : Int := (l.find? fun x => decide (x ≠ 0)).getD 0
theorem orI_cons (x : Int) (l : List Int) : orI (x :: l) = if x = 0 then orI l else x := by
  unfold orI
  by_cases h : x = 0
  · rw [if_pos h, List.find?_cons_of_neg (by simpa using h)]
  · rw [if_neg h, List.find?_cons_of_pos (by simpa using h)]; rfl
theorem or_key {a b : List Int} (h : a.length = b.length) : orI (a.zipWith cmpI b) < 0 ↔ lexP a b := by
  induction a generalizing b with
  | nil => simp [orI, lexP]
  | cons x r ih =>
    cases b with
    | nil => simp at h
    | cons y s =>
      rw [List.zipWith_cons_cons, orI_cons]
      simp only [lexP]
      rw [← ih (by simpa using h)]
      unfold cmpI
      by_cases h1 : x < y
      · rw [if_pos h1, if_neg (by decide)]
        simp [h1]
      · by_cases h2 : y < x
        · rw [if_neg h1, if_pos h2, if_neg (by decide)]
          simp; omega
        · rw [if_neg h1, if_neg h2, if_pos rfl]
          have : x = y := by omega
          simp [this]
set_option maxRecDepth 100000 in
set_option maxHeartbeats 4000000 in
theorem or_any (g n c : Nat) (l : List Int) (hl : l.length = n) (hn : n ≤ 1000) (w : World) (hB : ∀ j x, l[j]? = some x → w.cell? ⟨g, j, none⟩ = some (.int .i64 x)) :
    Calls Tryz.prog 160 #[.slice (some ⟨g, 0, none⟩) n c] w fun e w' => e = .returned (.int .i64 (orI l)) ∧ w' = w := by
  have HL := Lib.hid hl
  have HB := Lib.hid hB
  clear hl hB
  go_enter Tryz.func160, Tryz.ntmps160
  go_wp2
  go_loopw [5, 8] (fun _ kv wr => ∃ k : Nat, kv = .int .i64 (k : Int) ∧ k ≤ n ∧ Hid (orI l = orI (l.drop k)) ∧ wr = w) (fun _ kv _ => n - (intOf kv).toNat)
  case atStart => exact ⟨0, rfl, Nat.zero_le _, Lib.hid (by simp), rfl⟩
  case round =>
    obtain ⟨k, rfl, hk, hA, rfl⟩ := hrel
    have k1 : IntKind.i64.wrap ((k : Int) + 1) = (k : Int) + 1 := by rw [IntKind.wrap_i64]; omega
    by_cases hkn : k < n
    · have kI : (k : Int) < (n : Int) := by omega
      have k0 : (0 : Int) ≤ (k : Int) := by omega
      obtain ⟨x, hx⟩ : ∃ x, l[k]? = some x := ⟨_, List.getElem?_eq_getElem (by rw [HL.out]; exact hkn)⟩
      have x0 := HB.out k x hx
      have HD : Hid (orI l = if x = 0 then orI (l.drop (k + 1)) else x) := Lib.hid (by
        rw [hA.out, ← orI_cons]
        congr 1
        have := (List.getElem?_eq_some_iff.1 hx)
        obtain ⟨h1, h2⟩ := this
        rw [List.drop_eq_getElem_cons h1, h2])
      clear hx
      by_cases h0 : x = 0
      · subst h0
        have HD2 : Hid (orI l = orI (l.drop (k + 1))) := Lib.hid (by rw [HD.out]; simp)
        go_wp2
        go_roundw
        case rel => exact ⟨k + 1, by go_num, hkn, HD2, by trivial⟩
        case measure => simp [intOf]; omega
      · have b0 : (x != 0) = true := by simpa using h0
        have HD2 : Hid (orI l = x) := Lib.hid (by rw [HD.out, if_neg h0])
        clear h0
        go_wp2
        go_ret
        exact ⟨by rw [HD2.out]; rfl, rfl⟩
    · obtain rfl : k = n := by omega
      have kI : ¬ (k : Int) < (k : Int) := by omega
      have HD2 : Hid (orI l = 0) := Lib.hid (by rw [hA.out, List.drop_of_length_le (by rw [HL.out]; exact Nat.le_refl _)]; rfl)
      clear hkn hk
      go_wp2
      go_ret
      exact ⟨by rw [HD2.out]; rfl, rfl⟩
end Go.Proofs.YtgfkmgbcajdcdaaGreatDoor

namespace Go.Proofs.YtgfkmgbcajdcdaaGreatDoor
open Go.RowKit
set_option linter.unusedVariables false

theorem Blk.p7 {w : World} {g : Nat} {t : TypeId} {a b c d e f i : Value} (h : Blk w g t #[a, b, c, d, e, f, i]) : w.cell? ⟨g, 0, none⟩ = some a ∧ w.cell? ⟨g, 1, none⟩ = some b ∧ w.cell? ⟨g, 2, none⟩ = some c ∧ w.cell? ⟨g, 3, none⟩ = some d ∧ w.cell? ⟨g, 4, none⟩ = some e ∧ w.cell? ⟨g, 5, none⟩ = some f ∧ w.cell? ⟨g, 6, none⟩ = some i :=
  ⟨by rw [h.cell]; rfl, by rw [h.cell]; rfl, by rw [h.cell]; rfl, by rw [h.cell]; rfl, by rw [h.cell]; rfl, by rw [h.cell]; rfl, by rw [h.cell]; rfl⟩
theorem bet_or (x y : PaI) : decide (orI ((keyX x).zipWith cmpI (keyX y)) < 0) = betI x y := by
  rw [Bool.eq_iff_iff, decide_eq_true_eq, betI_key, or_key (a := keyX x) (b := keyX y) rfl]
set_option maxRecDepth 100000 in
set_option maxHeartbeats 4000000 in
theorem better_m (x y : PaI) (w : World) (hE : EnvR w) : Calls Tryz.prog 124 #[paR x, paR y] w fun e w' => e = .returned (.bool (betI x y)) ∧ Tch w w' [] := by
  have HB := Lib.hid (bet_or x y)
  obtain ⟨R, hR⟩ : ∃ R, betI x y = R := ⟨_, rfl⟩
  rw [hR] at HB ⊢
  clear hR
  obtain ⟨pr, me, ⟨vs, vh, vl⟩, po, aw⟩ := x
  obtain ⟨qr, ne, ⟨us, uh, ul⟩, qo, bw⟩ := y
  obtain ⟨a0, ha0⟩ : ∃ a, cmpI (distI pr) (distI qr) = a := ⟨_, rfl⟩
  obtain ⟨a1, ha1⟩ : ∃ a, cmpI me ne = a := ⟨_, rfl⟩
  obtain ⟨a2, ha2⟩ : ∃ a, cmpI po qo = a := ⟨_, rfl⟩
  obtain ⟨a3, ha3⟩ : ∃ a, cmpI (bI vs) (bI us) = a := ⟨_, rfl⟩
  obtain ⟨a4, ha4⟩ : ∃ a, cmpI (vh : Int) (uh : Int) = a := ⟨_, rfl⟩
  obtain ⟨a5, ha5⟩ : ∃ a, cmpI (vl : Int) (ul : Int) = a := ⟨_, rfl⟩
  obtain ⟨a6, ha6⟩ : ∃ a, cmpI (bI aw) (bI bw) = a := ⟨_, rfl⟩
  have HB : Hid (decide (orI [a0, a1, a2, a3, a4, a5, a6] < 0) = R) := Lib.hid (by rw [← HB.out, ← ha0, ← ha1, ← ha2, ← ha3, ← ha4, ← ha5, ← ha6]; rfl)
  obtain ⟨d0, hd0⟩ : ∃ d, distI pr = d := ⟨_, rfl⟩
  obtain ⟨d1, hd1⟩ : ∃ d, distI qr = d := ⟨_, rfl⟩
  rw [hd0, hd1] at ha0
  obtain ⟨xb, hxb⟩ : ∃ xb, w.heap.size = xb := ⟨_, rfl⟩
  obtain ⟨W0, hW0⟩ : ∃ W, (w.alloc (.cells #[.int .i64 pr, .int .i64 me, .bool vs, .int .u64 (vh : Int), .int .u64 (vl : Int), .int .i64 po, .bool aw] 197)).alloc (.cells #[.int .i64 qr, .int .i64 ne, .bool us, .int .u64 (uh : Int), .int .u64 (ul : Int), .int .i64 qo, .bool bw] 49) = W := ⟨_, rfl⟩
  have hX : Blk W0 xb 197 #[.int .i64 pr, .int .i64 me, .bool vs, .int .u64 (vh : Int), .int .u64 (vl : Int), .int .i64 po, .bool aw] := hW0 ▸ hxb ▸ (Blk.new _ _ _).alloc _
  have hY : Blk W0 (xb + 1) 49 #[.int .i64 qr, .int .i64 ne, .bool us, .int .u64 (uh : Int), .int .u64 (ul : Int), .int .i64 qo, .bool bw] := by
    rw [← hW0, ← hxb, show w.heap.size + 1 = (w.alloc (.cells #[.int .i64 pr, .int .i64 me, .bool vs, .int .u64 (vh : Int), .int .u64 (vl : Int), .int .i64 po, .bool aw] 197)).heap.size by simp]
    exact Blk.new _ _ _
  have hT0 : Tch w W0 [] := hW0 ▸ ((Tch.refl w []).alloc _).alloc _
  have hE0 : EnvR W0 := hE.tch0 hT0
  have HT0 := Lib.hid hT0
  obtain ⟨W1, hW1⟩ : ∃ W1, W0.drew = W1 := ⟨_, rfl⟩
  have hX1 : Blk W1 xb _ _ := hW1 ▸ hX.drew
  have hY1 : Blk W1 (xb + 1) _ _ := hW1 ▸ hY.drew
  have HE1 : Hid (EnvR W1) := Lib.hid (hW1 ▸ hE0.tch0 (Tch.refl W0 []).drew)
  have HT1 : Hid (Tch w W1 []) := Lib.hid (hW1 ▸ hT0.drew)
  have HW1 := Lib.hid hW1
  have x0 := (hX1.cell 0).trans (show _ = some (Value.int .i64 pr) by rfl)
  have x1 := (hX1.cell 1).trans (show _ = some (Value.int .i64 me) by rfl)
  have x2 := (hX1.cell 2).trans (show _ = some (Value.bool vs) by rfl)
  have x3 := (hX1.cell 3).trans (show _ = some (Value.int .u64 (vh : Int)) by rfl)
  have x4 := (hX1.cell 4).trans (show _ = some (Value.int .u64 (vl : Int)) by rfl)
  have x5 := (hX1.cell 5).trans (show _ = some (Value.int .i64 po) by rfl)
  have x6 := (hX1.cell 6).trans (show _ = some (Value.bool aw) by rfl)
  have y0 := (hY1.cell 0).trans (show _ = some (Value.int .i64 qr) by rfl)
  have y1 := (hY1.cell 1).trans (show _ = some (Value.int .i64 ne) by rfl)
  have y2 := (hY1.cell 2).trans (show _ = some (Value.bool us) by rfl)
  have y3 := (hY1.cell 3).trans (show _ = some (Value.int .u64 (uh : Int)) by rfl)
  have y4 := (hY1.cell 4).trans (show _ = some (Value.int .u64 (ul : Int)) by rfl)
  have y5 := (hY1.cell 5).trans (show _ = some (Value.int .i64 qo) by rfl)
  have y6 := (hY1.cell 6).trans (show _ = some (Value.bool bw) by rfl)
  have C0 := Lib.hid (pdist_any pr W1 HE1.out)
  have C1 := Lib.hid (pdist_any qr W1 HE1.out)
  have C2 := Lib.hid (cmp_i d0 d1 W1)
  have C3 := Lib.hid (cmp_i me ne W1)
  have C4 := Lib.hid (cmp_i po qo W1)
  have C5 := Lib.hid (cmpB_any vs us W1)
  have C6 := Lib.hid (cmp_u vh uh W1)
  have C7 := Lib.hid (cmp_u vl ul W1)
  have C8 := Lib.hid (cmpB_any aw bw W1)
  rw [hd0] at C0
  rw [hd1] at C1
  rw [ha0] at C2
  rw [ha1] at C3
  rw [ha2] at C4
  rw [ha3] at C5
  rw [ha4] at C6
  rw [ha5] at C7
  rw [ha6] at C8
  have HOr : Hid (Calls Tryz.prog 160 #[.slice (some ⟨W1.heap.size, 0, none⟩) 7 7] (W1.alloc (.cells #[.int .i64 a0, .int .i64 a1, .int .i64 a2, .int .i64 a3, .int .i64 a4, .int .i64 a5, .int .i64 a6] 3)) fun e w' => e = .returned (.int .i64 (orI [a0, a1, a2, a3, a4, a5, a6])) ∧ w' = W1.alloc (.cells #[.int .i64 a0, .int .i64 a1, .int .i64 a2, .int .i64 a3, .int .i64 a4, .int .i64 a5, .int .i64 a6] 3)) := Lib.hid (or_any _ 7 7 _ rfl (by decide) _ (fun j x hj => by
    rw [(Blk.new W1 3 #[.int .i64 a0, .int .i64 a1, .int .i64 a2, .int .i64 a3, .int .i64 a4, .int .i64 a5, .int .i64 a6]).cell]
    have : j < 7 := (List.getElem?_eq_some_iff.1 hj).1
    rcases (show j = 0 ∨ j = 1 ∨ j = 2 ∨ j = 3 ∨ j = 4 ∨ j = 5 ∨ j = 6 by omega) with rfl | rfl | rfl | rfl | rfl | rfl | rfl <;> (injection hj with hj; subst hj; rfl)))
  obtain ⟨o, ho⟩ : ∃ o, orI [a0, a1, a2, a3, a4, a5, a6] = o := ⟨_, rfl⟩
  rw [ho] at HOr HB
  have HFin : Hid (∀ ob, Tch w (W1.alloc ob) []) := Lib.hid (fun ob => HT1.out.alloc ob)
  have hB := HB.out
  clear ha0 ha1 ha2 ha3 ha4 ha5 ha6 hd0 hd1 hX hY hT0 hE0 hE hX1 hY1 ho HE1 HT0 HB hW1
  go_enter Tryz.func124, Tryz.ntmps124
  go_wp2_with fail
  refine wp_region_still_tail 43 (by kernel_rfl) (by kernel_rfl) ?_
  rw [show ({ W0 with drawn := W0.drawn + 1 } : World) = W1 from HW1.out]
  simp only [List.take_succ_cons, List.take_zero, List.drop_succ_cons, List.drop_zero]
  repeat still_step
  still_call C0.out
  repeat still_step
  still_call C1.out
  repeat still_step
  still_call C2.out
  repeat still_step
  still_call C3.out
  repeat still_step
  still_call C4.out
  repeat still_step
  still_call C5.out
  repeat still_step
  still_call C6.out
  repeat still_step
  still_call C7.out
  repeat still_step
  still_call C8.out
  refine wpStill_nil ?_
  go_wp2_with fail
  refine Calls.mono HOr.out ?_
  rintro e w' ⟨rfl, rfl⟩
  subst hB
  go_wp2
  go_ret
  exact ⟨rfl, HFin.out _⟩
end Go.Proofs.YtgfkmgbcajdcdaaGreatDoor
