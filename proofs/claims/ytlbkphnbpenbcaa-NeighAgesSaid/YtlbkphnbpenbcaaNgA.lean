/-
  The program's own cache of neighbours (layer 19): a map by ports and addresses, each entry with a row of packets of its own: how it lies in memory.
-/
import Derived.Test.YtlbkphnbpenbcaaNgN
import Derived.Test.YtlbkphnbpenbcaaMpi
namespace Go.Proofs.Ytlbkphnbpenbcaa
open Go.RowKit
set_option linter.unusedVariables false

abbrev adV (a : AdR) : Value := .agg #[.bool a.1, .int .u64 (a.2.1 : Int), .int .u64 (a.2.2 : Int)]
abbrev kyV (k : KyI) : Value := .agg #[.int .i64 k.1, .bool k.2.1, .int .u64 (k.2.2.1 : Int), .int .u64 (k.2.2.2 : Int)]
abbrev kyC (k : KyI) : List Value := [.int .i64 k.1, .bool k.2.1, .int .u64 (k.2.2.1 : Int), .int .u64 (k.2.2.2 : Int)]
abbrev acV (a : AcI) : Value := .agg #[.int .i64 a.kind, .int .i64 a.key.1, .bool a.key.2.1, .int .u64 (a.key.2.2.1 : Int), .int .u64 (a.key.2.2.2 : Int), .int .u64 a.mac, .string a.pkt]
def acC (a : AcI) : List Value := [.int .i64 a.kind, .int .i64 a.key.1, .bool a.key.2.1, .int .u64 (a.key.2.2.1 : Int), .int .u64 (a.key.2.2.2 : Int), .int .u64 a.mac, .string a.pkt]
abbrev strC (p : ByteArray) : Value := .string p
abbrev enV (e : EnI) (A : Option Addr) (n c : Nat) : Value := .agg #[.int .i64 e.st, .int .u64 e.mac, .int .i64 e.lft, .int .i64 e.ask, .slice A n c]
theorem acC_len (a : AcI) : (acC a).length = 7 := rfl
theorem acC_one (a : AcI) : ∀ u ∈ acC a, u.oneCell' = true := by
  intro u hu
  unfold acC at hu
  simp at hu
  rcases hu with rfl | rfl | rfl | rfl | rfl | rfl | rfl <;> rfl
theorem chkA (b : Bool) (n : Nat) (s : Bool) (h l : Int) (W : World) : (Instr.checkKey b (n + 2) 30 (.agg #[.bool s, .int .u64 h, .int .u64 l])).run Try.prog W = .ok () W := by
  have u0 := fun W => run_underlying Try.underlying30 W
  have u1 := fun W => run_underlying Try.underlying4 W
  have u2 := fun W => run_underlying Try.underlying28 W
  unfold Instr.checkKey
  go_simp
  simp [Instr.checkKey]
theorem chkK0 (b : Bool) (n : Nat) (p : Int) (s : Bool) (h l : Int) (W : World) : (Instr.checkKey b (n + 3) 70 (.agg #[.int .i64 p, .bool s, .int .u64 h, .int .u64 l])).run Try.prog W = .ok () W := by
  have u0 := fun W => run_underlying Try.underlying70 W
  have u1 := fun W => run_underlying Try.underlying3 W
  have hA := fun W => chkA b n s h l W
  unfold Instr.checkKey
  go_simp
  simp [Instr.checkKey]
set_option maxRecDepth 100000 in
theorem chkK (b : Bool) (k : KyI) (W : World) : (Instr.checkKey b 10000 70 (kyV k)).run Try.prog W = .ok () W := by
  obtain ⟨p, s, h, l⟩ := k
  exact chkK0 b 9997 p s h l W
set_option maxHeartbeats 1000000 in
theorem eq_ky0 (p : Int) (s : Bool) (h l : Int) (p' : Int) (s' : Bool) (h' l' : Int) (W : World) : (Op.equalIn 10000 70 (.agg #[.int .i64 p, .bool s, .int .u64 h, .int .u64 l]) (.agg #[.int .i64 p', .bool s', .int .u64 h', .int .u64 l'])).run Try.prog W = .ok (decide (p = p' ∧ s = s' ∧ h = h' ∧ l = l')) W := by
  by_cases h1 : p = p'
  · subst h1
    by_cases h2 : s = s'
    · subst h2
      by_cases h3 : h = h'
      · subst h3
        by_cases h4 : l = l'
        · subst h4
          rw [show decide (p = p ∧ s = s ∧ h = h ∧ l = l) = true by simp]
          go_simp
        · rw [show decide (p = p ∧ s = s ∧ h = h ∧ l = l') = false by simp [h4]]
          go_simp
      · rw [show decide (p = p ∧ s = s ∧ h = h' ∧ l = l') = false by simp [h3]]
        go_simp
    · rw [show decide (p = p ∧ s = s' ∧ h = h' ∧ l = l') = false by simp [h2]]
      go_simp
  · rw [show decide (p = p' ∧ s = s' ∧ h = h' ∧ l = l') = false by simp [h1]]
    go_simp
theorem eq_kyV (k q : KyI) (W : World) : (Op.equalIn 10000 70 (kyV k) (kyV q)).run Try.prog W = .ok (decide (k = q)) W := by
  rw [eq_ky0]
  obtain ⟨p, s, h, l⟩ := k
  obtain ⟨p', s', h', l'⟩ := q
  congr 2
  simp [Prod.ext_iff]
  intro _ _
  omega
set_option maxRecDepth 100000 in
theorem run_askingK (p : KyI) (W : World) : ∀ (es : List MapEntry) (M : List (KyI × Value)) (i : Nat), es.map (fun e => (e.key, e.val)) = M.map (fun x => (kyV x.1, x.2)) → (Instr.findAsking 70 (kyV p) es i).run Try.prog W = .ok (mpG p M i) W
  | [], [], i, _ => by simp [Instr.findAsking, mpG]
  | [], _ :: _, i, h => by simp at h
  | _ :: _, [], i, h => by simp at h
  | e :: es, x :: M, i, h => by
    rw [List.map_cons, List.map_cons] at h
    injection h with h1 h2
    injection h1 with h1 h3
    unfold Instr.findAsking mpG
    rw [h1, h3]
    have he : (Op.equal 70 (kyV p) (kyV x.1)).run Try.prog W = .ok (decide (p = x.1)) W := eq_kyV p x.1 W
    simp only [Sem.run_bind, he, Result.andThen]
    by_cases hp : p = x.1
    · simp [hp]
    · simp [hp, run_askingK p W es M (i + 1) h2]
theorem run_findK (p : KyI) (W : World) (es : List MapEntry) (M : List (KyI × Value)) (h : es.map (fun e => (e.key, e.val)) = M.map (fun x => (kyV x.1, x.2))) : (Instr.findKey 70 (kyV p) es).run Try.prog W = .ok (mpG p M 0) W := by
  cases es with
  | nil =>
    cases M with
    | nil => simp [Instr.findKey, run_underlying Try.underlying70, Instr.findNow, mpG, Result.andThen]
    | cons x M => simp at h
  | cons e es =>
    have ha := run_askingK p W (e :: es) M 0 h
    simp [Instr.findKey, run_underlying Try.underlying70, Instr.findNow, Instr.sameNow, Result.andThen, ha]
theorem kyV_inj {k q : KyI} (h : kyV k = kyV q) : k = q := by
  obtain ⟨p, s, a, b⟩ := k
  obtain ⟨p', s', a', b'⟩ := q
  simp at h
  obtain ⟨h1, h2, h3, h4⟩ := h
  simp [Prod.ext_iff, h1, h2]
  omega
theorem keyK_F : KeyF (κ := KyI) 70 (fun k => kyV k) mpG where
  inj := fun h => kyV_inj h
  find := fun p W es M h => run_findK p W es M h
  chk := fun b x W => chkK b x W
  same := fun x => by simp [Instr.sameBits]
abbrev zEn : Value := .agg #[.int .i64 0, .int .u64 0, .int .i64 0, .int .i64 0, .slice none 0 0]
theorem zeroEn (w : World) : (zeroValue 68).run Try.prog w = .ok zEn w := by kernel_rfl
/-- The row of an entry's packets. -/
def wtB (v : Value) : List Nat := match v with
  | .agg cs => obI (cs.getD 4 (.slice none 0 0))
  | _ => []
theorem wtB_en (e : EnI) (A : Option Addr) (n c : Nat) : wtB (enV e A n c) = obI (.slice A n c) := rfl
def EnW (w : World) (e : EnI) (v : Value) : Prop := ∃ A c, v = enV e A e.wts.length c ∧ w.ownsRow 0 9 1 (.slice A e.wts.length c) e.wts.length (e.wts.map strC)
theorem EnW.tch {w w' : World} {T : List Nat} {e : EnI} {v : Value} (h : EnW w e v) (ht : Tch w w' T) (hn : ∀ s ∈ wtB v, s ∉ T) : EnW w' e v := by
  obtain ⟨A, c, rfl, ho⟩ := h
  exact ⟨A, c, rfl, own_tch ho ht hn⟩
theorem EnW.lts {w : World} {e : EnI} {v : Value} (h : EnW w e v) : ∀ s ∈ wtB v, s < w.heap.size := by
  obtain ⟨A, c, rfl, ho⟩ := h
  exact own_lts ho
/-- What lies in memory: t the cache's block, m the map's, M its keys with their entries. -/
structure NgM (w : World) (t m : Nat) (M : List (KyI × Value)) (S : List Nat) (L : TbI) : Prop where
  eS : S = t :: m :: (M.map Prod.snd).flatMap wtB
  nod : S.Nodup
  bt : Blk w t 63 #[.map (some m)]
  mp : MpIs (fun k => kyV k) w m M
  row : ∀ x ∈ M, ∃ e, fnd L x.1 = some e ∧ EnW w e x.2
  all : ∀ k e, fnd L k = some e → ∃ v, (k, v) ∈ M
  inv : InvT L
/-- The program's cache, with its blocks S. -/
def NgP (w : World) (t : Nat) (S : List Nat) (L : TbI) : Prop := ∃ m M, NgM w t m M S L
theorem wtB_nodup (v : Value) : (wtB v).Nodup := by
  unfold wtB
  split
  · exact obI_nodup _
  · exact List.nodup_nil
theorem wflat_set2 {lv : List Value} {v0 v : Value} {B i : Nat} (h : (lv.flatMap wtB).Nodup) (hi : lv[i]? = some v0) (hlt : ∀ s ∈ lv.flatMap wtB, s < B) (hv : ∀ s ∈ wtB v, s ∈ wtB v0 ∨ B ≤ s) : ((lv.set i v).flatMap wtB).Nodup ∧ ∀ s ∈ (lv.set i v).flatMap wtB, s ∈ lv.flatMap wtB ∨ B ≤ s := by
  induction lv generalizing i with
  | nil => simp at hi
  | cons y r ih =>
    rw [List.flatMap_cons, List.nodup_append] at h
    rw [List.flatMap_cons] at hlt
    obtain ⟨h1, h2, h3⟩ := h
    cases i with
    | zero =>
      simp at hi
      subst hi
      rw [List.set_cons_zero, List.flatMap_cons, List.flatMap_cons, List.nodup_append]
      refine ⟨⟨wtB_nodup v, h2, fun a ha b hb e => ?_⟩, fun s hs => ?_⟩
      · rcases hv a ha with h4 | h4
        · exact h3 a h4 b hb e
        · have := hlt b (List.mem_append_right _ hb)
          omega
      · rcases List.mem_append.1 hs with h4 | h4
        · rcases hv s h4 with h5 | h5
          · exact .inl (List.mem_append_left _ h5)
          · exact .inr h5
        · exact .inl (List.mem_append_right _ h4)
    | succ i =>
      obtain ⟨k1, k2⟩ := ih (i := i) h2 (by simpa using hi) (fun s hs => hlt s (List.mem_append_right _ hs))
      rw [List.set_cons_succ, List.flatMap_cons, List.flatMap_cons, List.nodup_append]
      refine ⟨⟨h1, k1, fun a ha b hb e => ?_⟩, fun s hs => ?_⟩
      · rcases k2 b hb with h4 | h4
        · exact h3 a ha b h4 e
        · have := hlt a (List.mem_append_left _ ha)
          omega
      · rcases List.mem_append.1 hs with h4 | h4
        · exact .inl (List.mem_append_left _ h4)
        · rcases k2 s h4 with h5 | h5
          · exact .inl (List.mem_append_right _ h5)
          · exact .inr h5
theorem wflat_disj {lv : List Value} (h : (lv.flatMap wtB).Nodup) {i j : Nat} {v u : Value} (hi : lv[i]? = some v) (hj : lv[j]? = some u) (hne : i ≠ j) : ∀ s ∈ wtB u, s ∉ wtB v := by
  induction lv generalizing i j with
  | nil => simp at hi
  | cons y r ih =>
    rw [List.flatMap_cons, List.nodup_append] at h
    obtain ⟨h1, h2, h3⟩ := h
    cases i with
    | zero =>
      cases j with
      | zero => exact absurd rfl hne
      | succ j =>
        simp at hi hj
        subst hi
        intro s hs hs2
        exact h3 s hs2 s (List.mem_flatMap.2 ⟨u, List.mem_of_getElem? hj, hs⟩) rfl
    | succ i =>
      cases j with
      | zero =>
        simp at hi hj
        subst hj
        intro s hs hs2
        exact h3 s hs s (List.mem_flatMap.2 ⟨v, List.mem_of_getElem? hi, hs2⟩) rfl
      | succ j => exact ih h2 (by simpa using hi) (by simpa using hj) (by omega)
theorem sub_flat {α β : Type} {f : α → List β} {l m : List α} (h : l.Sublist m) : (l.flatMap f).Sublist (m.flatMap f) := by
  induction h with
  | slnil => exact List.Sublist.refl _
  | cons x _ ih => rw [List.flatMap_cons]; exact ih.trans (List.sublist_append_right _ _)
  | cons_cons x _ ih => rw [List.flatMap_cons, List.flatMap_cons]; exact (List.Sublist.refl _).append ih
section
variable {w w' : World} {t m : Nat} {M : List (KyI × Value)} {S T : List Nat} {L L' : TbI} {p : KyI}
theorem NgM.lt (h : NgM w t m M S L) : ∀ s ∈ S, s < w.heap.size := by
  intro s hs
  rw [h.eS] at hs
  rcases List.mem_cons.1 hs with e | e
  · rw [e]; exact h.bt.lt
  rcases List.mem_cons.1 e with e | e
  · rw [e]; exact h.mp.lt
  obtain ⟨v, hv, hs⟩ := List.mem_flatMap.1 e
  obtain ⟨x, hx, rfl⟩ := List.mem_map.1 hv
  obtain ⟨e, -, he⟩ := h.row x hx
  exact he.lts s hs
theorem NgM.tch (h : NgM w t m M S L) (ht : Tch w w' T) (hn : ∀ s ∈ S, s ∉ T) : NgM w' t m M S L := by
  refine ⟨h.eS, h.nod, ht.blk h.bt (hn t (by rw [h.eS]; simp)), h.mp.tch ht (hn m (by rw [h.eS]; simp)), fun x hx => ?_, h.all, h.inv⟩
  obtain ⟨e, h1, h2⟩ := h.row x hx
  refine ⟨e, h1, h2.tch ht (fun s hs => hn s ?_)⟩
  rw [h.eS]
  exact List.mem_cons_of_mem _ (List.mem_cons_of_mem _ (List.mem_flatMap.2 ⟨_, List.mem_map.2 ⟨x, hx, rfl⟩, hs⟩))
theorem NgP.inv (h : NgP w t S L) : InvT L := by obtain ⟨m, M, h⟩ := h; exact h.inv
theorem NgP.lt (h : NgP w t S L) : ∀ s ∈ S, s < w.heap.size := by obtain ⟨m, M, h⟩ := h; exact h.lt
theorem NgP.tch (h : NgP w t S L) (ht : Tch w w' T) (hn : ∀ s ∈ S, s ∉ T) : NgP w' t S L := by obtain ⟨m, M, h⟩ := h; exact ⟨m, M, h.tch ht hn⟩
theorem NgM.nd (h : NgM w t m M S L) : (t ≠ m ∧ t ∉ (M.map Prod.snd).flatMap wtB) ∧ m ∉ (M.map Prod.snd).flatMap wtB ∧ ((M.map Prod.snd).flatMap wtB).Nodup := by
  have hn := h.nod
  rw [h.eS, List.nodup_cons, List.nodup_cons] at hn
  exact ⟨⟨fun e => hn.1 (by simp [e]), fun e => hn.1 (List.mem_cons_of_mem _ e)⟩, hn.2.1, hn.2.2⟩
/-- What a look-up finds. -/
theorem NgM.at_ (h : NgM w t m M S L) (p : KyI) : (fnd L p = none ∧ mpV M p zEn = zEn) ∨ ∃ e, fnd L p = some e ∧ EnW w e (mpV M p zEn) := by
  unfold mpV
  cases hg : mpG p M 0 with
  | none =>
    left
    refine ⟨?_, rfl⟩
    cases hf : fnd L p with
    | none => rfl
    | some e =>
      obtain ⟨v, hv⟩ := h.all p e hf
      exact absurd rfl (mpG_none.1 hg _ hv)
  | some a =>
    obtain ⟨j, v⟩ := a
    obtain ⟨q, e, hq⟩ := mpG_some hg
    exact .inr (h.row (p, v) (List.mem_of_getElem? hq))
abbrev zE : EnI := ⟨0, 0, 0, 0, []⟩
def gtE (L : TbI) (p : KyI) : EnI := (fnd L p).getD zE
theorem NgM.at2 (h : NgM w t m M S L) (p : KyI) : EnW w (gtE L p) (mpV M p zEn) := by
  unfold gtE
  rcases h.at_ p with ⟨h1, h2⟩ | ⟨e, h1, h2⟩
  · rw [h1, h2]
    exact ⟨none, 0, rfl, ⟨rfl, .inl ⟨rfl, rfl⟩⟩⟩
  · rw [h1]; exact h2
theorem NgM.look (h : NgM w t m M S L) (p : KyI) : (Instr.lookup 61 (.map (some m)) (kyV p) false).run Try.prog w = .ok (mpV M p zEn) w :=
  h.mp.lookup keyK_F Try.underlying61 (zeroEn w) p
theorem NgM.sub_ (h : NgM w t m M S L) (p : KyI) : ∀ s ∈ wtB (mpV M p zEn), s ∈ S ∧ s ≠ t ∧ s ≠ m := by
  intro s hs
  unfold mpV at hs
  cases hg : mpG p M 0 with
  | none => rw [hg] at hs; cases hs
  | some a =>
    obtain ⟨j, v⟩ := a
    rw [hg] at hs
    obtain ⟨q, e, hq⟩ := mpG_some hg
    have hm : s ∈ (M.map Prod.snd).flatMap wtB := List.mem_flatMap.2 ⟨v, List.mem_map.2 ⟨_, List.mem_of_getElem? hq, rfl⟩, hs⟩
    obtain ⟨n1, n2, n3⟩ := h.nd
    exact ⟨by rw [h.eS]; exact List.mem_cons_of_mem _ (List.mem_cons_of_mem _ hm), fun e => n1.2 (by rw [← e]; exact hm), fun e => n2 (by rw [← e]; exact hm)⟩
theorem NgM.uniq (h : NgM w t m M S L) {i j : Nat} {x y : KyI × Value} (hi : M[i]? = some x) (hj : M[j]? = some y) (he : x.1 = y.1) : i = j := by
  have li := (List.getElem?_eq_some_iff.1 hi).1
  have ei := (List.getElem?_eq_some_iff.1 hi).2
  have lj := (List.getElem?_eq_some_iff.1 hj).1
  have ej := (List.getElem?_eq_some_iff.1 hj).2
  have hp := List.pairwise_iff_getElem.1 h.mp.nodup
  rcases Nat.lt_trichotomy i j with hlt | heq | hgt
  · exact absurd (show (M.map Prod.fst)[i]'(by simpa using li) = (M.map Prod.fst)[j]'(by simpa using lj) by simp [ei, ej, he]) (hp i j (by simpa using li) (by simpa using lj) hlt)
  · exact heq
  · exact absurd (show (M.map Prod.fst)[j]'(by simpa using lj) = (M.map Prod.fst)[i]'(by simpa using li) by simp [ei, ej, he]) (hp j i (by simpa using lj) (by simpa using li) hgt)
/-- What one row's block touches no other row. -/
theorem NgM.apart (h : NgM w t m M S L) {x : KyI × Value} (hx : x ∈ M) (hne : ¬ x.1 = p) : ∀ s ∈ wtB x.2, s ∉ wtB (mpV M p zEn) := by
  intro s hs hm
  unfold mpV at hm
  cases hg : mpG p M 0 with
  | none => rw [hg] at hm; cases hm
  | some a =>
    obtain ⟨j, v⟩ := a
    rw [hg] at hm
    obtain ⟨q, e, hq⟩ := mpG_some hg
    obtain ⟨i, hi⟩ := List.mem_iff_getElem?.1 hx
    have hij : q ≠ i := fun e => hne (by
      subst e
      rw [hi] at hq
      injection hq with hq
      rw [hq])
    exact wflat_disj h.nd.2.2 (i := q) (j := i) (v := v) (u := x.2) (by rw [List.getElem?_map, hq]; rfl) (by rw [List.getElem?_map, hi]; rfl) hij s hs hm
theorem mpPut_mem {x : KyI × Value} {v : Value} (h : x ∈ mpPut M p v) : x = (p, v) ∨ x ∈ M := by
  unfold mpPut at h
  split at h
  · exact (List.mem_or_eq_of_mem_set h).symm
  · rcases List.mem_append.1 h with h | h
    · exact .inr h
    · exact .inl (List.mem_singleton.1 h)
/-- What is left when an entry is set anew. -/
theorem NgM.set_S {W W' : World} {v : Value} {e : EnI} (h : NgM w t m M S L) (hT : Tch w W (wtB (mpV M p zEn))) (hv : EnW W e v) (hf : ∀ s ∈ wtB v, s ∈ wtB (mpV M p zEn) ∨ w.heap.size ≤ s) (hI : InvT (putT L p e)) (hM : MpIs (fun k => kyV k) W' m (mpPut M p v)) (hT2 : Tch W W' [m]) :
    NgM W' t m (mpPut M p v) (t :: m :: ((mpPut M p v).map Prod.snd).flatMap wtB) (putT L p e) ∧ Goes w W' S (t :: m :: ((mpPut M p v).map Prod.snd).flatMap wtB) := by
  obtain ⟨⟨n0, n1⟩, n2, n3⟩ := h.nd
  have hlt : ∀ s ∈ (M.map Prod.snd).flatMap wtB, s < w.heap.size := fun s hs => h.lt s (by rw [h.eS]; exact List.mem_cons_of_mem _ (List.mem_cons_of_mem _ hs))
  have ht := h.lt t (by rw [h.eS]; simp)
  have hm := h.lt m (by rw [h.eS]; simp)
  have hk : (((mpPut M p v).map Prod.snd).flatMap wtB).Nodup ∧ ∀ s ∈ ((mpPut M p v).map Prod.snd).flatMap wtB, s ∈ (M.map Prod.snd).flatMap wtB ∨ w.heap.size ≤ s := by
    unfold mpPut
    unfold mpV at hf
    cases hg : mpG p M 0 with
    | none =>
      rw [hg] at hf
      simp only
      rw [List.map_append, List.flatMap_append, List.nodup_append]
      have e1 : ∀ s ∈ ([(p, v)].map Prod.snd).flatMap wtB, s ∈ wtB v := fun s hs => by simpa using hs
      have e2 : ∀ s ∈ wtB v, w.heap.size ≤ s := fun s hs => (hf s hs).resolve_left (by simp [wtB, obI, Value.ownBlock])
      refine ⟨⟨n3, by simpa using wtB_nodup v, fun a ha b hb e => ?_⟩, fun s hs => ?_⟩
      · have := hlt a ha; have := e2 b (e1 b hb); omega
      · rcases List.mem_append.1 hs with k | k
        · exact .inl k
        · exact .inr (e2 s (e1 s k))
    | some a =>
      obtain ⟨j, u⟩ := a
      rw [hg] at hf
      obtain ⟨q, e, hjq⟩ := mpG_some hg
      obtain rfl : j = q := by omega
      simp only
      rw [List.map_set]
      exact wflat_set2 n3 (i := j) (v0 := u) (by rw [List.getElem?_map, hjq]; rfl) hlt hf
  refine ⟨⟨rfl, ?_, ?_, hM, ?_, ?_, hI⟩, ⟨?_, ?_⟩⟩
  · rw [List.nodup_cons, List.nodup_cons]
    refine ⟨fun hc => ?_, fun hc => ?_, hk.1⟩
    · rcases List.mem_cons.1 hc with e | e
      · exact n0 e
      · rcases hk.2 t e with e | e
        · exact n1 e
        · omega
    · rcases hk.2 m hc with e | e
      · exact n2 e
      · omega
  · refine hT2.blk (hT.blk h.bt (fun hc => (h.sub_ p t hc).2.1 rfl)) (fun hc => n0 (List.mem_singleton.1 hc))
  · have hrow : ∀ x ∈ M, ¬ x.1 = p → ∃ e', fnd (putT L p e) x.1 = some e' ∧ EnW W' e' x.2 := fun x hx hne => by
      obtain ⟨e', r1, r2⟩ := h.row x hx
      refine ⟨e', by rw [fnd_put, if_neg hne]; exact r1, (r2.tch hT (h.apart hx hne)).tch hT2 (fun s hs hc => ?_)⟩
      rw [List.mem_singleton.1 hc] at hs
      exact n2 (List.mem_flatMap.2 ⟨_, List.mem_map.2 ⟨x, hx, rfl⟩, hs⟩)
    have hnew : ∃ e', fnd (putT L p e) p = some e' ∧ EnW W' e' v := ⟨e, by rw [fnd_put, if_pos rfl], hv.tch hT2 (fun s hs hc => by
      rw [List.mem_singleton.1 hc] at hs
      rcases hf m hs with e | e
      · exact (h.sub_ p m e).2.2 rfl
      · omega)⟩
    intro x hx
    by_cases hxp : x = (p, v)
    · rw [hxp]; exact hnew
    · unfold mpPut at hx
      cases hg : mpG p M 0 with
      | none =>
        rw [hg] at hx
        rcases List.mem_append.1 hx with e | e
        · exact hrow x e (fun e1 => mpG_none.1 hg x e e1)
        · exact absurd (List.mem_singleton.1 e) hxp
      | some a =>
        obtain ⟨j, u⟩ := a
        rw [hg] at hx
        simp only at hx
        obtain ⟨i, hi⟩ := List.mem_iff_getElem?.1 hx
        rw [List.getElem?_set] at hi
        obtain ⟨q, e, hjq⟩ := mpG_some hg
        obtain rfl : j = q := by omega
        by_cases hji : j = i
        · rw [if_pos hji] at hi
          split at hi
          · injection hi with hi; exact absurd hi.symm hxp
          · cases hi
        · rw [if_neg hji] at hi
          exact hrow x (List.mem_of_getElem? hi) (fun e1 => hji (h.uniq hjq hi e1.symm))
  · intro q e' hq0
    by_cases hqp : q = p
    · subst hqp
      unfold mpPut
      cases hg : mpG q M 0 with
      | none => exact ⟨v, by simp⟩
      | some a =>
        obtain ⟨j, u⟩ := a
        obtain ⟨q', e, hjq⟩ := mpG_some hg
        obtain rfl : j = q' := by omega
        exact ⟨v, by simp only; exact List.mem_of_getElem? (i := j) (by rw [List.getElem?_set, if_pos rfl, if_pos (List.getElem?_eq_some_iff.1 hjq).1])⟩
    · rw [fnd_put, if_neg hqp] at hq0
      obtain ⟨u, hu⟩ := h.all q e' hq0
      unfold mpPut
      cases hg : mpG p M 0 with
      | none => exact ⟨u, List.mem_append_left _ hu⟩
      | some a =>
        obtain ⟨j, u'⟩ := a
        obtain ⟨q', e', hjq⟩ := mpG_some hg
        obtain rfl : j = q' := by omega
        obtain ⟨i, hi⟩ := List.mem_iff_getElem?.1 hu
        have hji : ¬ j = i := fun e1 => hqp (by rw [e1, hi] at hjq; injection hjq with hjq; injection hjq)
        exact ⟨u, by simp only; exact List.mem_of_getElem? (i := i) (by rw [List.getElem?_set, if_neg hji]; exact hi)⟩
  · refine (hT.mono fun s hs => (h.sub_ p s hs).1).trans_fre hT2 (fun s hs => .inl (by rw [List.mem_singleton.1 hs, h.eS]; simp))
  · intro s hs
    rcases List.mem_cons.1 hs with e | e
    · exact .inl (by rw [e, h.eS]; simp)
    rcases List.mem_cons.1 e with e | e
    · exact .inl (by rw [e, h.eS]; simp)
    rcases hk.2 s e with e | e
    · exact .inl (by rw [h.eS]; exact List.mem_cons_of_mem _ (List.mem_cons_of_mem _ e))
    · exact .inr e
theorem NgM.set_ {W W' : World} {v : Value} {e : EnI} (h : NgM w t m M S L) (hT : Tch w W (wtB (mpV M p zEn))) (hv : EnW W e v) (hf : ∀ s ∈ wtB v, s ∈ wtB (mpV M p zEn) ∨ w.heap.size ≤ s) (hI : InvT (putT L p e)) (hM : MpIs (fun k => kyV k) W' m (mpPut M p v)) (hT2 : Tch W W' [m]) :
    ∃ S', NgP W' t S' (putT L p e) ∧ Goes w W' S S' := ⟨_, ⟨m, _, (h.set_S hT hv hf hI hM hT2).1⟩, (h.set_S hT hv hf hI hM hT2).2⟩
/-- An entry set anew, without packets: the row that the elder one had is no longer the cache's. -/
theorem NgM.set_f {W W' : World} {v : Value} {e : EnI} (h : NgM w t m M S L) (hT : Tch w W (wtB (mpV M p zEn))) (hv : EnW W e v) (hf : wtB v = []) (hI : InvT (putT L p e)) (hM : MpIs (fun k => kyV k) W' m (mpPut M p v)) (hT2 : Tch W W' [m]) :
    ∃ S', NgP W' t S' (putT L p e) ∧ Goes w W' S S' ∧ (∀ s ∈ S', s ∈ S) ∧ ∀ s ∈ wtB (mpV M p zEn), s ∉ S' := by
  obtain ⟨h1, h2⟩ := h.set_S hT hv (by rw [hf]; simp) hI hM hT2
  refine ⟨_, ⟨m, _, h1⟩, h2, fun s hs => ?_, fun s hs hc => ?_⟩
  · rcases List.mem_cons.1 hs with e1 | e1
    · rw [e1, h.eS]; simp
    rcases List.mem_cons.1 e1 with e1 | e1
    · rw [e1, h.eS]; simp
    obtain ⟨y, hy, hsy⟩ := List.mem_flatMap.1 e1
    obtain ⟨x, hx, rfl⟩ := List.mem_map.1 hy
    rcases mpPut_mem hx with e2 | e2
    · rw [e2] at hsy
      simp only at hsy
      rw [hf] at hsy; cases hsy
    · rw [h.eS]
      exact List.mem_cons_of_mem _ (List.mem_cons_of_mem _ (List.mem_flatMap.2 ⟨_, List.mem_map.2 ⟨x, e2, rfl⟩, hsy⟩))
  obtain ⟨a1, a2, a3⟩ := h.sub_ p s hs
  rcases List.mem_cons.1 hc with e1 | e1
  · exact a2 e1
  rcases List.mem_cons.1 e1 with e1 | e1
  · exact a3 e1
  unfold mpV at hs
  unfold mpPut at e1
  cases hg : mpG p M 0 with
  | none => rw [hg] at hs; cases hs
  | some a =>
    obtain ⟨j, u⟩ := a
    rw [hg] at hs e1
    obtain ⟨q, e, hjq⟩ := mpG_some hg
    obtain rfl : j = q := by omega
    simp only at hs e1
    obtain ⟨y, hy, hsy⟩ := List.mem_flatMap.1 e1
    obtain ⟨x, hx, rfl⟩ := List.mem_map.1 hy
    obtain ⟨i, hi⟩ := List.mem_iff_getElem?.1 hx
    rw [List.getElem?_set] at hi
    by_cases hji : j = i
    · rw [if_pos hji] at hi
      split at hi
      · injection hi with hi
        rw [← hi] at hsy
        simp only at hsy
        rw [hf] at hsy; cases hsy
      · cases hi
    · rw [if_neg hji] at hi
      exact wflat_disj h.nd.2.2 (i := j) (j := i) (v := u) (u := x.2) (by rw [List.getElem?_map, hjq]; rfl) (by rw [List.getElem?_map, hi]; rfl) hji s hsy hs
/-- What is left when an entry is dropped. -/
theorem NgM.del_ {W' : World} (h : NgM w t m M S L) (hM : MpIs (fun k => kyV k) W' m (mpDel M p)) (hT2 : Tch w W' [m]) :
    ∃ S', NgP W' t S' (delT L p) ∧ Goes w W' S S' := by
  obtain ⟨⟨n0, n1⟩, n2, n3⟩ := h.nd
  have hsub : (mpDel M p).Sublist M := by
    unfold mpDel
    split
    · exact List.eraseIdx_sublist _ _
    · exact List.Sublist.refl _
  have hk : (((mpDel M p).map Prod.snd).flatMap wtB).Sublist ((M.map Prod.snd).flatMap wtB) := sub_flat (hsub.map _)
  have hne : ∀ x ∈ mpDel M p, ¬ x.1 = p := by
    intro x hx e1
    unfold mpDel at hx
    cases hg : mpG p M 0 with
    | none => rw [hg] at hx; exact mpG_none.1 hg x hx e1
    | some a =>
      obtain ⟨j, u⟩ := a
      rw [hg] at hx
      simp only at hx
      obtain ⟨q, e, hjq⟩ := mpG_some hg
      obtain rfl : j = q := by omega
      obtain ⟨i, hij, hi⟩ := List.mem_eraseIdx_iff_getElem?.1 hx
      exact hij (h.uniq hi hjq e1)
  refine ⟨t :: m :: ((mpDel M p).map Prod.snd).flatMap wtB, ⟨m, mpDel M p, rfl, ?_, ?_, hM, ?_, ?_, h.inv.del p⟩, ⟨?_, ?_⟩⟩
  · rw [List.nodup_cons, List.nodup_cons]
    refine ⟨fun hc => ?_, fun hc => n2 (hk.subset hc), n3.sublist hk⟩
    rcases List.mem_cons.1 hc with e | e
    · exact n0 e
    · exact n1 (hk.subset e)
  · exact hT2.blk h.bt (fun hc => n0 (List.mem_singleton.1 hc))
  · intro x hx
    have hxM := hsub.subset hx
    obtain ⟨e, r1, r2⟩ := h.row x hxM
    refine ⟨e, by rw [fnd_del, if_neg (hne x hx)]; exact r1, r2.tch hT2 (fun s hs hc => ?_)⟩
    rw [List.mem_singleton.1 hc] at hs
    exact n2 (List.mem_flatMap.2 ⟨_, List.mem_map.2 ⟨x, hxM, rfl⟩, hs⟩)
  · intro q e hq0
    rw [fnd_del] at hq0
    by_cases hqp : q = p
    · rw [if_pos hqp] at hq0; cases hq0
    · rw [if_neg hqp] at hq0
      obtain ⟨u, hu⟩ := h.all q e hq0
      unfold mpDel
      cases hg : mpG p M 0 with
      | none => exact ⟨u, hu⟩
      | some a =>
        obtain ⟨j, u'⟩ := a
        obtain ⟨q', e', hjq⟩ := mpG_some hg
        obtain rfl : j = q' := by omega
        obtain ⟨i, hi⟩ := List.mem_iff_getElem?.1 hu
        have hji : ¬ i = j := fun e1 => hqp (by rw [← e1, hi] at hjq; injection hjq with hjq; injection hjq)
        exact ⟨u, List.mem_eraseIdx_iff_getElem?.2 ⟨i, hji, hi⟩⟩
  · exact hT2.mono (fun s hs => by rw [List.mem_singleton.1 hs, h.eS]; simp)
  · intro s hs
    rcases List.mem_cons.1 hs with e | e
    · exact .inl (by rw [e, h.eS]; simp)
    rcases List.mem_cons.1 e with e | e
    · exact .inl (by rw [e, h.eS]; simp)
    exact .inl (by rw [h.eS]; exact List.mem_cons_of_mem _ (List.mem_cons_of_mem _ (hk.subset e)))
/-- How many there are; which. -/
theorem NgM.keys (h : NgM w t m M S L) : (M.map Prod.fst).Perm (L.map Prod.fst) := by
  refine (List.perm_ext_iff_of_nodup h.mp.nodup h.inv.nodup).2 fun k => ?_
  constructor
  · intro hk
    obtain ⟨x, hx, rfl⟩ := List.mem_map.1 hk
    obtain ⟨e, he, -⟩ := h.row x hx
    exact List.mem_map.2 ⟨_, fnd_mem he, rfl⟩
  · intro hk
    obtain ⟨x, hx, rfl⟩ := List.mem_map.1 hk
    obtain ⟨v, hv⟩ := h.all x.1 x.2 ((fnd_iff h.inv).2 hx)
    exact List.mem_map.2 ⟨_, hv, rfl⟩
theorem NgM.len (h : NgM w t m M S L) : M.length = L.length := by
  have := h.keys.length_eq
  simpa using this
end
end Go.Proofs.Ytlbkphnbpenbcaa
