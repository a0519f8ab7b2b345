/-
  Timers, plainly (layer 17): what is due, what is let go, how long it takes, which is the next; in slots as in one row.
-/
import Derived.Test.YthkjfgegmbdebaaWhN
namespace Go.Proofs.Ythkjfgegmbdebaa
open Go.RowKit
set_option linter.unusedVariables false

theorem inc_eq : ∀ {l m : List TmI}, (l.Pairwise fun x y => x.2.2 < y.2.2) → (m.Pairwise fun x y => x.2.2 < y.2.2) → (∀ x, x ∈ l ↔ x ∈ m) → l = m
  | [], [], _, _, _ => rfl
  | [], y :: m, _, _, h => by have := (h y).2 (by simp); simp at this
  | x :: l, [], _, _, h => by have := (h x).1 (by simp); simp at this
  | x :: l, y :: m, h1, h2, h => by
    rw [List.pairwise_cons] at h1 h2
    have exy : x = y := by
      have a := (h x).1 (by simp)
      have b := (h y).2 (by simp)
      rcases List.mem_cons.1 a with a | a
      · exact a
      · rcases List.mem_cons.1 b with b | b
        · exact b.symm
        · have c := h2.1 x a
          have d := h1.1 y b
          omega
    subst exy
    congr 1
    refine inc_eq h1.2 h2.2 fun z => ?_
    constructor
    · intro hz
      rcases List.mem_cons.1 ((h z).1 (by simp [hz])) with e | e
      · subst e; have := h1.1 z hz; omega
      · exact e
    · intro hz
      rcases List.mem_cons.1 ((h z).2 (by simp [hz])) with e | e
      · subst e; have := h2.1 z hz; omega
      · exact e
section
variable {t : Nat} {ll : List (List TmI)} {M : List (Int × Value)} {L : List TmI}
theorem InvC.lt (h : InvC 3 t ll [] M L) {k : Nat} {l : List TmI} (hl : ll[k]? = some l) : k < 48 := by have := (List.getElem?_eq_some_iff.1 hl).1; have := h.len; omega
theorem InvC.inL (h : InvC 3 t ll [] M L) {k : Nat} {l : List TmI} (hl : ll[k]? = some l) {x : TmI} (hx : x ∈ l) : x ∈ L := (h.mem x).2 (.inr ⟨k, l, hl, hx⟩)
theorem InvC.at_ (h : InvC 3 t ll [] M L) {x : TmI} (hx : x ∈ L) : ∃ (k : Nat) (l : List TmI) (i : Nat), ll[k]? = some l ∧ l[i]? = some x := by
  rcases (h.mem x).1 hx with h1 | ⟨k, l, hl, h1⟩
  · simp at h1
  · obtain ⟨i, hi⟩ := List.mem_iff_getElem?.1 h1
    exact ⟨k, l, i, hl, hi⟩
/-- What lies in the slot of now is what is due now. -/
theorem InvC.due_iff (h : InvC 3 t ll [] M L) {l : List TmI} (hl : ll[t % 16]? = some l) (x : TmI) : x ∈ l ↔ x ∈ L ∧ x.2.1 = t := by
  constructor
  · intro hx
    refine ⟨h.inL hl hx, ?_⟩
    have := (h.ok _ l x hl hx).1 (Nat.mod_lt _ (by decide))
    omega
  · rintro ⟨hx, hd⟩
    obtain ⟨k, l', i, hl', hi⟩ := h.at_ hx
    have hk := h.lt hl'
    obtain ⟨o1, o2, o3⟩ := h.ok k l' x hl' (List.mem_of_getElem? hi)
    have : k = t % 16 := by
      by_cases k1 : k < 16
      · have := o1 k1; omega
      · by_cases k2 : k < 32
        · have := o2 (by omega) k2; omega
        · have := o3 (by omega); omega
    subst this
    rw [hl] at hl'
    injection hl' with hl'
    rw [hl']; exact List.mem_of_getElem? hi
theorem dueL_iff {x : TmI} : x ∈ dueL L t ↔ x ∈ L ∧ x.2.1 = t := by unfold dueL; simp
theorem tikL_iff {x : TmI} : x ∈ tikL L t ↔ x ∈ L ∧ x.2.1 ≠ t := by unfold tikL; simp
theorem canL_iff {id : Int} {x : TmI} : x ∈ canL L id ↔ x ∈ L ∧ x.1 ≠ id := by unfold canL; simp
theorem num_inj (hn : L.Pairwise fun x y => x.2.2 < y.2.2) {x y : TmI} (hx : x ∈ L) (hy : y ∈ L) (e : x.2.2 = y.2.2) : x = y := by
  obtain ⟨i, hi⟩ := List.mem_iff_getElem?.1 hx
  obtain ⟨j, hj⟩ := List.mem_iff_getElem?.1 hy
  obtain ⟨li, ei⟩ := List.getElem?_eq_some_iff.1 hi
  obtain ⟨lj, ej⟩ := List.getElem?_eq_some_iff.1 hj
  have hp := List.pairwise_iff_getElem.1 hn
  rcases Nat.lt_trichotomy i j with h1 | h1 | h1
  · have := hp i j li lj h1; rw [ei, ej] at this; omega
  · subst h1; rw [← ei, ← ej]
  · have := hp j i lj li h1; rw [ei, ej] at this; omega
theorem InvC.nodup (h : InvC 3 t ll [] M L) {k : Nat} {l : List TmI} (hl : ll[k]? = some l) : l.Nodup := by
  have h1 := (h.empty hl).air
  exact List.Pairwise.of_map Prod.fst (fun a b hab e => hab (by rw [e])) h1
/-- Put into the order in which they were added, they are the row's. -/
theorem InvC.due_eq (h : InvC 3 t ll [] M L) (hn : L.Pairwise fun x y => x.2.2 < y.2.2) {l d : List TmI} (hl : ll[t % 16]? = some l) (hp : d.Perm l) (hs : d.Pairwise fun x y => ¬ y.2.2 < x.2.2) : d = dueL L t := by
  have hm : ∀ x, x ∈ d ↔ x ∈ L ∧ x.2.1 = t := fun x => by rw [hp.mem_iff]; exact h.due_iff hl x
  refine inc_eq ?_ (hn.sublist List.filter_sublist) fun x => by rw [hm, dueL_iff]
  have hnd : d.Nodup := hp.nodup_iff.2 (h.nodup hl)
  rw [List.pairwise_iff_getElem] at hs ⊢
  intro i j hi hj hij
  have h1 := hs i j hi hj hij
  rcases Nat.lt_or_ge d[i].2.2 d[j].2.2 with h2 | h2
  · exact h2
  · have e := num_inj hn ((hm _).1 (List.getElem_mem hi)).1 ((hm _).1 (List.getElem_mem hj)).1 (by omega)
    have := (List.getElem_inj hnd).1 e
    omega
theorem flt_len (L : List TmI) (t : Nat) : (dueL L t).length + (tikL L t).length = L.length := by
  unfold dueL tikL
  induction L with
  | nil => rfl
  | cons x r ih => by_cases e : x.2.1 = t <;> simp [e] <;> omega
/-- They are gone. -/
theorem InvC.gone (h : InvC 3 t ll [] M L) {l : List TmI} (hl : ll[t % 16]? = some l) {M' : List (Int × Value)} (hM : ∀ q, valG q M' = if q ∈ (dueL L t).map Prod.fst then none else valG q M) : InvC 3 t (ll.set (t % 16) []) [] M' (tikL L t) := by
  have e := h.empty hl
  refine ⟨e.len, fun x => ?_, e.ok, fun k l' i x hk hi => ?_, h.nd.sublist (List.filter_sublist.map _), by simp, by simp, fun x hx => h.due x (List.mem_filter.1 hx).1⟩
  · rw [tikL_iff, e.mem x, h.due_iff hl x]
    constructor
    · rintro ⟨h1 | h1, h2⟩
      · exact absurd h1.2 h2
      · exact .inr h1
    · rintro (h1 | h1)
      · simp at h1
      · refine ⟨.inr h1, fun hd => ?_⟩
        obtain ⟨k, l', hk, hx⟩ := h1
        have hxL := (e.mem x).2 (.inr ⟨k, l', hk, hx⟩)
        exact e.apart x ((h.due_iff hl x).2 ⟨hxL, hd⟩) k l' hk hx
  · have hxL := (e.mem x).2 (.inr ⟨k, l', hk, List.mem_of_getElem? hi⟩)
    rw [hM, if_neg, e.pos k l' i x hk hi]
    intro hm
    obtain ⟨y, hy, ey⟩ := List.mem_map.1 hm
    have hy2 := dueL_iff.1 hy
    have := nd_same h.nd hy2.1 hxL ey
    subst this
    exact e.apart y ((h.due_iff hl y).2 hy2) k l' hk (List.mem_of_getElem? hi)
theorem InvM.gone (h : InvM M L) (hnd : (L.map Prod.fst).Nodup) {M' : List (Int × Value)} (hM : ∀ q, valG q M' = if q ∈ (dueL L t).map Prod.fst then none else valG q M) (hl : M'.length + (dueL L t).length = M.length) : InvM M' (tikL L t) := by
  refine ⟨fun id => ?_, by have := flt_len L t; have := h.len; omega⟩
  rw [hM]
  constructor
  · intro e x hx e2
    have hx2 := tikL_iff.1 hx
    by_cases hm : id ∈ (dueL L t).map Prod.fst
    · obtain ⟨y, hy, ey⟩ := List.mem_map.1 hm
      have hy2 := dueL_iff.1 hy
      have := nd_same hnd hy2.1 hx2.1 (by rw [ey, e2])
      subst this
      exact hx2.2 hy2.2
    · rw [if_neg hm] at e
      exact (h.keys id).1 e x hx2.1 e2
  · intro e
    split
    · rfl
    · rename_i hm
      refine (h.keys id).2 fun x hx e2 => ?_
      by_cases hd : x.2.1 = t
      · exact hm (List.mem_map.2 ⟨x, dueL_iff.2 ⟨hx, hd⟩, e2⟩)
      · exact e x (tikL_iff.2 ⟨hx, hd⟩) e2
/-! ## letting one go -/
def rmvI (l : List TmI) (i : Nat) (y : TmI) : List TmI := (l.set i y).take (l.length - 1)
theorem rmv_at {l : List TmI} {i : Nat} {y : TmI} (hi : i < l.length) (a : Nat) : (rmvI l i y)[a]? = if a < l.length - 1 then (if a = i then some y else l[a]?) else none := by
  unfold rmvI
  rw [List.getElem?_take]
  split
  · rw [List.getElem?_set]
    by_cases e : i = a
    · rw [if_pos e, if_pos (by omega), if_pos e.symm]
    · rw [if_neg e, if_neg (fun e2 => e e2.symm)]
  · rfl
theorem rmv_len {l : List TmI} {i : Nat} {y : TmI} : (rmvI l i y).length = l.length - 1 := by unfold rmvI; simp
/-- Which are left in the slot, and where each stands. -/
theorem rmv_mem {l : List TmI} {i : Nat} {x y : TmI} (hx : l[i]? = some x) (hy : l[l.length - 1]? = some y) {a : Nat} {z : TmI} (h : (rmvI l i y)[a]? = some z) : (a ≠ i ∧ l[a]? = some z) ∨ (a = i ∧ z = y ∧ i ≠ l.length - 1) := by
  have hi := (List.getElem?_eq_some_iff.1 hx).1
  rw [rmv_at hi] at h
  split at h
  · split at h
    · injection h with h
      exact .inr ⟨by assumption, h.symm, by omega⟩
    · exact .inl ⟨by assumption, h⟩
  · cases h
theorem rmv_has {l : List TmI} {i : Nat} {x y : TmI} (hx : l[i]? = some x) (hy : l[l.length - 1]? = some y) {a : Nat} {z : TmI} (ha : l[a]? = some z) (hne : a ≠ i) : z ∈ rmvI l i y := by
  have hi := (List.getElem?_eq_some_iff.1 hx).1
  have hal := (List.getElem?_eq_some_iff.1 ha).1
  by_cases e : a = l.length - 1
  · have : z = y := by rw [e, hy] at ha; injection ha with ha; exact ha.symm
    exact List.mem_of_getElem? (i := i) (by rw [rmv_at hi, if_pos (by omega), if_pos rfl, this])
  · exact List.mem_of_getElem? (i := a) (by rw [rmv_at hi, if_pos (by omega), if_neg hne, ha])
theorem InvC.cancel (h : InvC 3 t ll [] M L) {k i : Nat} {l : List TmI} {x y : TmI} (hl : ll[k]? = some l) (hx : l[i]? = some x) (hy : l[l.length - 1]? = some y) {M' : List (Int × Value)}
    (hM : ∀ q, valG q M' = if q = x.1 then none else if i ≠ l.length - 1 ∧ q = y.1 then some (plV k i) else valG q M) : InvC 3 t (ll.set k (rmvI l i y)) [] M' (canL L x.1) := by
  have hp := (List.getElem?_eq_some_iff.1 hl).1
  have hxL := h.inL hl (List.mem_of_getElem? hx)
  have hgs : ∀ (k' : Nat) (l' : List TmI), (ll.set k (rmvI l i y))[k']? = some l' → (k' = k ∧ l' = rmvI l i y) ∨ (k' ≠ k ∧ ll[k']? = some l') := by
    intro k' l' hk
    rw [List.getElem?_set] at hk
    by_cases e : k = k'
    · rw [if_pos e, if_pos (by omega)] at hk
      injection hk with hk
      exact .inl ⟨e.symm, hk.symm⟩
    · rw [if_neg e] at hk
      exact .inr ⟨fun e2 => e e2.symm, hk⟩
  have hin : ∀ (a : Nat) (z : TmI), (rmvI l i y)[a]? = some z → z ∈ l ∧ z.1 ≠ x.1 := by
    intro a z hz
    rcases rmv_mem hx hy hz with ⟨h1, h2⟩ | ⟨h1, rfl, h3⟩
    · exact ⟨List.mem_of_getElem? h2, fun e => h1 (h.one hl h2 hl hx e).2⟩
    · exact ⟨List.mem_of_getElem? hy, fun e => h3 (h.one hl hy hl hx e).2.symm⟩
  refine ⟨by rw [List.length_set]; exact h.len, fun z => ?_, fun k' l' z hk hz => ?_, fun k' l' a z hk hz => ?_, h.nd.sublist (List.filter_sublist.map _), by simp, by simp, fun z hz => h.due z (List.mem_filter.1 hz).1⟩
  · rw [canL_iff]
    constructor
    · rintro ⟨hz, hne⟩
      obtain ⟨k', l', a, hk, ha⟩ := h.at_ hz
      by_cases e : k' = k
      · subst e
        rw [hl] at hk; injection hk with hk; subst hk
        refine .inr ⟨k', rmvI l i y, by rw [List.getElem?_set, if_pos rfl, if_pos hp], rmv_has hx hy ha fun e => hne ?_⟩
        subst e
        rw [hx] at ha; injection ha with ha; rw [ha]
      · exact .inr ⟨k', l', by rw [List.getElem?_set, if_neg (fun e2 => e e2.symm)]; exact hk, List.mem_of_getElem? ha⟩
    · rintro (h1 | ⟨k', l', hk, hz⟩)
      · simp at h1
      · obtain ⟨a, ha⟩ := List.mem_iff_getElem?.1 hz
        rcases hgs k' l' hk with ⟨rfl, rfl⟩ | ⟨hne, hk⟩
        · have := hin a z ha
          exact ⟨h.inL hl this.1, this.2⟩
        · exact ⟨h.inL hk hz, fun e => hne (h.one hk ha hl hx e).1⟩
  · rcases hgs k' l' hk with ⟨rfl, rfl⟩ | ⟨hne, hk⟩
    · obtain ⟨a, ha⟩ := List.mem_iff_getElem?.1 hz
      exact h.ok _ l z hl (hin a z ha).1
    · exact h.ok k' l' z hk hz
  · rw [hM]
    rcases hgs k' l' hk with ⟨rfl, rfl⟩ | ⟨hne, hk⟩
    · rw [if_neg (hin a z hz).2]
      rcases rmv_mem hx hy hz with ⟨h1, h2⟩ | ⟨h1, rfl, h3⟩
      · rw [if_neg, h.pos _ l a z hl h2]
        rintro ⟨h3, h4⟩
        have h5 := (h.one hl h2 hl hy h4).2
        have h6 := (List.getElem?_eq_some_iff.1 hz).1
        rw [rmv_len] at h6
        omega
      · rw [if_pos ⟨h3, rfl⟩, h1]
    · rw [if_neg (fun e => hne (h.one hk hz hl hx e).1), if_neg (fun e => hne (h.one hk hz hl hy e.2).1)]
      exact h.pos k' l' a z hk hz
theorem can_len (hnd : (L.map Prod.fst).Nodup) {x : TmI} (hx : x ∈ L) : (canL L x.1).length + 1 = L.length := by
  unfold canL
  induction L with
  | nil => simp at hx
  | cons y r ih =>
    rw [List.map_cons, List.nodup_cons] at hnd
    rcases List.mem_cons.1 hx with e | e
    · subst e
      have : (r.filter fun z => !decide (z.1 = x.1)) = r := List.filter_eq_self.2 (fun z hz => by
        simp
        exact fun e => hnd.1 (by rw [← e]; exact List.mem_map.2 ⟨z, hz, rfl⟩))
      rw [List.filter_cons_of_neg (by simp), this]; rfl
    · have hne : ¬ y.1 = x.1 := fun e2 => hnd.1 (by rw [e2]; exact List.mem_map.2 ⟨x, e, rfl⟩)
      rw [List.filter_cons_of_pos (by simp [hne])]
      have := ih hnd.2 e
      simp; omega
theorem InvM.cancel (h : InvM M L) (hnd : (L.map Prod.fst).Nodup) {x : TmI} (hx : x ∈ L) {M' : List (Int × Value)} (hM : ∀ q, valG q M' = none ↔ q = x.1 ∨ valG q M = none) (hl : M'.length + 1 = M.length) : InvM M' (canL L x.1) := by
  refine ⟨fun id => ?_, by have := can_len hnd hx; have := h.len; omega⟩
  rw [hM, h.keys id]
  constructor
  · intro e z hz e2
    have hz2 := canL_iff.1 hz
    rcases e with e | e
    · exact hz2.2 (by rw [e2, e])
    · exact e z hz2.1 e2
  · intro e
    by_cases e1 : id = x.1
    · exact .inl e1
    · exact .inr fun z hz e2 => e z (canL_iff.2 ⟨hz, fun e3 => e1 (by rw [← e2, e3])⟩) e2
theorem canL_none {id : Int} (h : ∀ x ∈ L, x.1 ≠ id) : canL L id = L := by
  unfold canL
  exact List.filter_eq_self.2 fun x hx => by simpa using h x hx
/-- The document takes out the place at which it stands. -/
theorem canL_erase (hnd : (L.map Prod.fst).Nodup) {id : Int} {i : Nat} (h : wAt L id = i + 1) : canL L id = L.eraseIdx i := by
  induction L generalizing i with
  | nil => simp [wAt, fndI] at h
  | cons y r ih =>
    rw [List.map_cons, List.nodup_cons] at hnd
    unfold wAt at h
    rw [fndI] at h
    by_cases e : y.1 = id
    · rw [if_pos (by simpa using e)] at h
      have h0 : i = 0 := by omega
      subst h0
      rw [List.eraseIdx_cons_zero]
      unfold canL
      rw [List.filter_cons_of_neg (by simp [e])]
      exact canL_none fun z hz e2 => hnd.1 (by rw [e, ← e2]; exact List.mem_map.2 ⟨z, hz, rfl⟩)
    · rw [if_neg (by simpa using e)] at h
      split at h
      · omega
      · rename_i h0
        cases i with
        | zero => omega
        | succ i =>
          rw [List.eraseIdx_cons_succ]
          unfold canL
          rw [List.filter_cons_of_pos (by simp [e])]
          congr 1
          exact ih hnd.2 (by show fndI _ r = i + 1; omega)
/-! ## how long -/
theorem InvC.find (h : InvC 3 t ll [] M L) (hM : InvM M L) {id : Int} {v : Value} (hv : valG id M = some v) : ∃ (k : Nat) (l : List TmI) (i : Nat) (x : TmI), ll[k]? = some l ∧ l[i]? = some x ∧ x.1 = id ∧ v = plV k i ∧ x ∈ L := by
  have : ¬ ∀ x ∈ L, x.1 ≠ id := fun e => by rw [(hM.keys id).2 e] at hv; cases hv
  have : ∃ x ∈ L, x.1 = id := by
    refine Classical.byContradiction fun hc => this fun x hx e => hc ⟨x, hx, e⟩
  obtain ⟨x, hx, e⟩ := this
  obtain ⟨k, l, i, hl, hi⟩ := h.at_ hx
  have := h.pos k l i x hl hi
  rw [e, hv] at this
  injection this with this
  exact ⟨k, l, i, x, hl, hi, e, this, hx⟩
theorem lft_is (hnd : (L.map Prod.fst).Nodup) {x : TmI} (hx : x ∈ L) : lftV L t x.1 = (x.2.1 : Int) - (t : Int) ∧ wAt L x.1 ≠ 0 := by
  have h0 : wAt L x.1 ≠ 0 := fun e => wAt_zero.1 e x hx rfl
  obtain ⟨i, hi⟩ : ∃ i, wAt L x.1 = i + 1 := ⟨wAt L x.1 - 1, by omega⟩
  obtain ⟨y, hy, e⟩ := wAt_pos hi
  have := nd_same hnd (List.mem_of_getElem? hy) hx e
  subst this
  refine ⟨?_, h0⟩
  unfold lftV
  rw [hi, Nat.add_sub_cancel, hy]
  simp
theorem lft_no {id : Int} (h : wAt L id = 0) : lftV L t id = 0 := by
  unfold lftV
  rw [h]
  cases L[0 - 1]? <;> simp
/-! ## the next -/
theorem lev_ok {l k : Nat} {x : TmI} (h : okS 3 t k x) (hd : t < x.2.1) (hk : k / 16 = l) (hl : l < 3) : t / widI l < x.2.1 / widI l ∧ x.2.1 / widI l ≤ t / widI l + 16 ∧ x.2.1 / widI l % 16 = k % 16 := by
  obtain ⟨h1, h2, h3⟩ := h
  unfold widI
  have : l = 0 ∨ l = 1 ∨ l = 2 := by omega
  rcases this with rfl | rfl | rfl
  · have := h1 (by omega); simp; omega
  · have := h2 (by omega) (by omega); simp; omega
  · have := h3 (by omega); simp; omega
theorem wid_pos (l : Nat) : 0 < widI l := by unfold widI; split; decide; split <;> decide
theorem div_le {a b W : Nat} (h : a / W < b / W) (hW : 0 < W) : a < b := by
  refine Nat.lt_of_not_le fun hc => ?_
  have := Nat.div_le_div_right (c := W) hc
  omega
/-- The first slot ahead that is not empty holds whoever is due first of its level. -/
theorem InvC.near (h : InvC 3 t ll [] M L) (hd : ∀ x ∈ L, t < x.2.1) {l a : Nat} (hl : l < 3) (ha : 1 ≤ a ∧ a ≤ 16) (hE : ∀ a', 1 ≤ a' → a' < a → ll[16 * l + (t / widI l + a') % 16]? = some []) {li : List TmI} (hli : ll[16 * l + (t / widI l + a) % 16]? = some li)
    {x : TmI} (hx : x ∈ li) (hm : ∀ y ∈ li, x.2.1 ≤ y.2.1) {k' : Nat} {l' : List TmI} {y : TmI} (hk : ll[k']? = some l') (hkl : k' / 16 = l) (hy : y ∈ l') : x.2.1 ≤ y.2.1 := by
  have o1 := lev_ok (h.ok _ li x hli hx) (hd x (h.inL hli hx)) (show (16 * l + (t / widI l + a) % 16) / 16 = l by omega) hl
  have o2 := lev_ok (h.ok _ l' y hk hy) (hd y (h.inL hk hy)) hkl hl
  have hW := wid_pos l
  obtain ⟨W, hWW⟩ : ∃ W, widI l = W := ⟨_, rfl⟩
  rw [hWW] at hE hli o1 o2 hW
  obtain ⟨T, hT⟩ : ∃ T, t / W = T := ⟨_, rfl⟩
  obtain ⟨X, hX⟩ : ∃ X, x.2.1 / W = X := ⟨_, rfl⟩
  obtain ⟨Y, hY⟩ : ∃ Y, y.2.1 / W = Y := ⟨_, rfl⟩
  rw [hT] at hE hli o1 o2
  rw [hX] at o1
  rw [hY] at o2
  have hXa : X = T + a := by omega
  have hYa : T + a ≤ Y := by
    refine Nat.le_of_not_lt fun hc => ?_
    have := hE (Y - T) (by omega) (by omega)
    rw [show 16 * l + (T + (Y - T)) % 16 = k' by omega, hk] at this
    injection this with this
    rw [this] at hy
    simp at hy
  by_cases e : Y = T + a
  · have : k' = 16 * l + (T + a) % 16 := by omega
    rw [this, hli] at hk
    injection hk with hk
    rw [← hk] at hy
    exact hm y hy
  · exact Nat.le_of_lt (div_le (W := W) (by omega) hW)
/-- What a level says, what the levels below lo say. -/
def LevO (t : Nat) (ll : List (List TmI)) (P : Nat → Prop) (n : Nat) : Prop :=
  (n = 0 ∧ ∀ (k : Nat) (l : List TmI), P k → ll[k]? = some l → l = []) ∨
  (0 < n ∧ (∃ (k : Nat) (l : List TmI) (x : TmI), P k ∧ ll[k]? = some l ∧ x ∈ l ∧ x.2.1 = t + n) ∧ ∀ (k : Nat) (l : List TmI) (x : TmI), P k → ll[k]? = some l → x ∈ l → t + n ≤ x.2.1)
theorem LevO.step {lo n m : Nat} (h1 : LevO t ll (fun k => k < 16 * lo) n) (h2 : LevO t ll (fun k => k / 16 = lo) m) : LevO t ll (fun k => k < 16 * (lo + 1)) (if 0 < m ∧ (n = 0 ∨ m < n) then m else n) := by
  have hs : ∀ k, k < 16 * (lo + 1) ↔ k < 16 * lo ∨ k / 16 = lo := fun k => by omega
  rcases h1 with ⟨rfl, h1⟩ | ⟨hn, ⟨k1, l1, x1, e1, e2, e3, e4⟩, g1⟩
  · rcases h2 with ⟨rfl, h2⟩ | ⟨hm, ⟨k2, l2, x2, f1, f2, f3, f4⟩, g2⟩
    · exact .inl ⟨by simp, fun k l hk hl => by rcases (hs k).1 hk with hk | hk; exact h1 k l hk hl; exact h2 k l hk hl⟩
    · rw [if_pos ⟨hm, .inl rfl⟩]
      refine .inr ⟨hm, ⟨k2, l2, x2, (hs k2).2 (.inr f1), f2, f3, f4⟩, fun k l x hk hl hx => ?_⟩
      rcases (hs k).1 hk with hk | hk
      · rw [h1 k l hk hl] at hx; simp at hx
      · exact g2 k l x hk hl hx
  · rcases h2 with ⟨rfl, h2⟩ | ⟨hm, ⟨k2, l2, x2, f1, f2, f3, f4⟩, g2⟩
    · rw [if_neg (by omega)]
      refine .inr ⟨hn, ⟨k1, l1, x1, (hs k1).2 (.inl e1), e2, e3, e4⟩, fun k l x hk hl hx => ?_⟩
      rcases (hs k).1 hk with hk | hk
      · exact g1 k l x hk hl hx
      · rw [h2 k l hk hl] at hx; simp at hx
    · split
      · rename_i hc
        refine .inr ⟨hm, ⟨k2, l2, x2, (hs k2).2 (.inr f1), f2, f3, f4⟩, fun k l x hk hl hx => ?_⟩
        rcases (hs k).1 hk with hk | hk
        · have := g1 k l x hk hl hx; omega
        · exact g2 k l x hk hl hx
      · rename_i hc
        refine .inr ⟨hn, ⟨k1, l1, x1, (hs k1).2 (.inl e1), e2, e3, e4⟩, fun k l x hk hl hx => ?_⟩
        rcases (hs k).1 hk with hk | hk
        · exact g1 k l x hk hl hx
        · have := g2 k l x hk hl hx; omega
theorem InvC.lev (h : InvC 3 t ll [] M L) (hd : ∀ x ∈ L, t < x.2.1) {l a : Nat} (hl : l < 3) (ha : 1 ≤ a ∧ a ≤ 16) (hE : ∀ a', 1 ≤ a' → a' < a → ll[16 * l + (t / widI l + a') % 16]? = some []) {li : List TmI} (hli : ll[16 * l + (t / widI l + a) % 16]? = some li)
    {x : TmI} (hx : x ∈ li) (hm : ∀ y ∈ li, x.2.1 ≤ y.2.1) : LevO t ll (fun k => k / 16 = l) (x.2.1 - t) := by
  have := hd x (h.inL hli hx)
  refine .inr ⟨by omega, ⟨_, li, x, by omega, hli, hx, by omega⟩, fun k l' y hk hl' hy => ?_⟩
  have := h.near hd hl ha hE hli hx hm hl' hk hy
  omega
theorem lev_none {l : Nat} (hl : l < 3) (hE : ∀ a', 1 ≤ a' → a' < 17 → ll[16 * l + (t / widI l + a') % 16]? = some []) : LevO t ll (fun k => k / 16 = l) 0 := by
  refine .inl ⟨rfl, fun k li hk hli => ?_⟩
  obtain ⟨T, hT⟩ : ∃ T, t / widI l = T := ⟨_, rfl⟩
  rw [hT] at hE
  obtain ⟨a, h1, h2, h3⟩ : ∃ a, 1 ≤ a ∧ a < 17 ∧ 16 * l + (T + a) % 16 = k := by
    by_cases e : T % 16 < k % 16
    · exact ⟨k % 16 - T % 16, by omega, by omega, by omega⟩
    · exact ⟨16 + k % 16 - T % 16, by omega, by omega, by omega⟩
  have := hE a h1 h2
  rw [h3, hli] at this
  injection this
theorem InvC.nxt (h : InvC 3 t ll [] M L) (hd : ∀ x ∈ L, t < x.2.1) {n : Nat} (hn : LevO t ll (fun k => k < 48) n) : nxtV L t = n := by
  rcases hn with ⟨rfl, h1⟩ | ⟨hn, ⟨k, l, x, h1, h2, h3, h4⟩, h5⟩
  · refine (nxtV_zero hd).2 ?_
    cases hL : L with
    | nil => rfl
    | cons x r =>
      obtain ⟨k, l, i, hl, hi⟩ := h.at_ (x := x) (by rw [hL]; simp)
      rw [h1 k l (h.lt hl) hl] at hi
      simp at hi
  · refine nxtV_eq hd ⟨x, h.inL h2 h3, h4⟩ fun y hy => ?_
    obtain ⟨k', l', i, hl, hi⟩ := h.at_ hy
    exact h5 k' l' y (h.lt hl) hl (List.mem_of_getElem? hi)
end
end Go.Proofs.Ythkjfgegmbdebaa
