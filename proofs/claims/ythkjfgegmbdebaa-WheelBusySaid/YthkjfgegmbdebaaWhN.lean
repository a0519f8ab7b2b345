/-
  Timers, plainly (layer 17): those that wait as one row; the same in the slots of three levels, each found by a map.
-/
import Derived.Test.YthkjfgegmbdebaaMpi
namespace Go.Proofs.Ythkjfgegmbdebaa
open Go.RowKit
set_option linter.unusedVariables false

/-- One that waits: its id, when it is due, how many were added ahead of it. -/
abbrev TmI := Int × Nat × Nat
/-! ## as one row -/
def wAt (L : List TmI) (id : Int) : Nat := fndI (fun x => decide (x.1 = id)) L
theorem wAt_zero {L : List TmI} {id : Int} : wAt L id = 0 ↔ ∀ x ∈ L, x.1 ≠ id := by
  unfold wAt
  rw [fndI_zero]
  constructor
  · intro h x hx e
    obtain ⟨i, hi⟩ := List.mem_iff_getElem?.1 hx
    simpa [e] using h i x hi
  · intro h i x hx
    simpa using h x (List.mem_of_getElem? hx)
theorem wAt_pos {L : List TmI} {id : Int} {i : Nat} (h : wAt L id = i + 1) : ∃ x, L[i]? = some x ∧ x.1 = id := by
  obtain ⟨⟨x, h1, h2⟩, -⟩ := fndI_succ.1 h
  exact ⟨x, h1, by simpa using h2⟩
theorem wAt_le (L : List TmI) (id : Int) : wAt L id ≤ L.length := fndI_le _ _
/-- Errors of Add. -/
def addE (L : List TmI) (id after : Int) : Int := if after < 1 ∨ 4095 < after then 1 else if wAt L id ≠ 0 then 160 else if 1000 ≤ L.length then 161 else 0
def addL (L : List TmI) (t a : Nat) (id after : Int) : List TmI := if addE L id after = 0 then L ++ [(id, t + after.toNat, a)] else L
def addA (L : List TmI) (a : Nat) (id after : Int) : Nat := if addE L id after = 0 then a + 1 else a
def canL (L : List TmI) (id : Int) : List TmI := L.filter fun x => !decide (x.1 = id)
def dueL (L : List TmI) (t : Nat) : List TmI := L.filter fun x => decide (x.2.1 = t)
def tikL (L : List TmI) (t : Nat) : List TmI := L.filter fun x => !decide (x.2.1 = t)
def lftV (L : List TmI) (t : Nat) (id : Int) : Int := match L[wAt L id - 1]? with | some x => if wAt L id = 0 then 0 else (x.2.1 : Int) - (t : Int) | none => 0
def nxtF (t : Nat) (n : Nat) (x : TmI) : Nat := if n = 0 ∨ x.2.1 - t < n then x.2.1 - t else n
def nxtV (L : List TmI) (t : Nat) : Nat := L.foldl (nxtF t) 0
/-- What holds of a row at a time, a of them added so far. -/
structure RowI (t a : Nat) (L : List TmI) : Prop where
  nd : (L.map Prod.fst).Nodup
  num : L.Pairwise fun x y => x.2.2 < y.2.2
  few : ∀ x ∈ L, x.2.2 < a
  due : ∀ x ∈ L, t < x.2.1 ∧ x.2.1 ≤ t + 4095
  len : L.length ≤ 1000
theorem RowI.nil (t a : Nat) : RowI t a [] := ⟨by simp, by simp, by simp, by simp, by simp⟩
theorem RowI.same {t a : Nat} {L : List TmI} (h : RowI t a L) {x y : TmI} (hx : x ∈ L) (hy : y ∈ L) (e : x.1 = y.1) : x = y := by
  obtain ⟨i, hi⟩ := List.mem_iff_getElem?.1 hx
  obtain ⟨j, hj⟩ := List.mem_iff_getElem?.1 hy
  have li := (List.getElem?_eq_some_iff.1 hi)
  have lj := (List.getElem?_eq_some_iff.1 hj)
  obtain ⟨li, ei⟩ := li
  obtain ⟨lj, ej⟩ := lj
  have hp := List.pairwise_iff_getElem.1 h.nd
  rcases Nat.lt_trichotomy i j with h1 | h1 | h1
  · exact (hp i j (by simpa using li) (by simpa using lj) h1 (by simp [ei, ej, e])).elim
  · subst h1; rw [← ei, ← ej]
  · exact (hp j i (by simpa using lj) (by simpa using li) h1 (by simp [ei, ej, e])).elim
theorem RowI.filter {t a : Nat} {L : List TmI} (h : RowI t a L) (p : TmI → Bool) : RowI t a (L.filter p) :=
  ⟨h.nd.sublist ((List.filter_sublist).map _), h.num.sublist List.filter_sublist, fun x hx => h.few x (List.mem_filter.1 hx).1, fun x hx => h.due x (List.mem_filter.1 hx).1, Nat.le_trans (List.length_filter_le _ _) h.len⟩
theorem RowI.can {t a : Nat} {L : List TmI} (h : RowI t a L) (id : Int) : RowI t a (canL L id) := h.filter _
theorem RowI.tik {t a : Nat} {L : List TmI} (h : RowI t a L) : RowI (t + 1) a (tikL L (t + 1)) :=
  ⟨(h.filter _).nd, (h.filter _).num, (h.filter _).few, fun x hx => by
    have h1 := h.due x (List.mem_filter.1 hx).1
    have h2 := (List.mem_filter.1 hx).2
    simp at h2
    omega, (h.filter _).len⟩
theorem addE_zero {L : List TmI} {id after : Int} (h : addE L id after = 0) : 1 ≤ after ∧ after ≤ 4095 ∧ (∀ x ∈ L, x.1 ≠ id) ∧ L.length < 1000 := by
  unfold addE at h
  split at h
  · cases h
  · rename_i h1
    split at h
    · cases h
    · rename_i h2
      split at h
      · cases h
      · rename_i h3
        exact ⟨by omega, by omega, wAt_zero.1 (by simpa using h2), by omega⟩
theorem RowI.add {t a : Nat} {L : List TmI} (h : RowI t a L) (id after : Int) : RowI t (addA L a id after) (addL L t a id after) := by
  unfold addA addL
  by_cases he : addE L id after = 0
  · rw [if_pos he, if_pos he]
    obtain ⟨h1, h2, h3, h4⟩ := addE_zero he
    refine ⟨?_, ?_, ?_, ?_, ?_⟩
    · rw [List.map_append, List.nodup_append]
      refine ⟨h.nd, by simp, fun b hb c hc e => ?_⟩
      obtain ⟨x, hx, rfl⟩ := List.mem_map.1 hb
      simp at hc
      exact h3 x hx (by rw [e, hc])
    · rw [List.pairwise_append]
      refine ⟨h.num, by simp, fun x hx y hy => ?_⟩
      simp at hy; subst hy
      exact h.few x hx
    · intro x hx
      rcases List.mem_append.1 hx with hx | hx
      · have := h.few x hx; omega
      · simp at hx; subst hx; simp
    · intro x hx
      rcases List.mem_append.1 hx with hx | hx
      · exact h.due x hx
      · simp at hx; subst hx; simp; omega
    · rw [List.length_append]; simp; omega
  · rw [if_neg he, if_neg he]; exact h
/-- The first that is due. -/
theorem nxtF_spec {t : Nat} : ∀ (L : List TmI) (n : Nat), (∀ x ∈ L, t < x.2.1) → (L.foldl (nxtF t) n = 0 ↔ n = 0 ∧ L = []) ∧ (0 < n → L.foldl (nxtF t) n ≤ n) ∧ (∀ x ∈ L, L.foldl (nxtF t) n ≤ x.2.1 - t) ∧ (L.foldl (nxtF t) n = n ∨ ∃ x ∈ L, L.foldl (nxtF t) n = x.2.1 - t)
  | [], n, _ => ⟨by simp, fun _ => Nat.le_refl _, by simp, .inl rfl⟩
  | x :: L, n, h => by
    have hx := h x (by simp)
    obtain ⟨i1, i2, i3, i4⟩ := nxtF_spec L (nxtF t n x) (fun y hy => h y (by simp [hy]))
    have h0 : 0 < nxtF t n x := by unfold nxtF; split <;> omega
    have h1 : nxtF t n x ≤ x.2.1 - t := by unfold nxtF; split <;> omega
    have h2 : 0 < n → nxtF t n x ≤ n := by unfold nxtF; intro; split <;> omega
    have h3 := i2 h0
    rw [List.foldl_cons]
    refine ⟨⟨fun e => absurd (i1.1 e).1 (by omega), fun e => by simp at e⟩, fun hn => by have := h2 hn; omega, fun y hy => ?_, ?_⟩
    · rcases List.mem_cons.1 hy with rfl | hy
      · omega
      · exact i3 y hy
    · rcases i4 with e | ⟨y, hy, e⟩
      · rw [e]
        unfold nxtF
        split
        · exact .inr ⟨x, by simp, rfl⟩
        · exact .inl rfl
      · exact .inr ⟨y, by simp [hy], e⟩
theorem nxtV_zero {L : List TmI} {t : Nat} (h : ∀ x ∈ L, t < x.2.1) : nxtV L t = 0 ↔ L = [] := by
  have := (nxtF_spec L 0 h).1
  unfold nxtV
  rw [this]; simp
theorem nxtV_le {L : List TmI} {t : Nat} (h : ∀ x ∈ L, t < x.2.1) {x : TmI} (hx : x ∈ L) : nxtV L t ≤ x.2.1 - t := (nxtF_spec L 0 h).2.2.1 x hx
theorem nxtV_is {L : List TmI} {t : Nat} (h : ∀ x ∈ L, t < x.2.1) (hL : L ≠ []) : ∃ x ∈ L, nxtV L t = x.2.1 - t := by
  rcases (nxtF_spec L 0 h).2.2.2 with e | e
  · exact absurd ((nxtV_zero h).1 e) hL
  · exact e
/-- Whoever is due first is due next. -/
theorem nxtV_eq {L : List TmI} {t n : Nat} (h : ∀ x ∈ L, t < x.2.1) (h1 : ∃ x ∈ L, x.2.1 = t + n) (h2 : ∀ x ∈ L, t + n ≤ x.2.1) : nxtV L t = n := by
  obtain ⟨x, hx, e⟩ := h1
  have h3 := nxtV_le h hx
  obtain ⟨y, hy, e2⟩ := nxtV_is h (fun e => by rw [e] at hx; simp at hx)
  have := h2 y hy
  omega
/-! ## in slots -/
def plV (k i : Nat) : Value := .agg #[.int .i64 ((k / 16 : Nat) : Int), .int .i64 ((k % 16 : Nat) : Int), .int .i64 (i : Int)]
theorem plV_inj {k i k' i' : Nat} (h : plV k i = plV k' i') : k = k' ∧ i = i' := by
  unfold plV at h
  simp at h
  omega
def valG (p : Int) (M : List (Int × Value)) : Option Value := (mpG p M 0).map Prod.snd
theorem mpG_shift {p : Int} {M : List (Int × Value)} {i j : Nat} : (mpG p M i).map Prod.snd = (mpG p M j).map Prod.snd := by
  induction M generalizing i j with
  | nil => rfl
  | cons x r ih =>
    unfold mpG
    split
    · rfl
    · exact ih
theorem valG_cons {p : Int} {x : Int × Value} {M : List (Int × Value)} : valG p (x :: M) = if p = x.1 then some x.2 else valG p M := by
  unfold valG
  rw [mpG]
  split
  · rfl
  · exact mpG_shift
theorem valG_app {p : Int} {x : Int × Value} : ∀ {M : List (Int × Value)}, valG p (M ++ [x]) = match valG p M with | some v => some v | none => if p = x.1 then some x.2 else none
  | [] => by rw [List.nil_append, valG_cons]; rfl
  | y :: r => by
    rw [List.cons_append, valG_cons, valG_cons, valG_app]
    split <;> rfl
theorem valG_set {p q : Int} {v : Value} : ∀ {M : List (Int × Value)} {j : Nat} {u : Value}, M[j]? = some (q, u) → (M.map Prod.fst).Nodup → valG p (M.set j (q, v)) = if p = q then some v else valG p M
  | [], j, u, h, _ => by simp at h
  | y :: r, 0, u, h, hn => by
    simp at h; subst h
    rw [List.set_cons_zero, valG_cons, valG_cons]
    split <;> rfl
  | y :: r, j + 1, u, h, hn => by
    rw [List.map_cons, List.nodup_cons] at hn
    rw [List.set_cons_succ, valG_cons, valG_cons, valG_set (by simpa using h) hn.2]
    by_cases e : p = y.1
    · have : ¬ p = q := fun e2 => hn.1 (by rw [← e, e2]; exact List.mem_map.2 ⟨(q, u), List.mem_of_getElem? (by simpa using h), rfl⟩)
      rw [if_pos e, if_neg this, if_pos e]
    · rw [if_neg e, if_neg e]
theorem valG_none {p : Int} {M : List (Int × Value)} : valG p M = none ↔ mpG p M 0 = none := by unfold valG; cases mpG p M 0 <;> simp
theorem valG_put {p q : Int} {v : Value} {M : List (Int × Value)} (hn : (M.map Prod.fst).Nodup) : valG p (mpPut M q v) = if p = q then some v else valG p M := by
  unfold mpPut
  cases hg : mpG q M 0 with
  | none =>
    have h0 := valG_none.2 hg
    show valG p (M ++ [(q, v)]) = _
    rw [valG_app]
    by_cases e : p = q
    · subst e; simp [h0]
    · simp [e]; try (cases valG p M <;> rfl)
  | some a =>
    obtain ⟨j, u⟩ := a
    obtain ⟨j', e, h⟩ := mpG_some hg
    obtain rfl : j = j' := by omega
    exact valG_set h hn
theorem put_len {q : Int} {v : Value} {M : List (Int × Value)} : (mpPut M q v).length = if valG q M = none then M.length + 1 else M.length := by
  unfold mpPut
  cases hg : mpG q M 0 with
  | none => rw [if_pos (valG_none.2 hg)]; simp
  | some a => rw [if_neg (fun e => by rw [valG_none.1 e] at hg; cases hg)]; simp
theorem valG_erase {p q : Int} : ∀ {M : List (Int × Value)} {j : Nat} {u : Value}, M[j]? = some (q, u) → (M.map Prod.fst).Nodup → valG p (M.eraseIdx j) = if p = q then none else valG p M
  | [], j, u, h, _ => by simp at h
  | y :: r, 0, u, h, hn => by
    simp at h; subst h
    rw [List.map_cons, List.nodup_cons] at hn
    rw [List.eraseIdx_cons_zero, valG_cons]
    by_cases e : p = q
    · subst e
      rw [if_pos rfl]
      refine valG_none.2 (mpG_none.2 fun x hx e => hn.1 ?_)
      rw [← e]; exact List.mem_map.2 ⟨x, hx, rfl⟩
    · rw [if_neg e, if_neg e]
  | y :: r, j + 1, u, h, hn => by
    rw [List.map_cons, List.nodup_cons] at hn
    rw [List.eraseIdx_cons_succ, valG_cons, valG_cons, valG_erase (by simpa using h) hn.2]
    by_cases e : p = y.1
    · have : ¬ p = q := fun e2 => hn.1 (by rw [← e, e2]; exact List.mem_map.2 ⟨(q, u), List.mem_of_getElem? (by simpa using h), rfl⟩)
      rw [if_pos e, if_neg this, if_pos e]
    · rw [if_neg e, if_neg e]
theorem valG_del {p q : Int} {M : List (Int × Value)} (hn : (M.map Prod.fst).Nodup) : valG p (mpDel M q) = if p = q then none else valG p M := by
  unfold mpDel
  cases hg : mpG q M 0 with
  | none =>
    show valG p M = _
    split
    · rename_i e; rw [e]; exact valG_none.2 hg
    · rfl
  | some a =>
    obtain ⟨j, u⟩ := a
    obtain ⟨j', e, h⟩ := mpG_some hg
    obtain rfl : j = j' := by omega
    exact valG_erase h hn
theorem del_len {q : Int} {M : List (Int × Value)} (h : valG q M ≠ none) : (mpDel M q).length + 1 = M.length := by
  unfold mpDel
  cases hg : mpG q M 0 with
  | none => exact absurd (valG_none.2 hg) h
  | some a =>
    obtain ⟨j, u⟩ := a
    obtain ⟨j', e, h⟩ := mpG_some hg
    obtain rfl : j = j' := by omega
    have := (List.getElem?_eq_some_iff.1 h).1
    show (M.eraseIdx j).length + 1 = _
    rw [List.length_eraseIdx, if_pos this]; omega
theorem put_nodup {q : Int} {v : Value} {M : List (Int × Value)} (hn : (M.map Prod.fst).Nodup) : ((mpPut M q v).map Prod.fst).Nodup := by
  unfold mpPut
  cases hg : mpG q M 0 with
  | none =>
    have := mpG_none.1 hg
    show ((M ++ [(q, v)]).map Prod.fst).Nodup
    rw [List.map_append, List.nodup_append]
    refine ⟨hn, by simp, fun a ha b hb e => ?_⟩
    simp at hb
    obtain ⟨x, hx, rfl⟩ := List.mem_map.1 ha
    exact this x hx (by rw [e, hb])
  | some a =>
    obtain ⟨j, u⟩ := a
    obtain ⟨j', e, h⟩ := mpG_some hg
    obtain rfl : j = j' := by omega
    show ((M.set j (q, v)).map Prod.fst).Nodup
    rw [List.map_set, set_same (by simp [h])]
    exact hn
theorem del_nodup {q : Int} {M : List (Int × Value)} (hn : (M.map Prod.fst).Nodup) : ((mpDel M q).map Prod.fst).Nodup := by
  unfold mpDel
  cases hg : mpG q M 0 with
  | none => exact hn
  | some a => exact hn.sublist ((List.eraseIdx_sublist _ _).map _)
/-- One lies in the slot of its time; levels below j have been gone through at this very time. -/
def okS (j t k : Nat) (x : TmI) : Prop :=
  (k < 16 → x.2.1 % 16 = k ∧ t ≤ x.2.1 ∧ x.2.1 ≤ t + 15) ∧
  (16 ≤ k → k < 32 → x.2.1 / 16 % 16 = k - 16 ∧ x.2.1 / 16 ≤ t / 16 + 16 ∧ (t / 16 < x.2.1 / 16 ∨ (t / 16 = x.2.1 / 16 ∧ j ≤ 1 ∧ t % 16 = 0))) ∧
  (32 ≤ k → x.2.1 / 256 % 16 = k - 32 ∧ x.2.1 / 256 ≤ t / 256 + 16 ∧ (t / 256 < x.2.1 / 256 ∨ (t / 256 = x.2.1 / 256 ∧ j ≤ 2 ∧ t % 256 = 0)))
def lvlI (left : Nat) : Nat := if left < 16 then 0 else if left < 256 then 1 else 2
def widI (l : Nat) : Nat := if l = 0 then 1 else if l = 1 then 16 else 256
def slotI (l d : Nat) : Nat := d / widI l % 16
def posI (t d : Nat) : Nat := 16 * lvlI (d - t) + slotI (lvlI (d - t)) d
theorem posI_lt (t d : Nat) : posI t d < 48 ∧ posI t d / 16 = lvlI (d - t) ∧ posI t d % 16 = slotI (lvlI (d - t)) d := by
  unfold posI slotI lvlI
  have h : d / widI (if d - t < 16 then 0 else if d - t < 256 then 1 else 2) % 16 < 16 := Nat.mod_lt _ (by decide)
  generalize d / widI (if d - t < 16 then 0 else if d - t < 256 then 1 else 2) % 16 = z at *
  split
  · omega
  · split <;> omega
theorem okS_put {j t : Nat} {x : TmI} (h : t ≤ x.2.1) (h2 : x.2.1 ≤ t + 4095) : okS j t (posI t x.2.1) x := by
  unfold okS posI slotI lvlI widI
  by_cases h3 : x.2.1 - t < 16
  · simp only [h3, if_true]
    omega
  · by_cases h4 : x.2.1 - t < 256
    · simp only [h3, h4, if_true, if_false]
      simp
      omega
    · simp only [h3, h4, if_false]
      simp
      omega
theorem okS_tick {t k : Nat} {x : TmI} (h : okS 3 t k x) (hd : t < x.2.1) : okS 1 (t + 1) k x := by
  unfold okS at *
  obtain ⟨h1, h2, h3⟩ := h
  refine ⟨fun hk => ?_, fun hk hk2 => ?_, fun hk => ?_⟩
  · have := h1 hk; omega
  · have := h2 hk hk2; omega
  · have := h3 hk; omega
theorem okS_next {j t k : Nat} {x : TmI} (h : okS j t k x) (hj : j = 1 ∨ j = 2) (hk : k ≠ 16 * j + slotI j t) : okS (j + 1) t k x := by
  unfold okS slotI widI at *
  obtain ⟨h1, h2, h3⟩ := h
  rcases hj with rfl | rfl
  · simp at hk
    refine ⟨h1, fun hk1 hk2 => ?_, fun hk1 => ?_⟩
    · have := h2 hk1 hk2; omega
    · have := h3 hk1; omega
  · simp at hk
    refine ⟨h1, fun hk1 hk2 => ?_, fun hk1 => ?_⟩
    · have := h2 hk1 hk2; omega
    · have := h3 hk1; omega
theorem okS_stop {j t k : Nat} {x : TmI} (h : okS j t k x) (hj : j = 1 ∨ j = 2) (ht : t % widI j ≠ 0) : okS 3 t k x := by
  unfold okS widI at *
  obtain ⟨h1, h2, h3⟩ := h
  rcases hj with rfl | rfl
  · simp at ht
    refine ⟨h1, fun hk1 hk2 => ?_, fun hk1 => ?_⟩
    · have := h2 hk1 hk2; omega
    · have := h3 hk1; omega
  · simp at ht
    refine ⟨h1, fun hk1 hk2 => ?_, fun hk1 => ?_⟩
    · have := h2 hk1 hk2; omega
    · have := h3 hk1; omega
/-- What holds of the slots ll, of those in the air A (taken out of a slot, not yet laid anew), of the map M: all in all they are L. -/
structure InvC (j t : Nat) (ll : List (List TmI)) (A : List TmI) (M : List (Int × Value)) (L : List TmI) : Prop where
  len : ll.length = 48
  mem : ∀ x, x ∈ L ↔ x ∈ A ∨ ∃ (k : Nat) (l : List TmI), ll[k]? = some l ∧ x ∈ l
  ok : ∀ (k : Nat) (l : List TmI) (x : TmI), ll[k]? = some l → x ∈ l → okS j t k x
  pos : ∀ (k : Nat) (l : List TmI) (i : Nat) (x : TmI), ll[k]? = some l → l[i]? = some x → valG x.1 M = some (plV k i)
  nd : (L.map Prod.fst).Nodup
  air : (A.map Prod.fst).Nodup
  apart : ∀ x ∈ A, ∀ (k : Nat) (l : List TmI), ll[k]? = some l → x ∉ l
  due : ∀ x ∈ L, t ≤ x.2.1 ∧ x.2.1 ≤ t + 4095
structure InvM (M : List (Int × Value)) (L : List TmI) : Prop where
  keys : ∀ id, valG id M = none ↔ ∀ x ∈ L, x.1 ≠ id
  len : M.length = L.length
theorem nd_same {L : List TmI} (h : (L.map Prod.fst).Nodup) {x y : TmI} (hx : x ∈ L) (hy : y ∈ L) (e : x.1 = y.1) : x = y := by
  obtain ⟨i, hi⟩ := List.mem_iff_getElem?.1 hx
  obtain ⟨j, hj⟩ := List.mem_iff_getElem?.1 hy
  obtain ⟨li, ei⟩ := List.getElem?_eq_some_iff.1 hi
  obtain ⟨lj, ej⟩ := List.getElem?_eq_some_iff.1 hj
  have hp := List.pairwise_iff_getElem.1 h
  rcases Nat.lt_trichotomy i j with h1 | h1 | h1
  · exact (hp i j (by simpa using li) (by simpa using lj) h1 (by simp [ei, ej, e])).elim
  · subst h1; rw [← ei, ← ej]
  · exact (hp j i (by simpa using lj) (by simpa using li) h1 (by simp [ei, ej, e])).elim
theorem InvC.one {j t : Nat} {ll : List (List TmI)} {A : List TmI} {M : List (Int × Value)} {L : List TmI} (h : InvC j t ll A M L) {k k' i i' : Nat} {l l' : List TmI} {x y : TmI} (h1 : ll[k]? = some l) (h2 : l[i]? = some x) (h3 : ll[k']? = some l') (h4 : l'[i']? = some y) (e : x.1 = y.1) : k = k' ∧ i = i' := by
  have e1 := h.pos k l i x h1 h2
  have e2 := h.pos k' l' i' y h3 h4
  rw [e, e2] at e1
  injection e1 with e1
  have := plV_inj e1
  omega
theorem InvC.put {j t : Nat} {ll : List (List TmI)} {x : TmI} {A : List TmI} {M : List (Int × Value)} {L : List TmI} (h : InvC j t ll (x :: A) M L) (hM : (M.map Prod.fst).Nodup) {l : List TmI} (hl : ll[posI t x.2.1]? = some l) :
    InvC j t (ll.set (posI t x.2.1) (l ++ [x])) A (mpPut M x.1 (plV (posI t x.2.1) l.length)) L := by
  have hxL : x ∈ L := (h.mem x).2 (.inl (by simp))
  have hp := (List.getElem?_eq_some_iff.1 hl).1
  have hair := h.air
  rw [List.map_cons, List.nodup_cons] at hair
  have hgs : ∀ (k : Nat) (l' : List TmI), (ll.set (posI t x.2.1) (l ++ [x]))[k]? = some l' → (k = posI t x.2.1 ∧ l' = l ++ [x]) ∨ (k ≠ posI t x.2.1 ∧ ll[k]? = some l') := by
    intro k l' hk
    rw [List.getElem?_set] at hk
    by_cases e : posI t x.2.1 = k
    · rw [if_pos e, if_pos (by omega)] at hk
      injection hk with hk
      exact .inl ⟨e.symm, hk.symm⟩
    · rw [if_neg e] at hk
      exact .inr ⟨fun e2 => e e2.symm, hk⟩
  have hne : ∀ (k : Nat) (l' : List TmI), ll[k]? = some l' → ∀ y ∈ l', y.1 ≠ x.1 := by
    intro k l' hk y hy e
    have hyL : y ∈ L := (h.mem y).2 (.inr ⟨k, l', hk, hy⟩)
    have := nd_same h.nd hyL hxL e
    subst this
    exact h.apart y (by simp) k l' hk hy
  refine ⟨by rw [List.length_set]; exact h.len, fun y => ?_, fun k l' y hk hy => ?_, fun k l' i y hk hy => ?_, h.nd, hair.2, fun y hy k l' hk hm => ?_, h.due⟩
  · rw [h.mem y]
    constructor
    · rintro (hy | ⟨k, l', hk, hy⟩)
      · rcases List.mem_cons.1 hy with rfl | hy
        · exact .inr ⟨_, l ++ [y], by rw [List.getElem?_set, if_pos rfl, if_pos hp], by simp⟩
        · exact .inl hy
      · by_cases e : posI t x.2.1 = k
        · subst e
          rw [hl] at hk; injection hk with hk; subst hk
          exact .inr ⟨_, l ++ [x], by rw [List.getElem?_set, if_pos rfl, if_pos hp], by simp [hy]⟩
        · exact .inr ⟨k, l', by rw [List.getElem?_set, if_neg e]; exact hk, hy⟩
    · rintro (hy | ⟨k, l', hk, hy⟩)
      · exact .inl (by simp [hy])
      · rcases hgs k l' hk with ⟨rfl, rfl⟩ | ⟨-, hk⟩
        · rcases List.mem_append.1 hy with hy | hy
          · exact .inr ⟨_, l, hl, hy⟩
          · simp at hy; exact .inl (by simp [hy])
        · exact .inr ⟨k, l', hk, hy⟩
  · rcases hgs k l' hk with ⟨rfl, rfl⟩ | ⟨-, hk⟩
    · rcases List.mem_append.1 hy with hy | hy
      · exact h.ok _ l y hl hy
      · simp at hy; subst hy
        have := h.due y hxL
        exact okS_put this.1 this.2
    · exact h.ok k l' y hk hy
  · rw [valG_put hM]
    rcases hgs k l' hk with ⟨rfl, rfl⟩ | ⟨hkn, hk⟩
    · rcases Nat.lt_or_ge i l.length with hi | hi
      · rw [List.getElem?_append_left hi] at hy
        rw [if_neg (hne _ l hl y (List.mem_of_getElem? hy))]
        exact h.pos _ l i y hl hy
      · rw [List.getElem?_append_right hi] at hy
        have h0 : i - l.length = 0 := by
          have := (List.getElem?_eq_some_iff.1 hy).1
          simp at this; omega
        rw [h0] at hy
        simp at hy; subst hy
        rw [if_pos rfl, show i = l.length by omega]
    · rw [if_neg (hne k l' hk y (List.mem_of_getElem? hy))]
      exact h.pos k l' i y hk hy
  · rcases hgs k l' hk with ⟨rfl, rfl⟩ | ⟨-, hk⟩
    · rcases List.mem_append.1 hm with hm | hm
      · exact h.apart y (by simp [hy]) _ l hl hm
      · simp at hm; subst hm
        exact hair.1 (List.mem_map.2 ⟨y, hy, rfl⟩)
    · exact h.apart y (by simp [hy]) k l' hk hm
theorem InvM.put {M : List (Int × Value)} {L : List TmI} (h : InvM M L) (hM : (M.map Prod.fst).Nodup) {x : TmI} (hx : x ∈ L) (v : Value) : InvM (mpPut M x.1 v) L := by
  have hv : valG x.1 M ≠ none := fun e => (h.keys x.1).1 e x hx rfl
  refine ⟨fun id => ?_, by rw [put_len, if_neg hv]; exact h.len⟩
  rw [valG_put hM]
  by_cases e : id = x.1
  · subst e
    constructor
    · intro e2; simp at e2
    · intro h2; exact absurd rfl (h2 x hx)
  · rw [if_neg e]; exact h.keys id
theorem InvM.add {M : List (Int × Value)} {L : List TmI} (h : InvM M L) (hM : (M.map Prod.fst).Nodup) {x : TmI} (hx : ∀ y ∈ L, y.1 ≠ x.1) (v : Value) : InvM (mpPut M x.1 v) (L ++ [x]) := by
  have hv : valG x.1 M = none := (h.keys x.1).2 hx
  refine ⟨fun id => ?_, by rw [put_len, if_pos hv, h.len]; simp⟩
  rw [valG_put hM]
  by_cases e : id = x.1
  · subst e
    constructor
    · intro e2; simp at e2
    · intro h2; exact absurd rfl (h2 x (by simp))
  · rw [if_neg e, h.keys id]
    constructor
    · intro h1 y hy
      rcases List.mem_append.1 hy with hy | hy
      · exact h1 y hy
      · simp at hy; subst hy; exact fun e2 => e e2.symm
    · intro h1 y hy
      exact h1 y (by simp [hy])
theorem InvC.fresh {j t : Nat} {ll : List (List TmI)} {M : List (Int × Value)} {L : List TmI} (h : InvC j t ll [] M L) {x : TmI} (hx : ∀ y ∈ L, y.1 ≠ x.1) (hd : t ≤ x.2.1 ∧ x.2.1 ≤ t + 4095) : InvC j t ll [x] M (L ++ [x]) := by
  refine ⟨h.len, fun y => ?_, h.ok, h.pos, ?_, by simp, fun y hy k l hk hm => ?_, fun y hy => ?_⟩
  · rw [List.mem_append, h.mem y]
    simp
    constructor
    · rintro (h1 | h1)
      · exact .inr h1
      · exact .inl h1
    · rintro (h1 | h1)
      · exact .inr h1
      · exact .inl h1
  · rw [List.map_append, List.nodup_append]
    refine ⟨h.nd, by simp, fun a ha b hb e => ?_⟩
    obtain ⟨y, hy, rfl⟩ := List.mem_map.1 ha
    simp at hb
    exact hx y hy (by rw [e, hb])
  · simp at hy; subst hy
    exact hx y ((h.mem y).2 (.inr ⟨k, l, hk, hm⟩)) rfl
  · rcases List.mem_append.1 hy with hy | hy
    · exact h.due y hy
    · simp at hy; subst hy; exact hd
/-- A slot taken out. -/
theorem InvC.empty {j t : Nat} {ll : List (List TmI)} {M : List (Int × Value)} {L : List TmI} (h : InvC j t ll [] M L) {k : Nat} {l : List TmI} (hl : ll[k]? = some l) : InvC j t (ll.set k []) l M L := by
  have hp := (List.getElem?_eq_some_iff.1 hl).1
  have hgs : ∀ (k' : Nat) (l' : List TmI), (ll.set k [])[k']? = some l' → (k' = k ∧ l' = []) ∨ (k' ≠ k ∧ ll[k']? = some l') := by
    intro k' l' hk
    rw [List.getElem?_set] at hk
    by_cases e : k = k'
    · rw [if_pos e, if_pos (by omega)] at hk
      injection hk with hk
      exact .inl ⟨e.symm, hk.symm⟩
    · rw [if_neg e] at hk
      exact .inr ⟨fun e2 => e e2.symm, hk⟩
  refine ⟨by rw [List.length_set]; exact h.len, fun y => ?_, fun k' l' y hk hy => ?_, fun k' l' i y hk hy => ?_, h.nd, ?_, fun y hy k' l' hk hm => ?_, h.due⟩
  · rw [h.mem y]
    constructor
    · rintro (hy | ⟨k', l', hk, hy⟩)
      · simp at hy
      · by_cases e : k = k'
        · subst e
          rw [hl] at hk; injection hk with hk; subst hk
          exact .inl hy
        · exact .inr ⟨k', l', by rw [List.getElem?_set, if_neg e]; exact hk, hy⟩
    · rintro (hy | ⟨k', l', hk, hy⟩)
      · exact .inr ⟨k, l, hl, hy⟩
      · rcases hgs k' l' hk with ⟨rfl, rfl⟩ | ⟨-, hk⟩
        · simp at hy
        · exact .inr ⟨k', l', hk, hy⟩
  · rcases hgs k' l' hk with ⟨rfl, rfl⟩ | ⟨-, hk⟩
    · simp at hy
    · exact h.ok k' l' y hk hy
  · rcases hgs k' l' hk with ⟨rfl, rfl⟩ | ⟨-, hk⟩
    · simp at hy
    · exact h.pos k' l' i y hk hy
  · show ((l.map Prod.fst).Pairwise fun a b => a ≠ b)
    rw [List.pairwise_iff_getElem]
    intro a b ha hb hab e
    simp at ha hb
    simp at e
    have := h.one hl (List.getElem?_eq_getElem ha) hl (List.getElem?_eq_getElem hb) e
    omega
  · rcases hgs k' l' hk with ⟨rfl, rfl⟩ | ⟨hne, hk⟩
    · simp at hm
    · obtain ⟨i, hi⟩ := List.mem_iff_getElem?.1 hy
      obtain ⟨i', hi'⟩ := List.mem_iff_getElem?.1 hm
      have := h.one hl hi hk hi' rfl
      omega
theorem InvC.mono {j j' t t' : Nat} {ll : List (List TmI)} {A : List TmI} {M : List (Int × Value)} {L : List TmI} (h : InvC j t ll A M L) (ho : ∀ (k : Nat) (l : List TmI) (x : TmI), ll[k]? = some l → x ∈ l → okS j t k x → okS j' t' k x) (hd : ∀ x ∈ L, t' ≤ x.2.1 ∧ x.2.1 ≤ t' + 4095) : InvC j' t' ll A M L :=
  ⟨h.len, h.mem, fun k l x hl hx => ho k l x hl hx (h.ok k l x hl hx), h.pos, h.nd, h.air, h.apart, hd⟩
theorem InvC.tick {t : Nat} {ll : List (List TmI)} {M : List (Int × Value)} {L : List TmI} (h : InvC 3 t ll [] M L) (hd : ∀ x ∈ L, t < x.2.1 ∧ x.2.1 ≤ t + 4095) : InvC 1 (t + 1) ll [] M L :=
  h.mono (fun k l x hl hx ho => okS_tick ho (hd x ((h.mem x).2 (.inr ⟨k, l, hl, hx⟩))).1) (fun x hx => by have := hd x hx; omega)
theorem InvC.next {j t : Nat} {ll : List (List TmI)} {A : List TmI} {M : List (Int × Value)} {L : List TmI} (h : InvC j t ll A M L) (hj : j = 1 ∨ j = 2) (he : ll[16 * j + slotI j t]? = some []) : InvC (j + 1) t ll A M L :=
  h.mono (fun k l x hl hx ho => okS_next ho hj (fun e => by rw [e, he] at hl; injection hl with hl; rw [← hl] at hx; simp at hx)) h.due
theorem InvC.stop {j t : Nat} {ll : List (List TmI)} {A : List TmI} {M : List (Int × Value)} {L : List TmI} (h : InvC j t ll A M L) (hj : j = 1 ∨ j = 2) (ht : t % widI j ≠ 0) : InvC 3 t ll A M L :=
  h.mono (fun k l x hl hx ho => okS_stop ho hj ht) h.due
end Go.Proofs.Ythkjfgegmbdebaa
