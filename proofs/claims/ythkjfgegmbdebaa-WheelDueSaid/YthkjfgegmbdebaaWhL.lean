/-
  WheelDue, plainly: when each id is due, in a row of numbers; the law's own row in memory.
-/
import Derived.Test.YthkjfgegmbdebaaWhK
namespace Go.Proofs.Ythkjfgegmbdebaa
open Go.RowKit
set_option linter.unusedVariables false

def prK (x : TmI) : Int × Nat := (x.1, x.2.1)
/-- Which ids wait, and until when. -/
def entK : List Int → Nat → List (Int × Nat)
  | [], _ => []
  | d :: r, k => if 0 ≤ d then ((k : Int), d.toNat) :: entK r (k + 1) else entK r (k + 1)
/-- Which ids are due at v. -/
def idsK (v : Nat) : List Int → Nat → List Int
  | [], _ => []
  | d :: r, k => if d = (v : Int) then (k : Int) :: idsK v r (k + 1) else idsK v r (k + 1)
def gone (v : Nat) (d : Int) : Int := if d = (v : Int) then -1 else d
theorem entK_app : ∀ (A B : List Int) (k : Nat), entK (A ++ B) k = entK A k ++ entK B (k + A.length)
  | [], B, k => by simp [entK]
  | d :: A, B, k => by
    rw [List.cons_append, entK, entK, entK_app A B (k + 1), List.length_cons, show k + 1 + A.length = k + (A.length + 1) by omega]
    split <;> rfl
theorem idsK_app (v : Nat) : ∀ (A B : List Int) (k : Nat), idsK v (A ++ B) k = idsK v A k ++ idsK v B (k + A.length)
  | [], B, k => by simp [idsK]
  | d :: A, B, k => by
    rw [List.cons_append, idsK, idsK, idsK_app v A B (k + 1), List.length_cons, show k + 1 + A.length = k + (A.length + 1) by omega]
    split <;> rfl
theorem entK_mem {z : Int} {n : Nat} : ∀ {D : List Int} {k : Nat}, (z, n) ∈ entK D k ↔ ∃ (j : Nat) (d : Int), D[j]? = some d ∧ 0 ≤ d ∧ z = ((k + j : Nat) : Int) ∧ n = d.toNat
  | [], k => by simp [entK]
  | d :: r, k => by
    have ih := entK_mem (z := z) (n := n) (D := r) (k := k + 1)
    have e : (∃ (j : Nat) (d' : Int), (d :: r)[j]? = some d' ∧ 0 ≤ d' ∧ z = ((k + j : Nat) : Int) ∧ n = d'.toNat) ↔ (0 ≤ d ∧ z = (k : Int) ∧ n = d.toNat) ∨ ∃ (j : Nat) (d' : Int), r[j]? = some d' ∧ 0 ≤ d' ∧ z = ((k + 1 + j : Nat) : Int) ∧ n = d'.toNat := by
      constructor
      · rintro ⟨j, d', h1, h2, h3, h4⟩
        cases j with
        | zero => simp at h1; subst h1; exact .inl ⟨h2, by simpa using h3, h4⟩
        | succ j => exact .inr ⟨j, d', by simpa using h1, h2, by rw [h3]; congr 1; omega, h4⟩
      · rintro (⟨h2, h3, h4⟩ | ⟨j, d', h1, h2, h3, h4⟩)
        · exact ⟨0, d, rfl, h2, by simpa using h3, h4⟩
        · exact ⟨j + 1, d', by simpa using h1, h2, by rw [h3]; congr 1; omega, h4⟩
    rw [e, ← ih, entK]
    by_cases h : 0 ≤ d
    · rw [if_pos h, List.mem_cons]
      constructor
      · rintro (h1 | h1)
        · injection h1 with h1 h2; exact .inl ⟨h, h1, h2⟩
        · exact .inr h1
      · rintro (⟨-, h1, h2⟩ | h1)
        · exact .inl (by rw [h1, h2])
        · exact .inr h1
    · rw [if_neg h]
      constructor
      · exact .inr
      · rintro (⟨h1, -⟩ | h1)
        · exact absurd h1 h
        · exact h1
theorem entK_low : ∀ {D : List Int} {k : Nat} {e : Int × Nat}, e ∈ entK D k → (k : Int) ≤ e.1 := by
  intro D k e he
  obtain ⟨z, n⟩ := e
  obtain ⟨j, d, -, -, h, -⟩ := entK_mem.1 he
  simp only; omega
theorem entK_set : ∀ (D : List Int) (b k : Nat), (entK D b).filter (fun e => !decide (e.1 = ((b + k : Nat) : Int))) = entK (D.set k (-1)) b
  | [], b, k => rfl
  | d :: r, b, 0 => by
    rw [List.set_cons_zero, entK, entK, if_neg (by decide : ¬ (0 : Int) ≤ -1)]
    have : (entK r (b + 1)).filter (fun e => !decide (e.1 = ((b + 0 : Nat) : Int))) = entK r (b + 1) := List.filter_eq_self.2 fun e he => by
      have := entK_low he
      simp; omega
    by_cases h : 0 ≤ d
    · rw [if_pos h, List.filter_cons_of_neg (by simp), this]
    · rw [if_neg h, this]
  | d :: r, b, k + 1 => by
    rw [List.set_cons_succ, entK, entK]
    have ih := entK_set r (b + 1) k
    rw [show b + 1 + k = b + (k + 1) by omega] at ih
    by_cases h : 0 ≤ d
    · rw [if_pos h, if_pos h, List.filter_cons_of_pos (by simp; omega), ih]
    · rw [if_neg h, if_neg h, ih]
theorem entK_due (v : Nat) : ∀ (D : List Int) (b : Nat), ((entK D b).filter fun e => decide (e.2 = v)).map Prod.fst = idsK v D b
  | [], b => rfl
  | d :: r, b => by
    have ih := entK_due v r (b + 1)
    rw [entK, idsK]
    by_cases h : 0 ≤ d
    · rw [if_pos h]
      by_cases e : d = (v : Int)
      · rw [if_pos e, List.filter_cons_of_pos (by simp; omega), List.map_cons, ih]
      · rw [if_neg e, List.filter_cons_of_neg (by simp; omega), ih]
    · rw [if_neg h, if_neg (by omega), ih]
theorem entK_tik (v : Nat) : ∀ (D : List Int) (b : Nat), ((entK D b).filter fun e => !decide (e.2 = v)) = entK (D.map (gone v)) b
  | [], b => rfl
  | d :: r, b => by
    have ih := entK_tik v r (b + 1)
    rw [List.map_cons, entK, entK]
    unfold gone
    by_cases h : 0 ≤ d
    · rw [if_pos h]
      by_cases e : d = (v : Int)
      · rw [if_pos e, List.filter_cons_of_neg (by simp; omega), if_neg (by decide : ¬ (0 : Int) ≤ -1)]
        exact ih
      · rw [if_neg e, List.filter_cons_of_pos (by simp; omega), if_pos h]
        exact congrArg _ ih
    · rw [if_neg h, if_neg (by omega)]
      exact ih
/-- The law's row says what waits. -/
def RelD (L : List TmI) (D : List Int) : Prop := L.map prK = entK D 0
theorem RelD.nil : RelD [] [] := rfl
theorem RelD.has {L : List TmI} {D : List Int} (h : RelD L D) {k : Nat} : wAt L (k : Int) ≠ 0 ↔ ∃ d, D[k]? = some d ∧ 0 ≤ d := by
  rw [ne_eq, wAt_zero]
  constructor
  · intro hn
    refine Classical.byContradiction fun hc => hn fun x hx e => hc ?_
    have : (x.1, x.2.1) ∈ entK D 0 := by rw [← h]; exact List.mem_map.2 ⟨x, hx, rfl⟩
    obtain ⟨j, d, h1, h2, h3, -⟩ := entK_mem.1 this
    exact ⟨d, by rw [show k = j by omega]; exact h1, h2⟩
  · rintro ⟨d, h1, h2⟩ hn
    have : ((k : Int), d.toNat) ∈ entK D 0 := entK_mem.2 ⟨k, d, h1, h2, by rw [Nat.zero_add], rfl⟩
    rw [← h] at this
    obtain ⟨x, hx, e⟩ := List.mem_map.1 this
    exact hn x hx (by unfold prK at e; injection e)
theorem RelD.fresh {L : List TmI} {D : List Int} (h : RelD L D) : wAt L (D.length : Int) = 0 := by
  refine Classical.byContradiction fun hc => ?_
  obtain ⟨d, h1, -⟩ := h.has.1 hc
  have := (List.getElem?_eq_some_iff.1 h1).1
  omega
theorem RelD.none {L : List TmI} {D : List Int} (h : RelD L D) : RelD L (D ++ [-1]) := by
  unfold RelD at *
  rw [entK_app, h]
  simp [entK]
theorem RelD.some {L : List TmI} {D : List Int} (h : RelD L D) (n a : Nat) : RelD (L ++ [((D.length : Int), n, a)]) (D ++ [(n : Int)]) := by
  unfold RelD at *
  rw [entK_app, List.map_append, h]
  simp [entK, prK]
theorem RelD.can {L : List TmI} {D : List Int} (h : RelD L D) (k : Nat) : RelD (canL L (k : Int)) (D.set k (-1)) := by
  unfold RelD canL at *
  have := entK_set D 0 k
  rw [Nat.zero_add] at this
  rw [← this, ← h, List.filter_map]
  rfl
theorem RelD.due {L : List TmI} {D : List Int} (h : RelD L D) (v : Nat) : (dueL L v).map Prod.fst = idsK v D 0 := by
  unfold RelD dueL at *
  rw [← entK_due, ← h, List.filter_map, List.map_map]
  rfl
theorem RelD.tik {L : List TmI} {D : List Int} (h : RelD L D) (v : Nat) : RelD (tikL L v) (D.map (gone v)) := by
  unfold RelD tikL at *
  rw [← entK_tik, ← h, List.filter_map]
  rfl
/-- How many of the first j are due at v. -/
def cntK (v : Nat) (D : List Int) (j : Nat) : Nat := (idsK v (D.take j) 0).length
theorem cntK_zero (v : Nat) (D : List Int) : cntK v D 0 = 0 := rfl
theorem take_sp {D : List Int} {j : Nat} {d : Int} (h : D[j]? = some d) : D = D.take j ++ d :: D.drop (j + 1) := by
  obtain ⟨h1, h2⟩ := List.getElem?_eq_some_iff.1 h
  subst h2
  rw [← List.drop_eq_getElem_cons h1, List.take_append_drop]
theorem take_suc {D : List Int} {j : Nat} {d : Int} (h : D[j]? = some d) : D.take (j + 1) = D.take j ++ [d] := by
  obtain ⟨h1, h2⟩ := List.getElem?_eq_some_iff.1 h
  subst h2
  rw [List.take_succ_eq_append_getElem h1]
theorem cntK_succ {v : Nat} {D : List Int} {j : Nat} {d : Int} (h : D[j]? = some d) : cntK v D (j + 1) = cntK v D j + if d = (v : Int) then 1 else 0 := by
  unfold cntK
  rw [take_suc h, idsK_app, List.length_append]
  congr 1
  unfold idsK
  split <;> rfl
theorem cntK_at {v : Nat} {D : List Int} {j : Nat} (h : D[j]? = some (v : Int)) : (idsK v D 0)[cntK v D j]? = some (j : Int) := by
  have hl := (List.getElem?_eq_some_iff.1 h).1
  unfold cntK
  conv => lhs; lhs; rw [take_sp h, idsK_app]
  rw [List.getElem?_append_right (Nat.le_refl _), Nat.sub_self, idsK, if_pos rfl]
  simp
  omega
theorem cntK_all {v : Nat} {D : List Int} {n : Nat} (h : D.length ≤ n) : cntK v D n = (idsK v D 0).length := by unfold cntK; rw [List.take_of_length_le h]
/-- The row when j have been looked at. -/
def parK (v : Nat) (D : List Int) (j : Nat) : List Int := (D.take j).map (gone v) ++ D.drop j
theorem parK_zero (v : Nat) (D : List Int) : parK v D 0 = D := by simp [parK]
theorem parK_all {v : Nat} {D : List Int} {n : Nat} (h : D.length ≤ n) : parK v D n = D.map (gone v) := by unfold parK; rw [List.take_of_length_le h, List.drop_of_length_le h, List.append_nil]
theorem parK_len (v : Nat) (D : List Int) (j : Nat) : (parK v D j).length = D.length := by unfold parK; simp; omega
theorem parK_at {v : Nat} {D : List Int} {j : Nat} {d : Int} (h : D[j]? = some d) : (parK v D j)[j]? = some d := by
  have hl := (List.getElem?_eq_some_iff.1 h).1
  unfold parK
  rw [List.getElem?_append_right (by simp; omega)]
  simp
  rw [show j - min j D.length = 0 by omega]
  simpa using h
theorem parK_on {v : Nat} {D : List Int} {j : Nat} (h : D[j]? = some (v : Int)) : parK v D (j + 1) = (parK v D j).set j (-1) := by
  have hl := (List.getElem?_eq_some_iff.1 h).1
  have hd : D.drop j = (v : Int) :: D.drop (j + 1) := by
    rw [List.drop_eq_getElem_cons hl, (List.getElem?_eq_some_iff.1 h).2]
  unfold parK
  rw [take_suc h, List.map_append, hd, List.set_append, if_neg (by simp; omega)]
  simp [gone]
  rw [show j - min j D.length = 0 by omega]
  rfl
theorem parK_off {v : Nat} {D : List Int} {j : Nat} {d : Int} (h : D[j]? = some d) (hne : d ≠ (v : Int)) : parK v D (j + 1) = parK v D j := by
  have hl := (List.getElem?_eq_some_iff.1 h).1
  have hd : D.drop j = d :: D.drop (j + 1) := by
    rw [List.drop_eq_getElem_cons hl, (List.getElem?_eq_some_iff.1 h).2]
  unfold parK
  rw [take_suc h, List.map_append, hd]
  simp [gone, hne]
/-- The law's row in memory. -/
structure DR (w wr : World) (F : List Nat) (A : Option Addr) (n c : Nat) (D : List Int) : Prop where
  own : wr.ownsRow 0 3 1 (.slice A n c) n (ints D)
  non : ∀ s ∈ obI (.slice A n c), s ∉ F ∧ w.heap.size ≤ s
section
variable {w wr w' : World} {F F' : List Nat} {A : Option Addr} {n c : Nat} {D : List Int}
theorem DR.len (h : DR w wr F A n c D) : D.length = n := by have := h.own.1; rw [ints_len] at this; omega
theorem DR.go (h : DR w wr F A n c D) (hg : Goes wr w' F F') : DR w w' F' A n c D :=
  ⟨own_tch h.own hg.tch (fun s hs => (h.non s hs).1), fun s hs => ⟨fun hm => by
    rcases hg.fre s hm with h1 | h1
    · exact (h.non s hs).1 h1
    · have := own_lts h.own s hs; omega, (h.non s hs).2⟩⟩
theorem DR.tch0 (h : DR w wr F A n c D) (ht : Tch wr w' []) : DR w w' F A n c D := ⟨own_tch h.own ht (by simp), h.non⟩
theorem Std.tchN {p t a : Nat} {L : List TmI} {S : List Nat} (h : Std w wr p t a L F) (ht : Tch wr w' S) (hs : ∀ s ∈ S, s ∉ F ∧ w.heap.size ≤ s) : Std w w' p t a L F :=
  ⟨h.wh.tch ht (fun s hs2 hs3 => (hs s hs3).1 hs2), h.bel.trans (ht.below h.bel.size (fun s hs2 => (hs s hs2).2)), h.abv⟩
theorem Std.tickB {p t a : Nat} {L : List TmI} (h : Std w wr p t a L F) (ht : t ≤ 90000000) :
    Calls Try.prog 16 #[ptrV p] wr fun e w' => ∃ A c F', e = .returned (.slice A (dueL L (t + 1)).length c) ∧ Std w w' p (t + 1) a (tikL L (t + 1)) F' ∧ Goes wr w' F F' ∧ SlI w' A (dueL L (t + 1)).length ((dueL L (t + 1)).map Prod.fst) ∧ ∀ g, A = some ⟨g, 0, none⟩ → wr.heap.size ≤ g := by
  refine (tickP h.wh ht).mono ?_
  rintro e w' ⟨A, c, F', rfl, h1, h2, h3, h4⟩
  rw [ids_ints] at h1
  refine ⟨A, c, F', rfl, h.go h2 h3, h3, SlI.of_own h1, fun g e => ?_⟩
  subst e; exact own_ge h1 g (by simp [obI, Value.ownBlock])
/-- One number of the row set anew. -/
theorem DR.set_ {g i : Nat} (h : DR w wr F (some ⟨g, 0, none⟩) n c D) (hi : i < n) (d : Int) : DR w (wr.setCell ⟨g, i, none⟩ (.int .i64 d)) F (some ⟨g, 0, none⟩) n c (D.set i d) ∧ Tch wr (wr.setCell ⟨g, i, none⟩ (.int .i64 d)) [g] := by
  refine ⟨⟨?_, h.non⟩, (Tch.refl wr [g]).set_ (by simp) _⟩
  have := own_set1 h.own hi (.int .i64 d)
  unfold ints at *
  rw [List.map_set]
  exact this
theorem DR.cell {g i : Nat} {d : Int} (h : DR w wr F (some ⟨g, 0, none⟩) n c D) (hd : D[i]? = some d) : wr.cell? ⟨g, i, none⟩ = some (.int .i64 d) ∧ wr.frozen? ⟨g, i, none⟩ = false :=
  ⟨own_cell h.own (ints_at hd), own_frozen h.own i⟩
end
end Go.Proofs.Ythkjfgegmbdebaa
