/-
  Several texts in one: Mpk, RpA.
-/
import Derived.Test.YtgfkmgbcajdcdaaGreatDoorZac
import Derived.Maps.RangeWalk
import Derived.Test.YtgfkmgbcajdcdaaGreatDoorZae
import Derived.Test.YtgfkmgbcajdcdaaGreatDoorZad
import Derived.Test.YtgfkmgbcajdcdaaGreatDoorZaa
set_option linter.unusedVariables false
set_option maxRecDepth 100000
set_option maxHeartbeats 16000000
namespace Go.Proofs.YtgfkmgbcajdcdaaGreatDoor
open Go.RowKit Go.ChangeMaps
set_option linter.unusedSectionVars false

structure KeyT {κ : Type} [DecidableEq κ] (k : TypeId) (kv : κ → Value) : Prop where
 und : ∃ fs, Tryz.prog.underlying k = some (.struct fs)
 agg : ∀ x, ∃ cs, kv x = .agg cs
 eq : ∀ x y W, (Op.equal k (kv x) (kv y)).run Tryz.prog W = .ok (decide (x = y)) W
 chk : ∀ b x W, (Instr.checkKey b 10000 k (kv x)).run Tryz.prog W = .ok () W
 same : ∀ x, Instr.sameBits 10000 (kv x) (kv x) = true
section
variable {κ : Type} [DecidableEq κ] {k : TypeId} {kv : κ → Value}
theorem KeyT.inj (K : KeyT k kv) {x y : κ} (h : kv x = kv y) : x = y := by
 have h1 := K.eq x x default
 have h2 := K.eq x y default
 rw [← h, h1] at h2
 injection h2 with h2
 simpa using h2.symm
def mpG (p : κ) : List (κ × Value) → Nat → Option (Nat × Value)
 | [], _ => none
 | x :: r, i => if p = x.1 then some (i, x.2) else mpG p r (i + 1)
theorem mpG_none {p : κ} {M : List (κ × Value)} {i : Nat} : mpG p M i = none ↔ ∀ x ∈ M, ¬ x.1 = p := by
 induction M generalizing i with
 | nil => simp [mpG]
 | cons y r ih =>
  unfold mpG
  by_cases h : p = y.1
  ·rw [if_pos h]
   simp
   exact fun e => absurd h.symm e
  ·rw [if_neg h, ih]
   simp
   exact fun _ e => h e.symm
theorem mpG_some {p : κ} {M : List (κ × Value)} {i j : Nat} {v : Value} (h : mpG p M i = some (j, v)) : ∃ q, j = i + q ∧ M[q]? = some (p, v) := by
 induction M generalizing i with
 | nil => simp [mpG] at h
 | cons y r ih =>
  unfold mpG at h
  by_cases e : p = y.1
  ·rw [if_pos e] at h
   injection h with h
   injection h with h1 h2
   refine ⟨0, by omega, ?_⟩
   rw [e, ← h2]; rfl
  ·rw [if_neg e] at h
   obtain ⟨q, h1, h2⟩ := ih h
   exact ⟨q + 1, by omega, by simpa using h2⟩
theorem mpG_mem {p : κ} {M : List (κ × Value)} {v : Value} (hn : (M.map Prod.fst).Nodup) (h : (p, v) ∈ M) (i : Nat) : ∃ q, M[q]? = some (p, v) ∧ mpG p M i = some (i + q, v) := by
 induction M generalizing i with
 | nil => simp at h
 | cons y r ih =>
  rw [List.map_cons, List.nodup_cons] at hn
  unfold mpG
  rcases List.mem_cons.1 h with e | e
  ·exact ⟨0, by simp [e], by rw [if_pos (by rw [← e]), ← e]; rfl⟩
  ·have hne : ¬ p = y.1 := fun e1 => hn.1 (by rw [← e1]; exact List.mem_map.2 ⟨_, e, rfl⟩)
   obtain ⟨q, h1, h2⟩ := ih hn.2 e (i + 1)
   exact ⟨q + 1, by simpa using h1, by rw [if_neg hne, h2]; congr 2; omega⟩
def MpIs (kv : κ → Value) (w : World) (m : Nat) (M : List (κ × Value)) : Prop :=
 ∃ (es : Array MapEntry) (clock : Nat), w.heap[m]? = some (.map es clock) ∧ es.toList.map (fun e => (e.key, e.val)) = M.map (fun x => (kv x.1, x.2)) ∧ (M.map Prod.fst).Nodup ∧ (es.toList.map (·.born)).Nodup ∧ ∀ e ∈ es.toList, e.born < clock
theorem MpIs.nodup {w : World} {m : Nat} {M : List (κ × Value)} (h : MpIs kv w m M) : (M.map Prod.fst).Nodup := by
 obtain ⟨es, clock, h1, h2, h3, h4, h5⟩ := h; exact h3
theorem MpIs.lt {w : World} {m : Nat} {M : List (κ × Value)} (h : MpIs kv w m M) : m < w.heap.size := by
 obtain ⟨es, clock, h1, -⟩ := h
 exact (Array.getElem?_eq_some_iff.1 h1).1
theorem MpIs.tch {w w' : World} {m : Nat} {M : List (κ × Value)} {T : List Nat} (h : MpIs kv w m M) (ht : Tch w w' T) (hn : m ∉ T) : MpIs kv w' m M := by
 have hl := h.lt
 obtain ⟨es, clock, h1, h2⟩ := h
 exact ⟨es, clock, (ht.block m hl hn).trans h1, h2⟩
theorem run_asking (K : KeyT k kv) (p : κ) (W : World) : ∀ (es : List MapEntry) (M : List (κ × Value)) (i : Nat), es.map (fun e => (e.key, e.val)) = M.map (fun x => (kv x.1, x.2)) → (Instr.findAsking k (kv p) es i).run Tryz.prog W = .ok (mpG p M i) W
 | [], [], i, _ => by simp [Instr.findAsking, mpG]
 | [], _ :: _, i, h => by simp at h
 | _ :: _, [], i, h => by simp at h
 | e :: es, x :: M, i, h => by
  rw [List.map_cons, List.map_cons] at h
  injection h with h1 h2
  injection h1 with h1 h3
  unfold Instr.findAsking mpG
  rw [h1, h3]
  simp only [Sem.run_bind, K.eq, Result.andThen]
  by_cases hp : p = x.1
  ·simp [hp]
  ·simp [hp, run_asking K p W es M (i + 1) h2]
theorem run_findKey (K : KeyT k kv) (p : κ) (W : World) {es : List MapEntry} {M : List (κ × Value)} (h : es.map (fun e => (e.key, e.val)) = M.map (fun x => (kv x.1, x.2))) : (Instr.findKey k (kv p) es).run Tryz.prog W = .ok (mpG p M 0) W := by
 obtain ⟨fs, hu⟩ := K.und
 obtain ⟨cs, hc⟩ := K.agg p
 cases es with
 | nil =>
  cases M with
  | nil => simp [Instr.findKey, run_underlying hu, Instr.findNow, mpG, Result.andThen]
  | cons x M => simp at h
 | cons e es =>
  have hn : Instr.findNow (.struct fs) (kv p) (e :: es) 0 = none := by
   rw [hc]; simp [Instr.findNow, Instr.sameNow]
  have ha := run_asking K p W (e :: es) M 0 h
  simp [Instr.findKey, run_underlying hu, hn, Result.andThen, ha]
def mpV (M : List (κ × Value)) (p : κ) (z : Value) : Value := match mpG p M 0 with | some (_, v) => v | none => z
theorem MpIs.lookup {w : World} {m : Nat} {M : List (κ × Value)} (h : MpIs kv w m M) (K : KeyT k kv) {t e : TypeId} (ht : Tryz.prog.underlying t = some (.map k e)) {z : Value} (hz : (zeroValue e).run Tryz.prog w = .ok z w) (p : κ) :
  (Instr.lookup t (.map (some m)) (kv p) false).run Tryz.prog w = .ok (mpV M p z) w := by
 obtain ⟨es, clock, h1, h2, h3, h4, h5⟩ := h
 have hf := run_findKey K p w h2
 unfold mpV
 cases hg : mpG p M 0 with
 | none => simp [Instr.lookup, run_underlying ht, MapKept.run_getObj_map h1, K.chk, hf, hg, hz, Result.andThen]
 | some a => simp [Instr.lookup, run_underlying ht, MapKept.run_getObj_map h1, K.chk, hf, hg, Result.andThen]
theorem MpIs.len {w : World} {m : Nat} {M : List (κ × Value)} (h : MpIs kv w m M) {t e : TypeId} (ht : Tryz.prog.underlying t = some (.map k e)) (ty : TypeId) :
  (Builtin.len_ #[t] ty #[.map (some m)]).run Tryz.prog w = .ok (goInt M.length) w := by
 obtain ⟨es, clock, h1, h2, h3, h4, h5⟩ := h
 have hl := congrArg List.length h2
 simp at hl
 simp [Builtin.len_, run_underlying ht, MapKept.run_getObj_map h1, hl, Result.andThen]
theorem mpTch {w : World} {m : Nat} {es : Array MapEntry} {clock : Nat} (hb : w.heap[m]? = some (.map es clock)) (o : Obj) : Tch w (setBlock w m o) [m] :=
 ⟨rfl, rfl, rfl, by simp [setBlock], fun i hi hn => heap_setBlock_other hb o (fun e => hn (by simp [e]))⟩
def mpPut (M : List (κ × Value)) (p : κ) (v : Value) : List (κ × Value) := match mpG p M 0 with | some (j, _) => M.set j (p, v) | none => M ++ [(p, v)]
def mpDel (M : List (κ × Value)) (p : κ) : List (κ × Value) := match mpG p M 0 with | some (j, _) => M.eraseIdx j | none => M
theorem MpIs.update {w : World} {m : Nat} {M : List (κ × Value)} (h : MpIs kv w m M) (K : KeyT k kv) {t e : TypeId} (ht : Tryz.prog.underlying t = some (.map k e)) (p : κ) (v : Value) :
  ∃ w', (Instr.mapUpdate t (.map (some m)) (kv p) v).run Tryz.prog w = .ok () w' ∧ MpIs kv w' m (mpPut M p v) ∧ Tch w w' [m] ∧ w'.heap.size = w.heap.size := by
 obtain ⟨es, clock, h1, h2, h3, h4, h5⟩ := h
 have hf := run_findKey K p w h2
 unfold mpPut
 cases hg : mpG p M 0 with
 | none =>
  refine ⟨setBlock w m (.map (es.push { key := kv p, val := v, born := clock }) (clock + 1)), ?_, ⟨es.push { key := kv p, val := v, born := clock }, clock + 1, heap_setBlock_same h1 _, ?_, ?_, ?_, ?_⟩, mpTch h1 _, by simp [setBlock]⟩
  ·simp [Instr.mapUpdate, run_underlying ht, MapKept.run_getObj_map h1, K.chk, hf, hg, MapKept.run_setObj_map _ h1, Result.andThen, setBlock]
  ·simp [h2]
  ·have := mpG_none.1 hg
   rw [List.map_append, List.nodup_append]
   refine ⟨h3, by simp, fun a ha b hb e => ?_⟩
   simp at hb
   obtain ⟨x, hx, rfl⟩ := List.mem_map.1 ha
   exact this x hx (by rw [e, hb])
  ·rw [Array.toList_push, List.map_append, List.nodup_append]
   refine ⟨h4, by simp, fun a ha b hb e => ?_⟩
   simp at hb
   obtain ⟨x, hx, rfl⟩ := List.mem_map.1 ha
   have := h5 x hx
   omega
  ·intro x hx
   simp at hx
   rcases hx with hx | rfl
   ·have := h5 x (by simpa using hx); omega
   ·simp
 | some a =>
  obtain ⟨j, u⟩ := a
  obtain ⟨q, e, hq⟩ := mpG_some hg
  obtain rfl : j = q := by omega
  have hlen : es.toList.length = M.length := by have := congrArg List.length h2; simpa using this
  have hjM := (List.getElem?_eq_some_iff.1 hq).1
  have hj : j < es.size := by rw [← Array.length_toList]; omega
  have hje : (es[j]'hj).key = kv p := by
   have := congrArg (fun l => l[j]?) h2
   simp only [List.getElem?_map] at this
   rw [hq, Array.getElem?_toList, Array.getElem?_eq_getElem hj] at this
   simp at this
   exact this.1
  refine ⟨setBlock w m (.map (es.modify j fun e => { e with key := kv p, val := v }) clock), ?_, ⟨es.modify j fun e => { e with key := kv p, val := v }, clock, heap_setBlock_same h1 _, ?_, ?_, ?_, ?_⟩, mpTch h1 _, by simp [setBlock]⟩
  ·have hks : (Instr.keyThatStays (kv p) (kv p)).run Tryz.prog w = .ok (kv p) w := by simp [Instr.keyThatStays, K.same]
   simp [Instr.mapUpdate, run_underlying ht, MapKept.run_getObj_map h1, K.chk, hf, hg, Array.getElem?_eq_getElem hj, hje, hks, MapKept.run_setObj_map _ h1, Result.andThen, setBlock]
  ·have e1 : (es.modify j fun e => { e with key := kv p, val := v }).toList = es.toList.modify j fun e => { e with key := kv p, val := v } := Array.toList_modify
   rw [e1]
   apply List.ext_getElem?
   intro i
   have := congrArg (fun l => l[i]?) h2
   simp only [List.getElem?_map] at this ⊢
   rw [List.getElem?_modify, List.getElem?_set]
   by_cases hi : j = i
   ·subst hi
    rw [if_pos rfl, if_pos hjM, Array.getElem?_toList, Array.getElem?_eq_getElem hj]
    simp
   ·rw [if_neg hi, ← this]
    cases es.toList[i]? <;> simp [hi]
  ·rw [List.map_set]
   rw [set_same (by simp [hq])]
   exact h3
  ·have e1 : (es.modify j fun e => { e with key := kv p, val := v }).toList = es.toList.modify j fun e => { e with key := kv p, val := v } := Array.toList_modify
   have e2 : (es.modify j fun e => { e with key := kv p, val := v }).toList.map (·.born) = es.toList.map (·.born) := by
    rw [e1]
    apply List.ext_getElem?
    intro i
    simp only [List.getElem?_map]
    rw [List.getElem?_modify]
    by_cases hi : j = i <;> cases es.toList[i]? <;> simp [hi]
   rw [e2]; exact h4
  ·have e1 : (es.modify j fun e => { e with key := kv p, val := v }).toList = es.toList.modify j fun e => { e with key := kv p, val := v } := Array.toList_modify
   intro x hx
   rw [e1] at hx
   obtain ⟨i, hi⟩ := List.mem_iff_getElem?.1 hx
   rw [List.getElem?_modify] at hi
   cases hy : es.toList[i]? with
   | none => rw [hy] at hi; cases hi
   | some y =>
    rw [hy] at hi
    have hyb := h5 y (List.mem_of_getElem? hy)
    injection hi with hi
    rw [← hi]
    by_cases hji : j = i <;> simp [hji] <;> exact hyb
theorem MpIs.delete {w : World} {m : Nat} {M : List (κ × Value)} (h : MpIs kv w m M) (K : KeyT k kv) {t e : TypeId} (ht : Tryz.prog.underlying t = some (.map k e)) (p : κ) (ty : TypeId) :
  ∃ w', (Builtin.delete_ #[t, k] ty #[.map (some m), kv p]).run Tryz.prog w = .ok (.tuple #[]) w' ∧ MpIs kv w' m (mpDel M p) ∧ Tch w w' [m] ∧ w'.heap.size = w.heap.size := by
 obtain ⟨es, clock, h1, h2, h3, h4, h5⟩ := h
 have hf := run_findKey K p w h2
 unfold mpDel
 cases hg : mpG p M 0 with
 | none =>
  refine ⟨setBlock w m (.map es clock), ?_, ⟨es, clock, heap_setBlock_same h1 _, h2, h3, h4, h5⟩, mpTch h1 _, by simp [setBlock]⟩
  simp [Builtin.delete_, run_underlying ht, MapKept.run_getObj_map h1, K.chk, hf, hg, MapKept.run_setObj_map _ h1, Result.andThen, setBlock]
 | some a =>
  obtain ⟨j, u⟩ := a
  obtain ⟨q, e, hq⟩ := mpG_some hg
  obtain rfl : j = q := by omega
  have hlen : es.toList.length = M.length := by have := congrArg List.length h2; simpa using this
  have hjM := (List.getElem?_eq_some_iff.1 hq).1
  have hj : j < es.size := by rw [← Array.length_toList]; omega
  have hsub : (es.eraseIdxIfInBounds j).toList = es.toList.eraseIdx j := by
   unfold Array.eraseIdxIfInBounds
   rw [dif_pos hj]
   simp
  refine ⟨setBlock w m (.map (es.eraseIdxIfInBounds j) clock), ?_, ⟨es.eraseIdxIfInBounds j, clock, heap_setBlock_same h1 _, ?_, ?_, ?_, ?_⟩, mpTch h1 _, by simp [setBlock]⟩
  ·simp [Builtin.delete_, run_underlying ht, MapKept.run_getObj_map h1, K.chk, hf, hg, MapKept.run_setObj_map _ h1, Result.andThen, setBlock]
  ·rw [hsub, map_eraseIdx, map_eraseIdx, h2]
  ·rw [map_eraseIdx]; exact h3.sublist (List.eraseIdx_sublist _ _)
  ·rw [hsub, map_eraseIdx]; exact h4.sublist (List.eraseIdx_sublist _ _)
  ·intro x hx
   rw [hsub] at hx
   exact h5 x ((List.eraseIdx_sublist _ _).subset hx)
def MpRg (kv : κ → Value) (w : World) (m r : Nat) (M left : List (κ × Value)) : Prop :=
 ∃ (es : Array MapEntry) (clock since c0 : Nat) (seen : Array Nat), w.heap[m]? = some (.map es clock) ∧ es.toList.map (fun e => (e.key, e.val)) = M.map (fun x => (kv x.1, x.2)) ∧ (M.map Prod.fst).Nodup ∧ (es.toList.map (·.born)).Nodup ∧ (∀ e ∈ es.toList, e.born < clock) ∧
  w.heap[r]? = some (.mapIter (some m) since seen c0) ∧ (∀ x ∈ es.toList, x.born < since) ∧ since ≤ c0 ∧ since ≤ clock ∧ (leftOf es seen).toList.map (fun e => (e.key, e.val)) = left.map (fun x => (kv x.1, x.2))
variable {w w' : World} {m r : Nat} {M left : List (κ × Value)}
theorem MpRg.is (h : MpRg kv w m r M left) : MpIs kv w m M := by
 obtain ⟨es, clock, since, c0, seen, h1, h2, h3, h4, h5, -⟩ := h
 exact ⟨es, clock, h1, h2, h3, h4, h5⟩
theorem MpRg.lt (h : MpRg kv w m r M left) : r < w.heap.size := by
 obtain ⟨es, clock, since, c0, seen, h1, h2, h3, h4, h5, h6, -⟩ := h
 exact (Array.getElem?_eq_some_iff.1 h6).1
theorem MpRg.ne (h : MpRg kv w m r M left) : r ≠ m := by
 obtain ⟨es, clock, since, c0, seen, h1, h2, h3, h4, h5, h6, -⟩ := h
 intro e
 rw [e, h1] at h6
 cases h6
theorem MpRg.tch {T : List Nat} (h : MpRg kv w m r M left) (ht : Tch w w' T) (hn : m ∉ T) (hr : r ∉ T) : MpRg kv w' m r M left := by
 have l1 := h.is.lt
 have l2 := h.lt
 obtain ⟨es, clock, since, c0, seen, h1, h2, h3, h4, h5, h6, h7⟩ := h
 exact ⟨es, clock, since, c0, seen, (ht.block m l1 hn).trans h1, h2, h3, h4, h5, (ht.block r l2 hr).trans h6, h7⟩
theorem filt_two {e : MapEntry} {x : κ × Value} (K : KeyT k kv) (hx : e.key = kv x.1) : ∀ (L : List MapEntry) (l : List (κ × Value)), L.map (fun e => (e.key, e.val)) = l.map (fun x => (kv x.1, x.2)) → (∀ y ∈ L, y.born = e.born ↔ y.key = e.key) →
  (L.filter fun y => !(y.born == e.born)).map (fun e => (e.key, e.val)) = (l.filter fun y => !decide (y.1 = x.1)).map (fun x => (kv x.1, x.2))
 | [], [], _, _ => rfl
 | [], _ :: _, h, _ => by simp at h
 | _ :: _, [], h, _ => by simp at h
 | y :: L, z :: l, h, hb => by
  rw [List.map_cons, List.map_cons] at h
  injection h with h1 h2
  have h1' := h1
  injection h1 with h1 h3
  have hi := filt_two K hx L l h2 (fun y hy => hb y (List.mem_cons_of_mem _ hy))
  have hyb := hb y (by simp)
  by_cases hz : z.1 = x.1
  ·have : y.born = e.born := hyb.2 (by rw [h1, hz, hx])
   rw [List.filter_cons_of_neg (by simp [this]), List.filter_cons_of_neg (by simp [hz])]
   exact hi
  ·have : ¬ y.born = e.born := fun e1 => hz (K.inj (by rw [← h1, hyb.1 e1, hx]))
   rw [List.filter_cons_of_pos (by simp [this]), List.filter_cons_of_pos (by simp [hz]), List.map_cons, List.map_cons, hi]
   exact congrArg (· :: _) h1'
theorem perm_key {x : κ × Value} : ∀ {l : List (κ × Value)}, (l.map Prod.fst).Nodup → x ∈ l → l.Perm (x :: l.filter fun y => !decide (y.1 = x.1))
 | [], _, h => by simp at h
 | y :: l, hn, h => by
  rw [List.map_cons, List.nodup_cons] at hn
  rcases List.mem_cons.1 h with e | e
  ·subst e
   have : (l.filter fun y => !decide (y.1 = x.1)) = l := List.filter_eq_self.2 (fun z hz => by
    simp
    exact fun e1 => hn.1 (by rw [← e1]; exact List.mem_map.2 ⟨z, hz, rfl⟩))
   rw [List.filter_cons_of_neg (by simp), this]
  ·have hne : ¬ y.1 = x.1 := fun e1 => hn.1 (by rw [e1]; exact List.mem_map.2 ⟨x, e, rfl⟩)
   rw [List.filter_cons_of_pos (by simp [hne])]
   exact ((perm_key hn.2 e).cons y).trans (List.Perm.swap x y _)
theorem MpIs.range (h : MpIs kv w m M) {t e : TypeId} (ht : Tryz.prog.underlying t = some (.map k e)) :
  ∃ w', (Instr.range t (.map (some m))).run Tryz.prog w = .ok (.pointer (some ⟨w.heap.size, 0, none⟩)) w' ∧ MpRg kv w' m w.heap.size M M ∧ Tch w w' [] ∧ w'.heap.size = w.heap.size + 1 := by
 have hlt := h.lt
 obtain ⟨es, clock, h1, h2, h3, h4, h5⟩ := h
 refine ⟨_, run_range_map w t k e m es clock ht h1, ⟨es, clock, clock, clock, #[], ((MapKept.heap_alloc w _).2 m hlt).trans h1, h2, h3, h4, h5, (MapKept.heap_alloc w _).1, h5, Nat.le_refl _, Nat.le_refl _, ?_⟩, (Tch.refl w []).alloc _, by simp⟩
 have : leftOf es #[] = es := by unfold leftOf; simp
 rw [this]; exact h2
theorem MpRg.next (h : MpRg kv w m r M left) (K : KeyT k kv) (ty : TypeId) :
  (left = [] ∧ (Instr.next (.pointer (some ⟨r, 0, none⟩)) false ty).run Tryz.prog w = .ok (.tuple #[.bool false]) w) ∨
  ∃ x left' w', x ∈ M ∧ left.Perm (x :: left') ∧ (Instr.next (.pointer (some ⟨r, 0, none⟩)) false ty).run Tryz.prog w = .ok (.tuple #[.bool true, kv x.1, x.2]) w' ∧ MpRg kv w' m r M left' ∧ Tch w w' [r] ∧ w'.heap.size = w.heap.size ∧
   (Instr.entry (.pointer (some ⟨r, 0, none⟩))).run Tryz.prog w' = .ok (.tuple #[kv x.1, x.2]) w' := by
 have hne := h.ne
 obtain ⟨es, clock, since, c0, seen, h1, h2, h3, h4, h5, h6, h7, h8, h9, h10⟩ := h
 rcases run_next_at (P := Tryz.prog) w ty r m since c0 seen es clock h6 h1 h7 h8 with ⟨h0, hrun⟩ | ⟨e, he, w1, hal, hrun⟩
 ·refine .inl ⟨?_, hrun⟩
  have := congrArg List.length h10
  simp [h0] at this
  exact List.eq_nil_of_length_eq_zero this.symm
 ·obtain ⟨hem, hes⟩ := mem_left he
  obtain ⟨x, hx, hxe⟩ : ∃ x ∈ left, (kv x.1, x.2) = (e.key, e.val) := by
   have : (e.key, e.val) ∈ left.map (fun x => (kv x.1, x.2)) := by rw [← h10]; exact List.mem_map.2 ⟨e, he, rfl⟩
   exact List.mem_map.1 this
  obtain ⟨xM, hxM, hxMe⟩ : ∃ x ∈ M, (kv x.1, x.2) = (e.key, e.val) := by
   have : (e.key, e.val) ∈ M.map (fun x => (kv x.1, x.2)) := by rw [← h2]; exact List.mem_map.2 ⟨e, hem, rfl⟩
   exact List.mem_map.1 this
  have hxx : xM = x := by
   have e1 := hxMe.trans hxe.symm
   injection e1 with e1 e2
   exact Prod.ext (K.inj e1) e2
  subst hxx
  injection hxe with hk hv
  have hr1 : w1.heap[r]? = some (.mapIter (some m) since seen c0) := by rcases hal with rfl | rfl <;> exact h6
  have hb1 : w1.heap[m]? = some (.map es clock) := by rcases hal with rfl | rfl <;> exact h1
  have hset := MapKept.heap_set (o' := .mapIter (some m) since (seen.push e.born) clock) hr1
  have hb' : (setBlock w1 r (.mapIter (some m) since (seen.push e.born) clock)).heap[m]? = some (.map es clock) := (hset.2 m (fun e1 => hne e1.symm)).trans hb1
  -- keys are stamps
  have hkn : ∀ y ∈ es.toList, y.born = e.born ↔ y.key = e.key := fun y hy => by
   constructor
   ·intro hyb
    have f1 := find_born y es.toList h4 hy
    have f2 := find_born e es.toList h4 hem
    rw [hyb, f2] at f1
    injection f1 with f1
    rw [f1]
   ·intro hyk
    obtain ⟨i, hi⟩ := List.mem_iff_getElem?.1 hy
    obtain ⟨j, hj⟩ := List.mem_iff_getElem?.1 hem
    have gi := congrArg (fun l => l[i]?) h2
    have gj := congrArg (fun l => l[j]?) h2
    simp only [List.getElem?_map, hi, hj, Option.map_some] at gi gj
    cases hMi : M[i]? with
    | none => rw [hMi] at gi; cases gi
    | some a =>
     cases hMj : M[j]? with
     | none => rw [hMj] at gj; cases gj
     | some b =>
      rw [hMi] at gi; rw [hMj] at gj
      injection gi with gi; injection gj with gj
      injection gi with gi1 gi2; injection gj with gj1 gj2
      have hab : a.1 = b.1 := K.inj (by rw [← gi1, ← gj1, hyk])
      have hij : i = j := by
       have li := (List.getElem?_eq_some_iff.1 hMi).1
       have lj := (List.getElem?_eq_some_iff.1 hMj).1
       have ei := (List.getElem?_eq_some_iff.1 hMi).2
       have ej := (List.getElem?_eq_some_iff.1 hMj).2
       have hn := List.pairwise_iff_getElem.1 h3
       rcases Nat.lt_trichotomy i j with hlt | heq | hgt
       ·exact (hn i j (by simpa using li) (by simpa using lj) hlt (by simp [ei, ej, hab])).elim
       ·exact heq
       ·exact (hn j i (by simpa using lj) (by simpa using li) hgt (by simp [ei, ej, hab])).elim
      subst hij
      rw [hi] at hj
      injection hj with hj
      rw [hj]
  have hln : (left.map Prod.fst).Nodup := by
   have e1 : (left.map Prod.fst).map kv = (leftOf es seen).toList.map (·.key) := by
    have := congrArg (List.map Prod.fst) h10
    simpa [List.map_map, Function.comp_def] using this.symm
   have e2 : (M.map Prod.fst).map kv = es.toList.map (·.key) := by
    have := congrArg (List.map Prod.fst) h2
    simpa [List.map_map, Function.comp_def] using this.symm
   have h3' : (es.toList.map (·.key)).Nodup := by
    rw [← e2]
    exact List.Pairwise.map kv (fun a b hab e => hab (K.inj e)) h3
   have hs : ((leftOf es seen).toList.map (·.key)).Nodup := by
    unfold leftOf
    rw [Array.toList_filter]
    exact h3'.sublist ((List.filter_sublist).map _)
   rw [← e1] at hs
   exact List.Pairwise.of_map kv (fun a b hab e => hab (by rw [e])) hs
  refine .inr ⟨xM, left.filter fun y => !decide (y.1 = xM.1), _, hxM, perm_key hln hx, by rw [hk, hv]; exact hrun,
   ⟨es, clock, since, clock, seen.push e.born, hb', h2, h3, h4, h5, hset.1, h7, h9, h9, ?_⟩, ?_, ?_, by rw [hk, hv]; exact run_entry_at _ r m since seen es clock e hset.1 hb' hem h4⟩
  ·have e1 : (leftOf es (seen.push e.born)).toList = (leftOf es seen).toList.filter fun y => !(y.born == e.born) := by
    unfold leftOf
    rw [Array.toList_filter, Array.toList_filter, List.filter_filter]
    congr 1
    funext y
    rw [contains_push]
    cases seen.contains y.born <;> cases (y.born == e.born) <;> rfl
   rw [e1]
   exact filt_two K hk.symm _ _ h10 (fun y hy => hkn y (mem_left hy).1)
  ·rcases hal with rfl | rfl <;> exact ⟨rfl, rfl, rfl, by simp [setBlock], fun i _ hi => hset.2 i (fun e1 => hi (by simp [e1]))⟩
  ·rcases hal with rfl | rfl <;> simp [setBlock]
theorem wpList_mrange {ops : Array Oper} {rest : List Oper} {o : Oper} {a : Act} {Q : Exit → Act → World → Prop} (hg : o.guard = none) (x : Operand) (t : TypeId) (hop : o.op = Op.range t x) (e : TypeId) (ht : Tryz.prog.underlying t = some (.map k e)) (hm : a.eval x = .map (some m)) (h : MpIs kv w m M)
  (hK : ∀ w', MpRg kv w' m w.heap.size M M → Tch w w' [] → w'.heap.size = w.heap.size + 1 → wpList Tryz.prog ops Q rest (a.put o.dst (.pointer (some ⟨w.heap.size, 0, none⟩))) w') : wpList Tryz.prog ops Q (o :: rest) a w := by
 refine wpList_plain hg fun K' hK' => ?_
 obtain ⟨w', hrun, r1, r2, r3⟩ := h.range ht
 unfold Oper.wp
 simp [execOp, hop, hm, hrun, Result.andThen]
 exact hK' _ _ (hK w' r1 r2 r3)
theorem wpList_mnext {ops : Array Oper} {rest : List Oper} {o : Oper} {a : Act} {Q : Exit → Act → World → Prop} (hg : o.guard = none) (it : Operand) (hop : o.op = Op.next it false) (K : KeyT k kv) (hit : a.eval it = .pointer (some ⟨r, 0, none⟩)) (h : MpRg kv w m r M left)
  (hDone : left = [] → wpList Tryz.prog ops Q rest (a.put o.dst (.tuple #[.bool false])) w)
  (hMore : ∀ (x : κ × Value) (left' : List (κ × Value)) (w' : World), x ∈ M → left.Perm (x :: left') → MpRg kv w' m r M left' → Tch w w' [r] → w'.heap.size = w.heap.size → (Instr.entry (.pointer (some ⟨r, 0, none⟩))).run Tryz.prog w' = .ok (.tuple #[kv x.1, x.2]) w' →
   wpList Tryz.prog ops Q rest (a.put o.dst (.tuple #[.bool true, kv x.1, x.2])) w') : wpList Tryz.prog ops Q (o :: rest) a w := by
 refine wpList_plain hg fun K' hK' => ?_
 unfold Oper.wp
 rcases h.next K o.type with ⟨h0, hrun⟩ | ⟨x, left', w', hx, hp, hrun, r1, r2, r3, r4⟩
 ·simp [execOp, hop, hit, hrun, Result.andThen]
  exact hK' _ _ (hDone h0)
 ·simp [execOp, hop, hit, hrun, Result.andThen]
  exact hK' _ _ (hMore x left' w' hx hp r1 r2 r3 r4)
theorem wpo_mset {o : Oper} {a : Act} {K : Act → World → Prop} {Q : Exit → Act → World → Prop} (KT : KeyT k kv) (x y z : Operand) (t e : TypeId) (ho : o.op = .mapUpdate t x y z) (ht : Tryz.prog.underlying t = some (.map k e)) (hm : a.eval x = .map (some m)) (p : κ) (hp : a.eval y = kv p) (v : Value) (hv : a.eval z = v) (h : MpIs kv w m M)
  (hK : ∀ w', MpIs kv w' m (mpPut M p v) → Tch w w' [m] → w'.heap.size = w.heap.size → K (a.put o.dst undef) w') : o.wp Tryz.prog a w K Q := by
 obtain ⟨w', hrun, r1, r2, r3⟩ := h.update KT ht p v
 unfold Oper.wp
 simp [execOp, ho, hm, hp, hv, hrun, Result.andThen]
 exact hK w' r1 r2 r3
theorem wpo_mdel {o : Oper} {a : Act} {K : Act → World → Prop} {Q : Exit → Act → World → Prop} (KT : KeyT k kv) (x y : Operand) (t e : TypeId) (ho : o.op = Op.call { callee := Callee.builtin Builtin.delete, args := #[x, y], argTypes := #[t, k] }) (ht : Tryz.prog.underlying t = some (.map k e)) (hm : a.eval x = .map (some m)) (p : κ) (hp : a.eval y = kv p) (h : MpIs kv w m M)
  (hK : ∀ w', MpIs kv w' m (mpDel M p) → Tch w w' [m] → w'.heap.size = w.heap.size → K (a.put o.dst (.tuple #[])) w') : o.wp Tryz.prog a w K Q := by
 obtain ⟨w', hrun, r1, r2, r3⟩ := h.delete KT ht p o.type
 unfold Oper.wp
 simp [execOp, ho, resolve, invoke, builtin, hm, hp, hrun, Result.andThen]
 exact hK w' r1 r2 r3
theorem step_mdel {ops : Array Oper} {o : Oper} {a : Act} {K : Act → World → Prop} {Q : Exit → Act → World → Prop} {E : Prop} (hg : o.guard = none) (KT : KeyT k kv) (x y : Operand) (t e : TypeId) (ho : o.op = Op.call { callee := Callee.builtin Builtin.delete, args := #[x, y], argTypes := #[t, k] }) (ht : Tryz.prog.underlying t = some (.map k e)) (hm : a.eval x = .map (some m)) (p : κ) (hp : a.eval y = kv p) (h : MpIs kv w m M)
  (hK : ∀ w', MpIs kv w' m (mpDel M p) → Tch w w' [m] → w'.heap.size = w.heap.size → K (a.put o.dst (.tuple #[])) w') : if Region.wanted o (yielded ops a.tmps) = true then Oper.wp Tryz.prog o a w K Q else E := by
 have hw : Region.wanted o (yielded ops a.tmps) = true := by simp [Region.wanted, hg]
 rw [if_pos hw]
 exact wpo_mdel KT x y t e ho ht hm p hp h hK
end
end Go.Proofs.YtgfkmgbcajdcdaaGreatDoor

namespace Go.Proofs.YtgfkmgbcajdcdaaGreatDoor
open Go.RowKit

abbrev I64 (x : Int) : Prop := (Lit.int .i64 x).wf = true
def PaOk (x : PaI) : Prop := I64 x.1 ∧ I64 x.2.1 ∧ (N64 x.2.2.1.2.1 ∧ N64 x.2.2.1.2.2) ∧ I64 x.2.2.2.1
def PfOk (p : PfI) : Prop := (N64 p.1.2.1 ∧ N64 p.1.2.2) ∧ I64 p.2
theorem chkA (b : Bool) (n : Nat) (s : Bool) (h l : Int) (W : World) : (Instr.checkKey b (n + 2) 28 (.agg #[.bool s, .int .u64 h, .int .u64 l])).run Tryz.prog W = .ok () W := by
 have u0 := fun W => run_underlying Tryz.underlying28 W
 have u1 := fun W => run_underlying Tryz.underlying4 W
 have u2 := fun W => run_underlying Tryz.underlying26 W
 unfold Instr.checkKey
 go_simp
 simp [Instr.checkKey]
theorem chkPf0 (b : Bool) (n : Nat) (s : Bool) (h l k : Int) (W : World) : (Instr.checkKey b (n + 3) 30 (.agg #[.bool s, .int .u64 h, .int .u64 l, .int .i64 k])).run Tryz.prog W = .ok () W := by
 have u0 := fun W => run_underlying Tryz.underlying30 W
 have u1 := fun W => run_underlying Tryz.underlying3 W
 have hA := fun W => chkA b n s h l W
 unfold Instr.checkKey
 go_simp
 simp [Instr.checkKey]
theorem chkPf (b : Bool) (p : PfI) (W : World) : (Instr.checkKey b 10000 30 (pfR p)).run Tryz.prog W = .ok () W := by
 obtain ⟨⟨s, h, l⟩, n⟩ := p
 exact chkPf0 b 9997 s h l n W
theorem keyPf : KeyT (κ := PfI) 30 (fun p => pfR p) where
 und := ⟨_, Tryz.underlying30⟩
 agg := fun x => ⟨_, rfl⟩
 eq := fun x y W => eq_pfR x y rfl W
 chk := fun b x W => chkPf b x W
 same := fun x => by simp [Instr.sameBits]
abbrev nilS : Value := .slice none 0 0
theorem zeroPas (w : World) : (zeroValue 118).run Tryz.prog w = .ok nilS w := by kernel_rfl
def RowP (w : World) (L : List TdI) (p : PfI) (v : Value) : Prop := ∃ A c, v = .slice A (pathsI L p).length c ∧ w.ownsRow 0 49 7 (.slice A (pathsI L p).length c) (pathsI L p).length ((pathsI L p).flatMap paC)
structure RpM (w : World) (t m : Nat) (M : List (PfI × Value)) (S : List Nat) (L : List TdI) : Prop where
 eS : S = t :: m :: (M.map Prod.snd).flatMap obI
 nod : S.Nodup
 bt : Blk w t 123 #[.map (some m)]
 mp : MpIs (fun p => pfR p) w m M
 row : ∀ x ∈ M, RowP w L x.1 x.2 ∧ 0 < (pathsI L x.1).length
 all : ∀ p, 0 < (pathsI L p).length → ∃ v, (p, v) ∈ M
 inv : InvB L
 ok : ∀ u ∈ L, PfOk u.1 ∧ PaOk u.2
def RbP (w : World) (t : Nat) (S : List Nat) (L : List TdI) : Prop := ∃ m M, RpM w t m M S L
theorem sub_flat {α β : Type} {f : α → List β} {l m : List α} (h : l.Sublist m) : (l.flatMap f).Sublist (m.flatMap f) := by
 induction h with
 | slnil => exact List.Sublist.refl _
 | cons x _ ih => rw [List.flatMap_cons]; exact ih.trans (List.sublist_append_right _ _)
 | cons_cons x _ ih => rw [List.flatMap_cons, List.flatMap_cons]; exact (List.Sublist.refl _).append ih
section
variable {w w' : World} {t m : Nat} {M : List (PfI × Value)} {S T : List Nat} {L L' : List TdI} {p : PfI}
theorem RpM.lt (h : RpM w t m M S L) : ∀ s ∈ S, s < w.heap.size := by
 intro s hs
 rw [h.eS] at hs
 rcases List.mem_cons.1 hs with e | e
 ·rw [e]; exact h.bt.lt
 rcases List.mem_cons.1 e with e | e
 ·rw [e]; exact h.mp.lt
 obtain ⟨v, hv, hs⟩ := List.mem_flatMap.1 e
 obtain ⟨x, hx, rfl⟩ := List.mem_map.1 hv
 obtain ⟨⟨A, c, e, ho⟩, -⟩ := h.row x hx
 rw [e] at hs
 exact own_lts ho s hs
theorem RowP.tch {v : Value} (h : RowP w L p v) (ht : Tch w w' T) (hn : ∀ s ∈ obI v, s ∉ T) : RowP w' L p v := by
 obtain ⟨A, c, e, ho⟩ := h
 exact ⟨A, c, e, own_tch ho ht (fun s hs => hn s (by rw [e]; exact hs))⟩
theorem RpM.tch (h : RpM w t m M S L) (ht : Tch w w' T) (hn : ∀ s ∈ S, s ∉ T) : RpM w' t m M S L := by
 refine ⟨h.eS, h.nod, ht.blk h.bt (hn t (by rw [h.eS]; simp)), h.mp.tch ht (hn m (by rw [h.eS]; simp)), fun x hx => ⟨(h.row x hx).1.tch ht (fun s hs => hn s ?_), (h.row x hx).2⟩, h.all, h.inv, h.ok⟩
 rw [h.eS]
 exact List.mem_cons_of_mem _ (List.mem_cons_of_mem _ (List.mem_flatMap.2 ⟨_, List.mem_map.2 ⟨x, hx, rfl⟩, hs⟩))
theorem RbP.inv (h : RbP w t S L) : InvB L := by obtain ⟨m, M, h⟩ := h; exact h.inv
theorem RbP.ok (h : RbP w t S L) : ∀ u ∈ L, PfOk u.1 ∧ PaOk u.2 := by obtain ⟨m, M, h⟩ := h; exact h.ok
theorem RbP.lt (h : RbP w t S L) : ∀ s ∈ S, s < w.heap.size := by obtain ⟨m, M, h⟩ := h; exact h.lt
theorem RbP.tch (h : RbP w t S L) (ht : Tch w w' T) (hn : ∀ s ∈ S, s ∉ T) : RbP w' t S L := by obtain ⟨m, M, h⟩ := h; exact ⟨m, M, h.tch ht hn⟩
theorem RpM.at_ (h : RpM w t m M S L) (p : PfI) : RowP w L p (mpV M p nilS) := by
 unfold mpV
 cases hg : mpG p M 0 with
 | none =>
  have h0 : (pathsI L p).length = 0 := by
   rcases Nat.eq_zero_or_pos (pathsI L p).length with e | e
   ·exact e
   ·obtain ⟨v, hv⟩ := h.all p e
    exact absurd rfl (mpG_none.1 hg _ hv)
  have h1 : pathsI L p = [] := List.eq_nil_of_length_eq_zero h0
  exact ⟨none, 0, by simp [h1], by rw [h1]; exact ⟨rfl, .inl ⟨rfl, rfl⟩⟩⟩
 | some a =>
  obtain ⟨j, v⟩ := a
  obtain ⟨q, e, hq⟩ := mpG_some hg
  exact (h.row (p, v) (List.mem_of_getElem? hq)).1
theorem RpM.sub_ (h : RpM w t m M S L) (p : PfI) : ∀ s ∈ obI (mpV M p nilS), s ∈ S ∧ s ≠ t ∧ s ≠ m := by
 intro s hs
 unfold mpV at hs
 cases hg : mpG p M 0 with
 | none => rw [hg] at hs; cases hs
 | some a =>
  obtain ⟨j, v⟩ := a
  rw [hg] at hs
  obtain ⟨q, e, hq⟩ := mpG_some hg
  have hm : s ∈ (M.map Prod.snd).flatMap obI := List.mem_flatMap.2 ⟨v, List.mem_map.2 ⟨_, List.mem_of_getElem? hq, rfl⟩, hs⟩
  have hn := h.nod
  rw [h.eS, List.nodup_cons, List.nodup_cons] at hn
  exact ⟨by rw [h.eS]; exact List.mem_cons_of_mem _ (List.mem_cons_of_mem _ hm), fun e => hn.1 (by rw [← e]; exact List.mem_cons_of_mem _ hm), fun e => hn.2.1 (by rw [← e]; exact hm)⟩
theorem RpM.apart (h : RpM w t m M S L) {x : PfI × Value} (hx : x ∈ M) (hne : ¬ x.1 = p) : ∀ s ∈ obI x.2, s ∉ obI (mpV M p nilS) := by
 intro s hs hm
 unfold mpV at hm
 cases hg : mpG p M 0 with
 | none => rw [hg] at hm; cases hm
 | some a =>
  obtain ⟨j, v⟩ := a
  rw [hg] at hm
  obtain ⟨q, e, hq⟩ := mpG_some hg
  obtain ⟨i, hi⟩ := List.mem_iff_getElem?.1 hx
  have hn := h.nod
  rw [h.eS, List.nodup_cons, List.nodup_cons] at hn
  have hij : q ≠ i := fun e => hne (by
   subst e
   rw [hi] at hq
   injection hq with hq
   rw [hq])
  exact flat_disj hn.2.2 (i := q) (j := i) (v := v) (u := x.2) (by rw [List.getElem?_map, hq]; rfl) (by rw [List.getElem?_map, hi]; rfl) hij s hs hm
theorem RpM.set_ {W W' : World} {v : Value} (h : RpM w t m M S L) (hT : Tch w W (obI (mpV M p nilS))) (hv : RowP W L' p v) (h0 : 0 < (pathsI L' p).length) (hf : ∀ s ∈ obI v, s ∈ obI (mpV M p nilS) ∨ w.heap.size ≤ s)
  (hq : ∀ q, ¬ q = p → pathsI L' q = pathsI L q) (hI : InvB L') (hok : ∀ u ∈ L', PfOk u.1 ∧ PaOk u.2) (hM : MpIs (fun p => pfR p) W' m (mpPut M p v)) (hT2 : Tch W W' [m]) :
  ∃ S', RbP W' t S' L' ∧ Goes w W' S S' := by
 have hn := h.nod
 rw [h.eS, List.nodup_cons, List.nodup_cons] at hn
 obtain ⟨n1, n2, n3⟩ := hn
 have hlt : ∀ s ∈ (M.map Prod.snd).flatMap obI, s < w.heap.size := fun s hs => h.lt s (by rw [h.eS]; exact List.mem_cons_of_mem _ (List.mem_cons_of_mem _ hs))
 have ht := h.lt t (by rw [h.eS]; simp)
 have hm := h.lt m (by rw [h.eS]; simp)
 have hk : (((mpPut M p v).map Prod.snd).flatMap obI).Nodup ∧ ∀ s ∈ ((mpPut M p v).map Prod.snd).flatMap obI, s ∈ (M.map Prod.snd).flatMap obI ∨ w.heap.size ≤ s := by
  unfold mpPut
  unfold mpV at hf
  cases hg : mpG p M 0 with
  | none =>
   rw [hg] at hf
   simp only
   rw [List.map_append, List.flatMap_append, List.nodup_append]
   have e1 : ∀ s ∈ ([(p, v)].map Prod.snd).flatMap obI, s ∈ obI v := fun s hs => by simpa using hs
   have e2 : ∀ s ∈ obI v, w.heap.size ≤ s := fun s hs => (hf s hs).resolve_left (by simp [obI, Value.ownBlock])
   refine ⟨⟨n3, by simpa using obI_nodup v, fun a ha b hb e => ?_⟩, fun s hs => ?_⟩
   ·have := hlt a ha; have := e2 b (e1 b hb); omega
   ·rcases List.mem_append.1 hs with k | k
    ·exact .inl k
    ·exact .inr (e2 s (e1 s k))
  | some a =>
   obtain ⟨j, u⟩ := a
   rw [hg] at hf
   obtain ⟨q, e, hjq⟩ := mpG_some hg
   obtain rfl : j = q := by omega
   simp only
   rw [List.map_set]
   exact flat_set2 n3 (i := j) (v0 := u) (by rw [List.getElem?_map, hjq]; rfl) hlt hf
 refine ⟨t :: m :: ((mpPut M p v).map Prod.snd).flatMap obI, ⟨m, mpPut M p v, rfl, ?_, ?_, hM, ?_, ?_, hI, hok⟩, ⟨?_, ?_⟩⟩
 ·rw [List.nodup_cons, List.nodup_cons]
  refine ⟨fun hc => ?_, fun hc => ?_, hk.1⟩
  ·rcases List.mem_cons.1 hc with e | e
   ·exact n1 (by rw [e]; simp)
   ·rcases hk.2 t e with e | e
    ·exact n1 (List.mem_cons_of_mem _ e)
    ·omega
  ·rcases hk.2 m hc with e | e
   ·exact n2 e
   ·omega
 ·refine hT2.blk (hT.blk h.bt (fun hc => (h.sub_ p t hc).2.1 rfl)) (fun hc => n1 (by rw [List.mem_singleton.1 hc]; simp))
 ·have hrow : ∀ x ∈ M, ¬ x.1 = p → RowP W' L' x.1 x.2 ∧ 0 < (pathsI L' x.1).length := fun x hx hne => by
   obtain ⟨r1, r2⟩ := h.row x hx
   have r3 := (r1.tch hT (h.apart hx hne)).tch hT2 (fun s hs hc => by
    rw [List.mem_singleton.1 hc] at hs
    exact n2 (List.mem_flatMap.2 ⟨_, List.mem_map.2 ⟨x, hx, rfl⟩, hs⟩))
   unfold RowP at r3 ⊢
   rw [hq _ hne]
   exact ⟨r3, r2⟩
  have hnew : RowP W' L' p v := hv.tch hT2 (fun s hs hc => by
   rw [List.mem_singleton.1 hc] at hs
   rcases hf m hs with e | e
   ·exact (h.sub_ p m e).2.2 rfl
   ·omega)
  intro x hx
  unfold mpPut at hx
  cases hg : mpG p M 0 with
  | none =>
   rw [hg] at hx
   rcases List.mem_append.1 hx with e | e
   ·exact hrow x e (fun e1 => mpG_none.1 hg x e e1)
   ·rw [List.mem_singleton.1 e]; exact ⟨hnew, h0⟩
  | some a =>
   obtain ⟨j, u⟩ := a
   rw [hg] at hx
   simp only at hx
   obtain ⟨i, hi⟩ := List.mem_iff_getElem?.1 hx
   rw [List.getElem?_set] at hi
   obtain ⟨q, e, hjq⟩ := mpG_some hg
   obtain rfl : j = q := by omega
   by_cases hji : j = i
   ·rw [if_pos hji] at hi
    split at hi
    ·injection hi with hi; rw [← hi]; exact ⟨hnew, h0⟩
    ·cases hi
   ·rw [if_neg hji] at hi
    refine hrow x (List.mem_of_getElem? hi) (fun e1 => ?_)
    obtain ⟨q', hq1, hq2⟩ := mpG_mem h.mp.nodup (p := p) (v := x.2) (by rw [← e1]; exact List.mem_of_getElem? hi) 0
    rw [hg] at hq2
    injection hq2 with hq2
    injection hq2 with hq2 _
    have li := (List.getElem?_eq_some_iff.1 hi).1
    have ei := (List.getElem?_eq_some_iff.1 hi).2
    have lj := (List.getElem?_eq_some_iff.1 hjq).1
    have ej := (List.getElem?_eq_some_iff.1 hjq).2
    have hp := List.pairwise_iff_getElem.1 h.mp.nodup
    rcases Nat.lt_trichotomy i j with hlt | heq | hgt
    ·exact hp i j (by simpa using li) (by simpa using lj) hlt (by simp [ei, ej, e1])
    ·exact hji heq.symm
    ·exact hp j i (by simpa using lj) (by simpa using li) hgt (by simp [ei, ej, e1])
 ·intro q hq0
  unfold mpPut
  by_cases e : q = p
  ·subst e
   cases hg : mpG q M 0 with
   | none => exact ⟨v, by simp⟩
   | some a =>
    obtain ⟨j, u⟩ := a
    obtain ⟨q', e, hjq⟩ := mpG_some hg
    obtain rfl : j = q' := by omega
    exact ⟨v, by simp only; exact List.mem_of_getElem? (i := j) (by rw [List.getElem?_set, if_pos rfl, if_pos (List.getElem?_eq_some_iff.1 hjq).1])⟩
  ·rw [hq q e] at hq0
   obtain ⟨u, hu⟩ := h.all q hq0
   cases hg : mpG p M 0 with
   | none => exact ⟨u, List.mem_append_left _ hu⟩
   | some a =>
    obtain ⟨j, u'⟩ := a
    obtain ⟨q', e', hjq⟩ := mpG_some hg
    obtain rfl : j = q' := by omega
    obtain ⟨i, hi⟩ := List.mem_iff_getElem?.1 hu
    have hji : ¬ j = i := fun e1 => e (by rw [e1, hi] at hjq; injection hjq with hjq; injection hjq)
    exact ⟨u, by simp only; exact List.mem_of_getElem? (i := i) (by rw [List.getElem?_set, if_neg hji]; exact hi)⟩
 ·refine (hT.mono fun s hs => (h.sub_ p s hs).1).trans_fre hT2 (fun s hs => .inl (by rw [List.mem_singleton.1 hs, h.eS]; simp))
 ·intro s hs
  rcases List.mem_cons.1 hs with e | e
  ·exact .inl (by rw [e, h.eS]; simp)
  rcases List.mem_cons.1 e with e | e
  ·exact .inl (by rw [e, h.eS]; simp)
  rcases hk.2 s e with e | e
  ·exact .inl (by rw [h.eS]; exact List.mem_cons_of_mem _ (List.mem_cons_of_mem _ e))
  ·exact .inr e
theorem RpM.del_ {W W' : World} (h : RpM w t m M S L) (hT : Tch w W (obI (mpV M p nilS))) (h0 : (pathsI L' p).length = 0)
  (hq : ∀ q, ¬ q = p → pathsI L' q = pathsI L q) (hI : InvB L') (hok : ∀ u ∈ L', PfOk u.1 ∧ PaOk u.2) (hM : MpIs (fun p => pfR p) W' m (mpDel M p)) (hT2 : Tch W W' [m]) :
  ∃ S', RbP W' t S' L' ∧ Goes w W' S S' := by
 have hn := h.nod
 rw [h.eS, List.nodup_cons, List.nodup_cons] at hn
 obtain ⟨n1, n2, n3⟩ := hn
 have hsub : (mpDel M p).Sublist M := by
  unfold mpDel
  split
  ·exact List.eraseIdx_sublist _ _
  ·exact List.Sublist.refl _
 have hk : (((mpDel M p).map Prod.snd).flatMap obI).Sublist ((M.map Prod.snd).flatMap obI) := by
  exact sub_flat (hsub.map _)
 have hne : ∀ x ∈ mpDel M p, ¬ x.1 = p := by
  intro x hx e1
  unfold mpDel at hx
  cases hg : mpG p M 0 with
  | none => rw [hg] at hx; exact mpG_none.1 hg x hx e1
  | some a =>
   obtain ⟨j, u⟩ := a
   rw [hg] at hx
   simp only at hx
   obtain ⟨q, e, hjq⟩ := mpG_some hg
   obtain rfl : j = q := by omega
   obtain ⟨i, hij, hi⟩ := List.mem_eraseIdx_iff_getElem?.1 hx
   have li := (List.getElem?_eq_some_iff.1 hi).1
   have ei := (List.getElem?_eq_some_iff.1 hi).2
   have lj := (List.getElem?_eq_some_iff.1 hjq).1
   have ej := (List.getElem?_eq_some_iff.1 hjq).2
   have hp := List.pairwise_iff_getElem.1 h.mp.nodup
   rcases Nat.lt_trichotomy i j with hlt | heq | hgt
   ·exact hp i j (by simpa using li) (by simpa using lj) hlt (by simp [ei, ej, e1])
   ·exact hij heq
   ·exact hp j i (by simpa using lj) (by simpa using li) hgt (by simp [ei, ej, e1])
 refine ⟨t :: m :: ((mpDel M p).map Prod.snd).flatMap obI, ⟨m, mpDel M p, rfl, ?_, ?_, hM, ?_, ?_, hI, hok⟩, ⟨?_, ?_⟩⟩
 ·rw [List.nodup_cons, List.nodup_cons]
  refine ⟨fun hc => ?_, fun hc => n2 (hk.subset hc), n3.sublist hk⟩
  rcases List.mem_cons.1 hc with e | e
  ·exact n1 (by rw [e]; simp)
  ·exact n1 (List.mem_cons_of_mem _ (hk.subset e))
 ·exact hT2.blk (hT.blk h.bt (fun hc => (h.sub_ p t hc).2.1 rfl)) (fun hc => n1 (by rw [List.mem_singleton.1 hc]; simp))
 ·intro x hx
  have hxM := hsub.subset hx
  obtain ⟨r1, r2⟩ := h.row x hxM
  have r3 := (r1.tch hT (h.apart hxM (hne x hx))).tch hT2 (fun s hs hc => by
   rw [List.mem_singleton.1 hc] at hs
   exact n2 (List.mem_flatMap.2 ⟨_, List.mem_map.2 ⟨x, hxM, rfl⟩, hs⟩))
  unfold RowP at r3 ⊢
  rw [hq _ (hne x hx)]
  exact ⟨r3, r2⟩
 ·intro q hq0
  have e : ¬ q = p := fun e => by rw [e, h0] at hq0; omega
  rw [hq q e] at hq0
  obtain ⟨u, hu⟩ := h.all q hq0
  unfold mpDel
  cases hg : mpG p M 0 with
  | none => exact ⟨u, hu⟩
  | some a =>
   obtain ⟨j, u'⟩ := a
   obtain ⟨q', e', hjq⟩ := mpG_some hg
   obtain rfl : j = q' := by omega
   obtain ⟨i, hi⟩ := List.mem_iff_getElem?.1 hu
   have hji : ¬ i = j := fun e1 => e (by rw [← e1, hi] at hjq; injection hjq with hjq; injection hjq)
   exact ⟨u, List.mem_eraseIdx_iff_getElem?.2 ⟨i, hji, hi⟩⟩
 ·refine (hT.mono fun s hs => (h.sub_ p s hs).1).trans_fre hT2 (fun s hs => .inl (by rw [List.mem_singleton.1 hs, h.eS]; simp))
 ·intro s hs
  rcases List.mem_cons.1 hs with e | e
  ·exact .inl (by rw [e, h.eS]; simp)
  rcases List.mem_cons.1 e with e | e
  ·exact .inl (by rw [e, h.eS]; simp)
  exact .inl (by rw [h.eS]; exact List.mem_cons_of_mem _ (List.mem_cons_of_mem _ (hk.subset e)))
end
end Go.Proofs.YtgfkmgbcajdcdaaGreatDoor
