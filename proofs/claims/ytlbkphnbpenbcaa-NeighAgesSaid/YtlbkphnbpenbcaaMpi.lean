/-
  A map, whatever its keys are (structs, whole numbers): what lies in its block; looked up, set, deleted, gone over: on every order in which its entries may come. (Serves any stage: the keys' type, how a key lies, are parameters.)
-/
import Derived.Test.YtlbkphnbpenbcaaGen
import Derived.Maps.RangeWalk
namespace Go.Proofs.Ytlbkphnbpenbcaa
open Go.RowKit Go.ChangeMaps
set_option linter.unusedVariables false
set_option linter.unusedSectionVars false

/-- A type of keys: how a key is found among the entries; a key lies in one way only. (Structs: KeyT; whole numbers: keyInt.) -/
structure KeyF {κ : Type} [DecidableEq κ] (k : TypeId) (kv : κ → Value) (G : κ → List (κ × Value) → Nat → Option (Nat × Value)) : Prop where
  inj : ∀ {x y}, kv x = kv y → x = y
  find : ∀ p W (es : List MapEntry) (M : List (κ × Value)), es.map (fun e => (e.key, e.val)) = M.map (fun x => (kv x.1, x.2)) → (Instr.findKey k (kv p) es).run Try.prog W = .ok (G p M 0) W
  chk : ∀ b x W, (Instr.checkKey b 10000 k (kv x)).run Try.prog W = .ok () W
  same : ∀ x, Instr.sameBits 10000 (kv x) (kv x) = true
section
variable {κ : Type} [DecidableEq κ] {k : TypeId} {kv : κ → Value}
/-- Where a key stands, from i on, and its value. -/
def mpG (p : κ) : List (κ × Value) → Nat → Option (Nat × Value)
  | [], _ => none
  | x :: r, i => if p = x.1 then some (i, x.2) else mpG p r (i + 1)
theorem mpG_none {p : κ} {M : List (κ × Value)} {i : Nat} : mpG p M i = none ↔ ∀ x ∈ M, ¬ x.1 = p := by
  induction M generalizing i with
  | nil => simp [mpG]
  | cons y r ih =>
    unfold mpG
    by_cases h : p = y.1
    · rw [if_pos h]
      simp
      exact fun e => absurd h.symm e
    · rw [if_neg h, ih]
      simp
      exact fun _ e => h e.symm
theorem mpG_some {p : κ} {M : List (κ × Value)} {i j : Nat} {v : Value} (h : mpG p M i = some (j, v)) : ∃ q, j = i + q ∧ M[q]? = some (p, v) := by
  induction M generalizing i with
  | nil => simp [mpG] at h
  | cons y r ih =>
    unfold mpG at h
    by_cases e : p = y.1
    · rw [if_pos e] at h
      injection h with h
      injection h with h1 h2
      refine ⟨0, by omega, ?_⟩
      rw [e, ← h2]; rfl
    · rw [if_neg e] at h
      obtain ⟨q, h1, h2⟩ := ih h
      exact ⟨q + 1, by omega, by simpa using h2⟩
theorem mpG_mem {p : κ} {M : List (κ × Value)} {v : Value} (hn : (M.map Prod.fst).Nodup) (h : (p, v) ∈ M) (i : Nat) : ∃ q, M[q]? = some (p, v) ∧ mpG p M i = some (i + q, v) := by
  induction M generalizing i with
  | nil => simp at h
  | cons y r ih =>
    rw [List.map_cons, List.nodup_cons] at hn
    unfold mpG
    rcases List.mem_cons.1 h with e | e
    · exact ⟨0, by simp [e], by rw [if_pos (by rw [← e]), ← e]; rfl⟩
    · have hne : ¬ p = y.1 := fun e1 => hn.1 (by rw [← e1]; exact List.mem_map.2 ⟨_, e, rfl⟩)
      obtain ⟨q, h1, h2⟩ := ih hn.2 e (i + 1)
      exact ⟨q + 1, by simpa using h1, by rw [if_neg hne, h2]; congr 2; omega⟩
/-- Block m is a map: its keys, each with its value, in the order in which they came. -/
def MpIs (kv : κ → Value) (w : World) (m : Nat) (M : List (κ × Value)) : Prop :=
  ∃ (es : Array MapEntry) (clock : Nat), w.heap[m]? = some (.map es clock) ∧ es.toList.map (fun e => (e.key, e.val)) = M.map (fun x => (kv x.1, x.2)) ∧ (M.map Prod.fst).Nodup ∧ (es.toList.map (·.born)).Nodup ∧ ∀ e ∈ es.toList, e.born < clock
theorem MpIs.nodup {w : World} {m : Nat} {M : List (κ × Value)} (h : MpIs kv w m M) : (M.map Prod.fst).Nodup := by
  obtain ⟨es, clock, h1, h2, h3, h4, h5⟩ := h; exact h3
theorem MpIs.lt {w : World} {m : Nat} {M : List (κ × Value)} (h : MpIs kv w m M) : m < w.heap.size := by
  obtain ⟨es, clock, h1, -⟩ := h
  exact (Array.getElem?_eq_some_iff.1 h1).1
theorem MpIs.tch {w w' : World} {m : Nat} {M : List (κ × Value)} {T : List Nat} (h : MpIs kv w m M) (ht : Tch w w' T) (hn : m ∉ T) : MpIs kv w' m M := by
  have hl := h.lt
  obtain ⟨es, clock, h1, h2⟩ := h
  exact ⟨es, clock, (ht.block m hl hn).trans h1, h2⟩
/-- What is found at a key; else z. -/
def mpV (M : List (κ × Value)) (p : κ) (z : Value) : Value := match mpG p M 0 with | some (_, v) => v | none => z
theorem MpIs.lookup {w : World} {m : Nat} {M : List (κ × Value)} (h : MpIs kv w m M) (K : KeyF k kv mpG) {t e : TypeId} (ht : Try.prog.underlying t = some (.map k e)) {z : Value} (hz : (zeroValue e).run Try.prog w = .ok z w) (p : κ) :
    (Instr.lookup t (.map (some m)) (kv p) false).run Try.prog w = .ok (mpV M p z) w := by
  obtain ⟨es, clock, h1, h2, h3, h4, h5⟩ := h
  have hf := K.find p w _ _ h2
  unfold mpV
  cases hg : mpG p M 0 with
  | none => simp [Instr.lookup, run_underlying ht, MapKept.run_getObj_map h1, K.chk, hf, hg, hz, Result.andThen]
  | some a => simp [Instr.lookup, run_underlying ht, MapKept.run_getObj_map h1, K.chk, hf, hg, Result.andThen]
theorem MpIs.lookup2 {w : World} {m : Nat} {M : List (κ × Value)} (h : MpIs kv w m M) (K : KeyF k kv mpG) {t e : TypeId} (ht : Try.prog.underlying t = some (.map k e)) {z : Value} (hz : (zeroValue e).run Try.prog w = .ok z w) (p : κ) :
    (Instr.lookup t (.map (some m)) (kv p) true).run Try.prog w = .ok (.tuple #[mpV M p z, .bool (mpG p M 0).isSome]) w := by
  obtain ⟨es, clock, h1, h2, h3, h4, h5⟩ := h
  have hf := K.find p w _ _ h2
  unfold mpV
  cases hg : mpG p M 0 with
  | none => simp [Instr.lookup, run_underlying ht, MapKept.run_getObj_map h1, K.chk, hf, hg, hz, Result.andThen]
  | some a => simp [Instr.lookup, run_underlying ht, MapKept.run_getObj_map h1, K.chk, hf, hg, Result.andThen]
theorem MpIs.len {w : World} {m : Nat} {M : List (κ × Value)} (h : MpIs kv w m M) {t e : TypeId} (ht : Try.prog.underlying t = some (.map k e)) (ty : TypeId) :
    (Builtin.len_ #[t] ty #[.map (some m)]).run Try.prog w = .ok (goInt M.length) w := by
  obtain ⟨es, clock, h1, h2, h3, h4, h5⟩ := h
  have hl := congrArg List.length h2
  simp at hl
  simp [Builtin.len_, run_underlying ht, MapKept.run_getObj_map h1, hl, Result.andThen]
theorem mpTch {w : World} {m : Nat} {es : Array MapEntry} {clock : Nat} (hb : w.heap[m]? = some (.map es clock)) (o : Obj) : Tch w (setBlock w m o) [m] :=
  ⟨rfl, rfl, rfl, by simp [setBlock], fun i hi hn => heap_setBlock_other hb o (fun e => hn (by simp [e]))⟩
/-- A key set. -/
def mpPut (M : List (κ × Value)) (p : κ) (v : Value) : List (κ × Value) := match mpG p M 0 with | some (j, _) => M.set j (p, v) | none => M ++ [(p, v)]
def mpDel (M : List (κ × Value)) (p : κ) : List (κ × Value) := match mpG p M 0 with | some (j, _) => M.eraseIdx j | none => M
theorem MpIs.update {w : World} {m : Nat} {M : List (κ × Value)} (h : MpIs kv w m M) (K : KeyF k kv mpG) {t e : TypeId} (ht : Try.prog.underlying t = some (.map k e)) (p : κ) (v : Value) :
    ∃ w', (Instr.mapUpdate t (.map (some m)) (kv p) v).run Try.prog w = .ok () w' ∧ MpIs kv w' m (mpPut M p v) ∧ Tch w w' [m] ∧ w'.heap.size = w.heap.size := by
  obtain ⟨es, clock, h1, h2, h3, h4, h5⟩ := h
  have hf := K.find p w _ _ h2
  unfold mpPut
  cases hg : mpG p M 0 with
  | none =>
    refine ⟨setBlock w m (.map (es.push { key := kv p, val := v, born := clock }) (clock + 1)), ?_, ⟨es.push { key := kv p, val := v, born := clock }, clock + 1, heap_setBlock_same h1 _, ?_, ?_, ?_, ?_⟩, mpTch h1 _, by simp [setBlock]⟩
    · simp [Instr.mapUpdate, run_underlying ht, MapKept.run_getObj_map h1, K.chk, hf, hg, MapKept.run_setObj_map _ h1, Result.andThen, setBlock]
    · simp [h2]
    · have := mpG_none.1 hg
      rw [List.map_append, List.nodup_append]
      refine ⟨h3, by simp, fun a ha b hb e => ?_⟩
      simp at hb
      obtain ⟨x, hx, rfl⟩ := List.mem_map.1 ha
      exact this x hx (by rw [e, hb])
    · rw [Array.toList_push, List.map_append, List.nodup_append]
      refine ⟨h4, by simp, fun a ha b hb e => ?_⟩
      simp at hb
      obtain ⟨x, hx, rfl⟩ := List.mem_map.1 ha
      have := h5 x hx
      omega
    · intro x hx
      simp at hx
      rcases hx with hx | rfl
      · have := h5 x (by simpa using hx); omega
      · simp
  | some a =>
    obtain ⟨j, u⟩ := a
    obtain ⟨q, e, hq⟩ := mpG_some hg
    obtain rfl : j = q := by omega
    have hlen : es.toList.length = M.length := by have := congrArg List.length h2; simpa using this
    have hjM := (List.getElem?_eq_some_iff.1 hq).1
    have hj : j < es.size := by rw [← Array.length_toList]; omega
    have hje : (es[j]'hj).key = kv p := by
      have := congrArg (fun l => l[j]?) h2
      simp only [List.getElem?_map] at this
      rw [hq, Array.getElem?_toList, Array.getElem?_eq_getElem hj] at this
      simp at this
      exact this.1
    refine ⟨setBlock w m (.map (es.modify j fun e => { e with key := kv p, val := v }) clock), ?_, ⟨es.modify j fun e => { e with key := kv p, val := v }, clock, heap_setBlock_same h1 _, ?_, ?_, ?_, ?_⟩, mpTch h1 _, by simp [setBlock]⟩
    · have hks : (Instr.keyThatStays (kv p) (kv p)).run Try.prog w = .ok (kv p) w := by simp [Instr.keyThatStays, K.same]
      simp [Instr.mapUpdate, run_underlying ht, MapKept.run_getObj_map h1, K.chk, hf, hg, Array.getElem?_eq_getElem hj, hje, hks, MapKept.run_setObj_map _ h1, Result.andThen, setBlock]
    · have e1 : (es.modify j fun e => { e with key := kv p, val := v }).toList = es.toList.modify j fun e => { e with key := kv p, val := v } := Array.toList_modify
      rw [e1]
      apply List.ext_getElem?
      intro i
      have := congrArg (fun l => l[i]?) h2
      simp only [List.getElem?_map] at this ⊢
      rw [List.getElem?_modify, List.getElem?_set]
      by_cases hi : j = i
      · subst hi
        rw [if_pos rfl, if_pos hjM, Array.getElem?_toList, Array.getElem?_eq_getElem hj]
        simp
      · rw [if_neg hi, ← this]
        cases es.toList[i]? <;> simp [hi]
    · rw [List.map_set]
      rw [set_same (by simp [hq])]
      exact h3
    · have e1 : (es.modify j fun e => { e with key := kv p, val := v }).toList = es.toList.modify j fun e => { e with key := kv p, val := v } := Array.toList_modify
      have e2 : (es.modify j fun e => { e with key := kv p, val := v }).toList.map (·.born) = es.toList.map (·.born) := by
        rw [e1]
        apply List.ext_getElem?
        intro i
        simp only [List.getElem?_map]
        rw [List.getElem?_modify]
        by_cases hi : j = i <;> cases es.toList[i]? <;> simp [hi]
      rw [e2]; exact h4
    · have e1 : (es.modify j fun e => { e with key := kv p, val := v }).toList = es.toList.modify j fun e => { e with key := kv p, val := v } := Array.toList_modify
      intro x hx
      rw [e1] at hx
      obtain ⟨i, hi⟩ := List.mem_iff_getElem?.1 hx
      rw [List.getElem?_modify] at hi
      cases hy : es.toList[i]? with
      | none => rw [hy] at hi; cases hi
      | some y =>
        rw [hy] at hi
        have hyb := h5 y (List.mem_of_getElem? hy)
        injection hi with hi
        rw [← hi]
        by_cases hji : j = i <;> simp [hji] <;> exact hyb
theorem MpIs.delete {w : World} {m : Nat} {M : List (κ × Value)} (h : MpIs kv w m M) (K : KeyF k kv mpG) {t e : TypeId} (ht : Try.prog.underlying t = some (.map k e)) (p : κ) (ty : TypeId) :
    ∃ w', (Builtin.delete_ #[t, k] ty #[.map (some m), kv p]).run Try.prog w = .ok (.tuple #[]) w' ∧ MpIs kv w' m (mpDel M p) ∧ Tch w w' [m] ∧ w'.heap.size = w.heap.size := by
  obtain ⟨es, clock, h1, h2, h3, h4, h5⟩ := h
  have hf := K.find p w _ _ h2
  unfold mpDel
  cases hg : mpG p M 0 with
  | none =>
    refine ⟨setBlock w m (.map es clock), ?_, ⟨es, clock, heap_setBlock_same h1 _, h2, h3, h4, h5⟩, mpTch h1 _, by simp [setBlock]⟩
    simp [Builtin.delete_, run_underlying ht, MapKept.run_getObj_map h1, K.chk, hf, hg, MapKept.run_setObj_map _ h1, Result.andThen, setBlock]
  | some a =>
    obtain ⟨j, u⟩ := a
    obtain ⟨q, e, hq⟩ := mpG_some hg
    obtain rfl : j = q := by omega
    have hlen : es.toList.length = M.length := by have := congrArg List.length h2; simpa using this
    have hjM := (List.getElem?_eq_some_iff.1 hq).1
    have hj : j < es.size := by rw [← Array.length_toList]; omega
    have hsub : (es.eraseIdxIfInBounds j).toList = es.toList.eraseIdx j := by
      unfold Array.eraseIdxIfInBounds
      rw [dif_pos hj]
      simp
    refine ⟨setBlock w m (.map (es.eraseIdxIfInBounds j) clock), ?_, ⟨es.eraseIdxIfInBounds j, clock, heap_setBlock_same h1 _, ?_, ?_, ?_, ?_⟩, mpTch h1 _, by simp [setBlock]⟩
    · simp [Builtin.delete_, run_underlying ht, MapKept.run_getObj_map h1, K.chk, hf, hg, MapKept.run_setObj_map _ h1, Result.andThen, setBlock]
    · rw [hsub, map_eraseIdx, map_eraseIdx, h2]
    · rw [map_eraseIdx]; exact h3.sublist (List.eraseIdx_sublist _ _)
    · rw [hsub, map_eraseIdx]; exact h4.sublist (List.eraseIdx_sublist _ _)
    · intro x hx
      rw [hsub] at hx
      exact h5 x ((List.eraseIdx_sublist _ _).subset hx)
/-- 'for .. range m' under way: the iterator lies in block r; left: what is still to come. -/
def MpRg (kv : κ → Value) (w : World) (m r : Nat) (M left : List (κ × Value)) : Prop :=
  ∃ (es : Array MapEntry) (clock since c0 : Nat) (seen : Array Nat), w.heap[m]? = some (.map es clock) ∧ es.toList.map (fun e => (e.key, e.val)) = M.map (fun x => (kv x.1, x.2)) ∧ (M.map Prod.fst).Nodup ∧ (es.toList.map (·.born)).Nodup ∧ (∀ e ∈ es.toList, e.born < clock) ∧
    w.heap[r]? = some (.mapIter (some m) since seen c0) ∧ (∀ x ∈ es.toList, x.born < since) ∧ since ≤ c0 ∧ since ≤ clock ∧ (leftOf es seen).toList.map (fun e => (e.key, e.val)) = left.map (fun x => (kv x.1, x.2))
variable {w w' : World} {m r : Nat} {M left : List (κ × Value)}
theorem MpRg.is (h : MpRg kv w m r M left) : MpIs kv w m M := by
  obtain ⟨es, clock, since, c0, seen, h1, h2, h3, h4, h5, -⟩ := h
  exact ⟨es, clock, h1, h2, h3, h4, h5⟩
theorem MpRg.lt (h : MpRg kv w m r M left) : r < w.heap.size := by
  obtain ⟨es, clock, since, c0, seen, h1, h2, h3, h4, h5, h6, -⟩ := h
  exact (Array.getElem?_eq_some_iff.1 h6).1
theorem MpRg.ne (h : MpRg kv w m r M left) : r ≠ m := by
  obtain ⟨es, clock, since, c0, seen, h1, h2, h3, h4, h5, h6, -⟩ := h
  intro e
  rw [e, h1] at h6
  cases h6
theorem MpRg.tch {T : List Nat} (h : MpRg kv w m r M left) (ht : Tch w w' T) (hn : m ∉ T) (hr : r ∉ T) : MpRg kv w' m r M left := by
  have l1 := h.is.lt
  have l2 := h.lt
  obtain ⟨es, clock, since, c0, seen, h1, h2, h3, h4, h5, h6, h7⟩ := h
  exact ⟨es, clock, since, c0, seen, (ht.block m l1 hn).trans h1, h2, h3, h4, h5, (ht.block r l2 hr).trans h6, h7⟩
theorem filt_two {e : MapEntry} {x : κ × Value} (K : KeyF k kv mpG) (hx : e.key = kv x.1) : ∀ (L : List MapEntry) (l : List (κ × Value)), L.map (fun e => (e.key, e.val)) = l.map (fun x => (kv x.1, x.2)) → (∀ y ∈ L, y.born = e.born ↔ y.key = e.key) →
    (L.filter fun y => !(y.born == e.born)).map (fun e => (e.key, e.val)) = (l.filter fun y => !decide (y.1 = x.1)).map (fun x => (kv x.1, x.2))
  | [], [], _, _ => rfl
  | [], _ :: _, h, _ => by simp at h
  | _ :: _, [], h, _ => by simp at h
  | y :: L, z :: l, h, hb => by
    rw [List.map_cons, List.map_cons] at h
    injection h with h1 h2
    have h1' := h1
    injection h1 with h1 h3
    have hi := filt_two K hx L l h2 (fun y hy => hb y (List.mem_cons_of_mem _ hy))
    have hyb := hb y (by simp)
    by_cases hz : z.1 = x.1
    · have : y.born = e.born := hyb.2 (by rw [h1, hz, hx])
      rw [List.filter_cons_of_neg (by simp [this]), List.filter_cons_of_neg (by simp [hz])]
      exact hi
    · have : ¬ y.born = e.born := fun e1 => hz (K.inj (by rw [← h1, hyb.1 e1, hx]))
      rw [List.filter_cons_of_pos (by simp [this]), List.filter_cons_of_pos (by simp [hz]), List.map_cons, List.map_cons, hi]
      exact congrArg (· :: _) h1'
theorem perm_key {x : κ × Value} : ∀ {l : List (κ × Value)}, (l.map Prod.fst).Nodup → x ∈ l → l.Perm (x :: l.filter fun y => !decide (y.1 = x.1))
  | [], _, h => by simp at h
  | y :: l, hn, h => by
    rw [List.map_cons, List.nodup_cons] at hn
    rcases List.mem_cons.1 h with e | e
    · subst e
      have : (l.filter fun y => !decide (y.1 = x.1)) = l := List.filter_eq_self.2 (fun z hz => by
        simp
        exact fun e1 => hn.1 (by rw [← e1]; exact List.mem_map.2 ⟨z, hz, rfl⟩))
      rw [List.filter_cons_of_neg (by simp), this]
    · have hne : ¬ y.1 = x.1 := fun e1 => hn.1 (by rw [e1]; exact List.mem_map.2 ⟨x, e, rfl⟩)
      rw [List.filter_cons_of_pos (by simp [hne])]
      exact ((perm_key hn.2 e).cons y).trans (List.Perm.swap x y _)
theorem MpIs.range (h : MpIs kv w m M) {t e : TypeId} (ht : Try.prog.underlying t = some (.map k e)) :
    ∃ w', (Instr.range t (.map (some m))).run Try.prog w = .ok (.pointer (some ⟨w.heap.size, 0, none⟩)) w' ∧ MpRg kv w' m w.heap.size M M ∧ Tch w w' [] ∧ w'.heap.size = w.heap.size + 1 := by
  have hlt := h.lt
  obtain ⟨es, clock, h1, h2, h3, h4, h5⟩ := h
  refine ⟨_, run_range_map w t k e m es clock ht h1, ⟨es, clock, clock, clock, #[], ((MapKept.heap_alloc w _).2 m hlt).trans h1, h2, h3, h4, h5, (MapKept.heap_alloc w _).1, h5, Nat.le_refl _, Nat.le_refl _, ?_⟩, (Tch.refl w []).alloc _, by simp⟩
  have : leftOf es #[] = es := by unfold leftOf; simp
  rw [this]; exact h2
theorem MpRg.next (h : MpRg kv w m r M left) (K : KeyF k kv mpG) (ty : TypeId) :
    (left = [] ∧ (Instr.next (.pointer (some ⟨r, 0, none⟩)) false ty).run Try.prog w = .ok (.tuple #[.bool false]) w) ∨
    ∃ x left' w', x ∈ M ∧ left.Perm (x :: left') ∧ (Instr.next (.pointer (some ⟨r, 0, none⟩)) false ty).run Try.prog w = .ok (.tuple #[.bool true, kv x.1, x.2]) w' ∧ MpRg kv w' m r M left' ∧ Tch w w' [r] ∧ w'.heap.size = w.heap.size ∧
      (Instr.entry (.pointer (some ⟨r, 0, none⟩))).run Try.prog w' = .ok (.tuple #[kv x.1, x.2]) w' := by
  have hne := h.ne
  obtain ⟨es, clock, since, c0, seen, h1, h2, h3, h4, h5, h6, h7, h8, h9, h10⟩ := h
  rcases run_next_at (P := Try.prog) w ty r m since c0 seen es clock h6 h1 h7 h8 with ⟨h0, hrun⟩ | ⟨e, he, w1, hal, hrun⟩
  · refine .inl ⟨?_, hrun⟩
    have := congrArg List.length h10
    simp [h0] at this
    exact List.eq_nil_of_length_eq_zero this.symm
  · obtain ⟨hem, hes⟩ := mem_left he
    obtain ⟨x, hx, hxe⟩ : ∃ x ∈ left, (kv x.1, x.2) = (e.key, e.val) := by
      have : (e.key, e.val) ∈ left.map (fun x => (kv x.1, x.2)) := by rw [← h10]; exact List.mem_map.2 ⟨e, he, rfl⟩
      exact List.mem_map.1 this
    obtain ⟨xM, hxM, hxMe⟩ : ∃ x ∈ M, (kv x.1, x.2) = (e.key, e.val) := by
      have : (e.key, e.val) ∈ M.map (fun x => (kv x.1, x.2)) := by rw [← h2]; exact List.mem_map.2 ⟨e, hem, rfl⟩
      exact List.mem_map.1 this
    have hxx : xM = x := by
      have e1 := hxMe.trans hxe.symm
      injection e1 with e1 e2
      exact Prod.ext (K.inj e1) e2
    subst hxx
    injection hxe with hk hv
    have hr1 : w1.heap[r]? = some (.mapIter (some m) since seen c0) := by rcases hal with rfl | rfl <;> exact h6
    have hb1 : w1.heap[m]? = some (.map es clock) := by rcases hal with rfl | rfl <;> exact h1
    have hset := MapKept.heap_set (o' := .mapIter (some m) since (seen.push e.born) clock) hr1
    have hb' : (setBlock w1 r (.mapIter (some m) since (seen.push e.born) clock)).heap[m]? = some (.map es clock) := (hset.2 m (fun e1 => hne e1.symm)).trans hb1
    -- keys are stamps
    have hkn : ∀ y ∈ es.toList, y.born = e.born ↔ y.key = e.key := fun y hy => by
      constructor
      · intro hyb
        have f1 := find_born y es.toList h4 hy
        have f2 := find_born e es.toList h4 hem
        rw [hyb, f2] at f1
        injection f1 with f1
        rw [f1]
      · intro hyk
        obtain ⟨i, hi⟩ := List.mem_iff_getElem?.1 hy
        obtain ⟨j, hj⟩ := List.mem_iff_getElem?.1 hem
        have gi := congrArg (fun l => l[i]?) h2
        have gj := congrArg (fun l => l[j]?) h2
        simp only [List.getElem?_map, hi, hj, Option.map_some] at gi gj
        cases hMi : M[i]? with
        | none => rw [hMi] at gi; cases gi
        | some a =>
          cases hMj : M[j]? with
          | none => rw [hMj] at gj; cases gj
          | some b =>
            rw [hMi] at gi; rw [hMj] at gj
            injection gi with gi; injection gj with gj
            injection gi with gi1 gi2; injection gj with gj1 gj2
            have hab : a.1 = b.1 := K.inj (by rw [← gi1, ← gj1, hyk])
            have hij : i = j := by
              have li := (List.getElem?_eq_some_iff.1 hMi).1
              have lj := (List.getElem?_eq_some_iff.1 hMj).1
              have ei := (List.getElem?_eq_some_iff.1 hMi).2
              have ej := (List.getElem?_eq_some_iff.1 hMj).2
              have hn := List.pairwise_iff_getElem.1 h3
              rcases Nat.lt_trichotomy i j with hlt | heq | hgt
              · exact (hn i j (by simpa using li) (by simpa using lj) hlt (by simp [ei, ej, hab])).elim
              · exact heq
              · exact (hn j i (by simpa using lj) (by simpa using li) hgt (by simp [ei, ej, hab])).elim
            subst hij
            rw [hi] at hj
            injection hj with hj
            rw [hj]
    have hln : (left.map Prod.fst).Nodup := by
      have e1 : (left.map Prod.fst).map kv = (leftOf es seen).toList.map (·.key) := by
        have := congrArg (List.map Prod.fst) h10
        simpa [List.map_map, Function.comp_def] using this.symm
      have e2 : (M.map Prod.fst).map kv = es.toList.map (·.key) := by
        have := congrArg (List.map Prod.fst) h2
        simpa [List.map_map, Function.comp_def] using this.symm
      have h3' : (es.toList.map (·.key)).Nodup := by
        rw [← e2]
        exact List.Pairwise.map kv (fun a b hab e => hab (K.inj e)) h3
      have hs : ((leftOf es seen).toList.map (·.key)).Nodup := by
        unfold leftOf
        rw [Array.toList_filter]
        exact h3'.sublist ((List.filter_sublist).map _)
      rw [← e1] at hs
      exact List.Pairwise.of_map kv (fun a b hab e => hab (by rw [e])) hs
    refine .inr ⟨xM, left.filter fun y => !decide (y.1 = xM.1), _, hxM, perm_key hln hx, by rw [hk, hv]; exact hrun,
      ⟨es, clock, since, clock, seen.push e.born, hb', h2, h3, h4, h5, hset.1, h7, h9, h9, ?_⟩, ?_, ?_, by rw [hk, hv]; exact run_entry_at _ r m since seen es clock e hset.1 hb' hem h4⟩
    · have e1 : (leftOf es (seen.push e.born)).toList = (leftOf es seen).toList.filter fun y => !(y.born == e.born) := by
        unfold leftOf
        rw [Array.toList_filter, Array.toList_filter, List.filter_filter]
        congr 1
        funext y
        rw [contains_push]
        cases seen.contains y.born <;> cases (y.born == e.born) <;> rfl
      rw [e1]
      exact filt_two K hk.symm _ _ h10 (fun y hy => hkn y (mem_left hy).1)
    · rcases hal with rfl | rfl <;> exact ⟨rfl, rfl, rfl, by simp [setBlock], fun i _ hi => hset.2 i (fun e1 => hi (by simp [e1]))⟩
    · rcases hal with rfl | rfl <;> simp [setBlock]
/-- At the operations. -/
theorem wpList_mrange {ops : Array Oper} {rest : List Oper} {o : Oper} {a : Act} {Q : Exit → Act → World → Prop} (hg : o.guard = none) (x : Operand) (t : TypeId) (hop : o.op = Op.range t x) (e : TypeId) (ht : Try.prog.underlying t = some (.map k e)) (hm : a.eval x = .map (some m)) (h : MpIs kv w m M)
    (hK : ∀ w', MpRg kv w' m w.heap.size M M → Tch w w' [] → w'.heap.size = w.heap.size + 1 → wpList Try.prog ops Q rest (a.put o.dst (.pointer (some ⟨w.heap.size, 0, none⟩))) w') : wpList Try.prog ops Q (o :: rest) a w := by
  refine wpList_plain hg fun K' hK' => ?_
  obtain ⟨w', hrun, r1, r2, r3⟩ := h.range ht
  unfold Oper.wp
  simp [execOp, hop, hm, hrun, Result.andThen]
  exact hK' _ _ (hK w' r1 r2 r3)
theorem wpList_mnext {ops : Array Oper} {rest : List Oper} {o : Oper} {a : Act} {Q : Exit → Act → World → Prop} (hg : o.guard = none) (it : Operand) (hop : o.op = Op.next it false) (K : KeyF k kv mpG) (hit : a.eval it = .pointer (some ⟨r, 0, none⟩)) (h : MpRg kv w m r M left)
    (hDone : left = [] → wpList Try.prog ops Q rest (a.put o.dst (.tuple #[.bool false])) w)
    (hMore : ∀ (x : κ × Value) (left' : List (κ × Value)) (w' : World), x ∈ M → left.Perm (x :: left') → MpRg kv w' m r M left' → Tch w w' [r] → w'.heap.size = w.heap.size → (Instr.entry (.pointer (some ⟨r, 0, none⟩))).run Try.prog w' = .ok (.tuple #[kv x.1, x.2]) w' →
      wpList Try.prog ops Q rest (a.put o.dst (.tuple #[.bool true, kv x.1, x.2])) w') : wpList Try.prog ops Q (o :: rest) a w := by
  refine wpList_plain hg fun K' hK' => ?_
  unfold Oper.wp
  rcases h.next K o.type with ⟨h0, hrun⟩ | ⟨x, left', w', hx, hp, hrun, r1, r2, r3, r4⟩
  · simp [execOp, hop, hit, hrun, Result.andThen]
    exact hK' _ _ (hDone h0)
  · simp [execOp, hop, hit, hrun, Result.andThen]
    exact hK' _ _ (hMore x left' w' hx hp r1 r2 r3 r4)
/-- A key set, within a region in an open order. -/
theorem wpo_mset {o : Oper} {a : Act} {K : Act → World → Prop} {Q : Exit → Act → World → Prop} (KT : KeyF k kv mpG) (x y z : Operand) (t e : TypeId) (ho : o.op = .mapUpdate t x y z) (ht : Try.prog.underlying t = some (.map k e)) (hm : a.eval x = .map (some m)) (p : κ) (hp : a.eval y = kv p) (v : Value) (hv : a.eval z = v) (h : MpIs kv w m M)
    (hK : ∀ w', MpIs kv w' m (mpPut M p v) → Tch w w' [m] → w'.heap.size = w.heap.size → K (a.put o.dst undef) w') : o.wp Try.prog a w K Q := by
  obtain ⟨w', hrun, r1, r2, r3⟩ := h.update KT ht p v
  unfold Oper.wp
  simp [execOp, ho, hm, hp, hv, hrun, Result.andThen]
  exact hK w' r1 r2 r3
theorem wpo_mdel {o : Oper} {a : Act} {K : Act → World → Prop} {Q : Exit → Act → World → Prop} (KT : KeyF k kv mpG) (x y : Operand) (t e : TypeId) (ho : o.op = Op.call { callee := Callee.builtin Builtin.delete, args := #[x, y], argTypes := #[t, k] }) (ht : Try.prog.underlying t = some (.map k e)) (hm : a.eval x = .map (some m)) (p : κ) (hp : a.eval y = kv p) (h : MpIs kv w m M)
    (hK : ∀ w', MpIs kv w' m (mpDel M p) → Tch w w' [m] → w'.heap.size = w.heap.size → K (a.put o.dst (.tuple #[])) w') : o.wp Try.prog a w K Q := by
  obtain ⟨w', hrun, r1, r2, r3⟩ := h.delete KT ht p o.type
  unfold Oper.wp
  simp [execOp, ho, resolve, invoke, builtin, hm, hp, hrun, Result.andThen]
  exact hK w' r1 r2 r3
theorem step_mset {ops : Array Oper} {o : Oper} {a : Act} {K : Act → World → Prop} {Q : Exit → Act → World → Prop} {E : Prop} (hg : o.guard = none) (KT : KeyF k kv mpG) (x y z : Operand) (t e : TypeId) (ho : o.op = .mapUpdate t x y z) (ht : Try.prog.underlying t = some (.map k e)) (hm : a.eval x = .map (some m)) (p : κ) (hp : a.eval y = kv p) (v : Value) (hv : a.eval z = v) (h : MpIs kv w m M)
    (hK : ∀ w', MpIs kv w' m (mpPut M p v) → Tch w w' [m] → w'.heap.size = w.heap.size → K (a.put o.dst undef) w') : if Region.wanted o (yielded ops a.tmps) = true then Oper.wp Try.prog o a w K Q else E := by
  have hw : Region.wanted o (yielded ops a.tmps) = true := by simp [Region.wanted, hg]
  rw [if_pos hw]
  exact wpo_mset KT x y z t e ho ht hm p hp v hv h hK
theorem step_mdel {ops : Array Oper} {o : Oper} {a : Act} {K : Act → World → Prop} {Q : Exit → Act → World → Prop} {E : Prop} (hg : o.guard = none) (KT : KeyF k kv mpG) (x y : Operand) (t e : TypeId) (ho : o.op = Op.call { callee := Callee.builtin Builtin.delete, args := #[x, y], argTypes := #[t, k] }) (ht : Try.prog.underlying t = some (.map k e)) (hm : a.eval x = .map (some m)) (p : κ) (hp : a.eval y = kv p) (h : MpIs kv w m M)
    (hK : ∀ w', MpIs kv w' m (mpDel M p) → Tch w w' [m] → w'.heap.size = w.heap.size → K (a.put o.dst (.tuple #[])) w') : if Region.wanted o (yielded ops a.tmps) = true then Oper.wp Try.prog o a w K Q else E := by
  have hw : Region.wanted o (yielded ops a.tmps) = true := by simp [Region.wanted, hg]
  rw [if_pos hw]
  exact wpo_mdel KT x y t e ho ht hm p hp h hK
theorem wpList_mset {ops : Array Oper} {rest : List Oper} {o : Oper} {a : Act} {Q : Exit → Act → World → Prop} (hgd : o.guard = none) (KT : KeyF k kv mpG) (x y z : Operand) (t e : TypeId) (ho : o.op = .mapUpdate t x y z) (ht : Try.prog.underlying t = some (.map k e)) (hm : a.eval x = .map (some m)) (p : κ) (hp : a.eval y = kv p) (v : Value) (hv : a.eval z = v) (h : MpIs kv w m M)
    (hK : ∀ w', MpIs kv w' m (mpPut M p v) → Tch w w' [m] → w'.heap.size = w.heap.size → wpList Try.prog ops Q rest (a.put o.dst undef) w') : wpList Try.prog ops Q (o :: rest) a w :=
  wpList_plain hgd fun _ hq => wpo_mset KT x y z t e ho ht hm p hp v hv h (fun w' h1 h2 h3 => hq _ _ (hK w' h1 h2 h3))
theorem wpList_mdel {ops : Array Oper} {rest : List Oper} {o : Oper} {a : Act} {Q : Exit → Act → World → Prop} (hgd : o.guard = none) (KT : KeyF k kv mpG) (x y : Operand) (t e : TypeId) (ho : o.op = Op.call { callee := Callee.builtin Builtin.delete, args := #[x, y], argTypes := #[t, k] }) (ht : Try.prog.underlying t = some (.map k e)) (hm : a.eval x = .map (some m)) (p : κ) (hp : a.eval y = kv p) (h : MpIs kv w m M)
    (hK : ∀ w', MpIs kv w' m (mpDel M p) → Tch w w' [m] → w'.heap.size = w.heap.size → wpList Try.prog ops Q rest (a.put o.dst (.tuple #[])) w') : wpList Try.prog ops Q (o :: rest) a w :=
  wpList_plain hgd fun _ hq => wpo_mdel KT x y t e ho ht hm p hp h (fun w' h1 h2 h3 => hq _ _ (hK w' h1 h2 h3))
end
/-- Whole numbers as keys. -/
theorem findNow_int (p : Int) : ∀ (es : List MapEntry) (M : List (Int × Value)) (i : Nat), es.map (fun e => (e.key, e.val)) = M.map (fun x => (Value.int .i64 x.1, x.2)) → Instr.findNow (.int .i64) (.int .i64 p) es i = some (mpG p M i)
  | [], [], i, _ => rfl
  | [], _ :: _, i, h => by simp at h
  | _ :: _, [], i, h => by simp at h
  | e :: es, x :: M, i, h => by
    rw [List.map_cons, List.map_cons] at h
    injection h with h1 h2
    injection h1 with h1 h3
    have ih := findNow_int p es M (i + 1) h2
    unfold Instr.findNow mpG
    rw [h1]
    by_cases hp : p = x.1
    · simp [Instr.sameNow, hp, h3]
    · have e : (p == x.1) = false := by simpa using hp
      simp [Instr.sameNow, hp, e, ih]
set_option maxRecDepth 100000 in
theorem chk_int {k : TypeId} (hu : Try.prog.underlying k = some (.int .i64)) (b : Bool) (x : Int) (W : World) : (Instr.checkKey b 10000 k (.int .i64 x)).run Try.prog W = .ok () W := by
  unfold Instr.checkKey
  simp [run_underlying hu, Result.andThen]
theorem keyInt {k : TypeId} (hu : Try.prog.underlying k = some (.int .i64)) : KeyF (κ := Int) k (fun x => Value.int .i64 x) mpG where
  inj := fun h => by injection h
  find := fun p W es M h => MapKept.run_findKey hu (findNow_int p es M 0 h)
  chk := fun b x W => chk_int hu b x W
  same := fun x => by simp [Instr.sameBits]
end Go.Proofs.Ytlbkphnbpenbcaa
