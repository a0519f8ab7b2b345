/-
  slices.SortFunc (the shelf's): what serves any type of element; a row as the sort's words say it.
-/
import Derived.Test.YtlbkphnbpenbcaaGen
import Derived.Shelf.SlGeneric
import Derived.Shelf.SlSortCmp.NoneTotal
import Derived.Sort.Grow
namespace Go.Proofs.Ytlbkphnbpenbcaa
open Go.RowKit Go.Shelf Go.Sort
set_option linter.unusedVariables false

theorem own_openN {w : World} {g n c sz : Nat} {t : TypeId} {xs : List Value} (h : w.ownsRow 0 t sz (.slice (some ⟨g, 0, none⟩) n c) n xs) : ∃ cur : Array Value, Blk w g t cur ∧ n ≤ c ∧ c ≤ maxLen ∧ cur.size = c * sz ∧ cur.toList.take (n * sz) = xs := by
  rcases h.2 with ⟨e, -⟩ | ⟨g', cap, cur, e, h1, h2, h3, h4, h5, h6⟩
  · cases e
  · injection e with e1 e2 e3
    injection e1 with e1
    injection e1 with e1
    subst e1 e3
    exact ⟨cur, h2, h3, h4, h5, h6⟩
/-- Nothing below B has turned, and the tape has only gone on. -/
structure BelowD (B : Nat) (w w' : World) : Prop where
  bel : Below B w w'
  drawn : w.drawn ≤ w'.drawn
theorem BelowD.refl (B : Nat) (w : World) : BelowD B w w := ⟨Below.refl B w, Nat.le_refl _⟩
theorem BelowD.trans {B : Nat} {a b c : World} (h : BelowD B a b) (k : BelowD B b c) : BelowD B a c := ⟨h.bel.trans k.bel, Nat.le_trans h.drawn k.drawn⟩
theorem BelowD.mono {B B' : Nat} {w w' : World} (h : BelowD B w w') (hB : B' ≤ B) : BelowD B' w w' := ⟨h.bel.mono hB, h.drawn⟩
theorem BelowD.alloc {B : Nat} {a w : World} (h : BelowD B a w) (hB : B ≤ w.heap.size) (o : Obj) : BelowD B a (w.alloc o) := ⟨h.bel.alloc hB o, h.drawn⟩
theorem BelowD.setCell {B : Nat} {a w : World} (h : BelowD B a w) {p : Addr} (hp : B ≤ p.block) (u : Value) : BelowD B a (w.setCell p u) := ⟨h.bel.setCell hp u, h.drawn⟩
theorem BelowD.size {B : Nat} {w w' : World} (h : BelowD B w w') : w.heap.size ≤ w'.heap.size := h.bel.size
theorem BelowD.block {B : Nat} {w w' : World} (h : BelowD B w w') : ∀ k, k < B → w'.heap[k]? = w.heap[k]? := h.bel.block
theorem BelowD.cell {B : Nat} {w w' : World} (h : BelowD B w w') {p : Addr} (hp : p.block < B) : w'.cell? p = w.cell? p := h.bel.cell hp
theorem BelowD.frozen {B : Nat} {w w' : World} (h : BelowD B w w') {p : Addr} (hp : p.block < B) : w'.frozen? p = w.frozen? p := h.bel.frozen hp
theorem Blk.belowD {w w' : World} {g : Nat} {t : TypeId} {cs : Array Value} {B : Nat} (h : Blk w g t cs) (hb : BelowD B w w') (hg : g < B) : Blk w' g t cs := h.below hb.bel hg
/-- What came in lies as it lay: the world has merely grown, and drawn. -/
theorem BelowD.grow {w w' : World} (h : BelowD w.heap.size w w') : ∃ q os', w' = Go.Sort.grow (w.drewN q) os' := by
  refine ⟨w'.drawn - w.drawn, w'.heap.extract w.heap.size w'.heap.size, ?_⟩
  obtain ⟨⟨h1, h2, h3, h4, h5⟩, h6⟩ := h
  obtain ⟨hp, tp, dr, os, ou⟩ := w'
  obtain ⟨hp', tp', dr', os', ou'⟩ := w
  simp only at h1 h2 h3 h4 h5 h6
  subst h1 h2 h3
  unfold Go.Sort.grow World.drewN
  simp only [World.mk.injEq, true_and, and_true]
  refine ⟨?_, by omega⟩
  refine Array.ext_getElem? fun i => ?_
  rcases Nat.lt_or_ge i hp'.size with hi | hi
  · rw [Array.getElem?_append_left hi]; exact h5 i hi
  · rw [Array.getElem?_append_right hi]
    simp only [Array.getElem?_extract, Nat.min_self]
    split
    · rw [show hp'.size + (i - hp'.size) = i by omega]
    · rw [Array.getElem?_eq_none (by omega)]
theorem flatK_flat {α : Type} [Inhabited α] (enc : α → List Value) (k : Nat) (hk : ∀ x, (enc x).length = k) (h0 : 0 < k) (d : Array α) : (flatK enc k d).toList = d.toList.flatMap enc := by
  refine List.ext_getElem? fun t => ?_
  by_cases ht : t < d.size * k
  · have hq : t / k < d.size := Nat.div_lt_of_lt_mul (by rw [Nat.mul_comm]; exact ht)
    have hx : d.toList[t / k]? = some d[t / k]! := by rw [getElem!_pos d _ hq]; simp [hq]
    have hm : t % k < (enc d[t / k]!).length := by rw [hk]; exact Nat.mod_lt _ h0
    have e := flatk_at hk hx (k := t % k) (Nat.mod_lt _ h0)
    rw [show t / k * k + t % k = t by rw [Nat.mul_comm]; exact Nat.div_add_mod t k] at e
    rw [e, Array.getElem?_toList, Array.getElem?_eq_getElem (by rw [size_flatK]; exact ht), ← getElem!_pos (flatK enc k d) t (by rw [size_flatK]; exact ht), get_flatK _ _ _ _ ht, List.getElem?_eq_getElem hm, getElem!_pos (enc d[t / k]!) (t % k) hm]
  · rw [List.getElem?_eq_none (by rw [Array.length_toList, size_flatK]; omega), List.getElem?_eq_none (by rw [flatk_len hk, Array.length_toList]; omega)]
/-- The world that a sort leaves. -/
theorem sortW_own {α : Type} [Inhabited α] (enc : α → List Value) (sz : Nat) (hk : ∀ x, (enc x).length = sz) (h0 : 0 < sz) {t : TypeId} {w : World} {g n c m : Nat} {os : Array Obj} {l : List α} {d : Array α} (hd : d.size = n) (hl : l.length = n) (h : w.ownsRow 0 t sz (.slice (some ⟨g, 0, none⟩) n c) n (l.flatMap enc)) :
    (sortWorldK enc sz w g 0 m d os).ownsRow 0 t sz (.slice (some ⟨g, 0, none⟩) n c) n (d.toList.flatMap enc) ∧ Tch w (sortWorldK enc sz w g 0 m d os) [g] := by
  obtain ⟨cur, hb, h1, h2, h3, h4⟩ := own_openN h
  have hlt := hb.lt
  have hb' : (sortWorldK enc sz w g 0 m d os).heap[g]? = some (.cells (putCells id 0 (flatK enc sz d) cur) t (0, 0)) := by
    show ((w.heap.modify g _) ++ os)[g]? = _
    rw [Array.getElem?_append_left (by simpa using hlt), Array.getElem?_modify, if_pos rfl, show w.heap[g]? = _ from hb]
    rfl
  have hsz : (flatK enc sz d).size = n * sz := by rw [size_flatK, hd]
  have htk : (putCells id 0 (flatK enc sz d) cur).toList.take (n * sz) = d.toList.flatMap enc := by
    rw [← flatK_flat enc sz hk h0 d]
    refine List.ext_getElem? fun j => ?_
    by_cases hj : j < n * sz
    · rw [List.getElem?_take_of_lt hj, Array.getElem?_toList, Array.getElem?_toList]
      have hj2 : j < cur.size := by rw [h3]; exact Nat.lt_of_lt_of_le hj (Nat.mul_le_mul_right _ h1)
      rw [Array.getElem?_eq_getElem (xs := putCells id 0 (flatK enc sz d) cur) (by unfold putCells; simpa using hj2), Array.getElem?_eq_getElem (xs := flatK enc sz d) (by rw [hsz]; exact hj)]
      unfold putCells
      simp only [Array.getElem_mapIdx, hsz, Nat.zero_le, Nat.zero_add, hj, true_and, if_true, id, Nat.sub_zero]
      rw [getElem!_pos (flatK enc sz d) j (by rw [hsz]; exact hj)]
    · rw [List.getElem?_eq_none (by rw [List.length_take]; omega), List.getElem?_eq_none (by rw [Array.length_toList, hsz]; omega)]
  refine ⟨⟨by rw [flatk_len hk, Array.length_toList, hd], .inr ⟨g, c, _, rfl, Nat.zero_le _, hb', h1, h2, by unfold putCells; simpa using h3, htk⟩⟩, rfl, rfl, rfl, ?_, fun k hk hn => ?_⟩
  · show _ ≤ ((w.heap.modify g _) ++ os).size
    simp
  · show ((w.heap.modify g _) ++ os)[k]? = _
    rw [Array.getElem?_append_left (by simpa using hk), Array.getElem?_modify, if_neg (by simpa [eq_comm] using hn)]
theorem pw_of_srt {α : Type} [Inhabited α] {lt : α → α → Bool} {d : Array α} (h : SortedIn lt 0 d.size d) : d.toList.Pairwise fun x y => lt y x = false := by
  rw [List.pairwise_iff_getElem]
  intro i j hi hj hij
  have := h i j (Nat.zero_le _) hij (by simpa using hj)
  rw [getElem!_pos d j (by simpa using hj), getElem!_pos d i (by simpa using hi)] at this
  simpa using this
/-- A row as the sort holds it. -/
theorem holds_of {α : Type} [Inhabited α] (enc : α → List Value) (sz : Nat) (hk : ∀ x, (enc x).length = sz) (h0 : 0 < sz) {t : TypeId} {w : World} {g n c : Nat} {l : List α} (hl : l.length = n) (h : w.ownsRow 0 t sz (.slice (some ⟨g, 0, none⟩) n c) n (l.flatMap enc)) : HoldsK enc sz w g 0 l.toArray := by
  obtain ⟨cur, hb, h1, h2, h3, h4⟩ := own_openN h
  intro j hj
  rw [size_flatK, List.size_toArray] at hj
  have hf : (flatK enc sz l.toArray)[j]? = cur[j]? := by
    rw [← Array.getElem?_toList, flatK_flat enc sz hk h0]
    show (l.flatMap enc)[j]? = _
    rw [← h4, List.getElem?_take_of_lt (by rw [← hl]; exact hj), Array.getElem?_toList]
  have hj2 : j < (flatK enc sz l.toArray).size := by rw [size_flatK, List.size_toArray]; exact hj
  rw [Array.getElem?_eq_getElem hj2] at hf
  refine ⟨?_, ?_⟩
  · rw [getElem!_pos _ j hj2]
    simp only [World.cell?, show w.heap[g]? = _ from hb, Nat.zero_add]
    exact hf.symm
  · simp [World.frozen?, show w.heap[g]? = _ from hb]
end Go.Proofs.Ytlbkphnbpenbcaa
