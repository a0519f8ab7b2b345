/-
  What serves any stage: the first that is so; rows of elements of any size; what a step of an open region does (taken over from stage 14's texts).
-/
import Derived.Test.YtlbkphnbpenbcaaOwn
import Derived.Deep.RegionLaw
import Derived.Lib.SliceRun
import Derived.Laws.IdiomCopy
import Derived.Maps.OwnOps
import Derived.Maps.OwnSet
import Derived.Laws.Externs
import Derived.MapKept
import Derived.Shelf.Abstract
namespace Go.Proofs.Ytlbkphnbpenbcaa
open Go.RowKit Go.Maps
set_option linter.unusedVariables false

def fndI {α : Type} (p : α → Bool) : List α → Nat
  | [] => 0
  | x :: r => if p x = true then 1 else if fndI p r = 0 then 0 else fndI p r + 1
theorem fndI_zero {α : Type} {p : α → Bool} {l : List α} : fndI p l = 0 ↔ ∀ (i : Nat) (x : α), l[i]? = some x → p x = false := by
  induction l with
  | nil => simp [fndI]
  | cons y r ih =>
    unfold fndI
    by_cases h : p y = true
    · rw [if_pos h]
      refine ⟨fun e => by omega, fun e => ?_⟩
      have := e 0 y rfl
      rw [h] at this
      cases this
    · rw [if_neg h]
      constructor
      · intro e i x hx
        have hr : fndI p r = 0 := by split at e <;> omega
        cases i with
        | zero => simp at hx; subst hx; simpa using h
        | succ i => exact ih.1 hr i x (by simpa using hx)
      · intro e
        rw [if_pos (ih.2 fun i x hx => e (i + 1) x (by simpa using hx))]
theorem fndI_succ {α : Type} {p : α → Bool} {l : List α} {i : Nat} : fndI p l = i + 1 ↔ (∃ x, l[i]? = some x ∧ p x = true) ∧ ∀ (j : Nat) (x : α), j < i → l[j]? = some x → p x = false := by
  induction l generalizing i with
  | nil => simp [fndI]
  | cons y r ih =>
    unfold fndI
    by_cases h : p y = true
    · rw [if_pos h]
      constructor
      · intro e
        obtain rfl : i = 0 := by omega
        exact ⟨⟨y, rfl, h⟩, fun j x hj => by omega⟩
      · rintro ⟨-, h2⟩
        rcases Nat.eq_zero_or_pos i with h0 | h0
        · omega
        · have := h2 0 y h0 rfl
          rw [h] at this
          cases this
    · rw [if_neg h]
      have hf : p y = false := by simpa using h
      cases i with
      | zero =>
        constructor
        · intro e; split at e <;> omega
        · rintro ⟨⟨x, hx, hp⟩, -⟩
          simp at hx; subst hx
          exact absurd hp h
      | succ i =>
        have e : (if fndI p r = 0 then 0 else fndI p r + 1) = i + 1 + 1 ↔ fndI p r = i + 1 := by split <;> omega
        rw [e, ih]
        constructor
        · rintro ⟨⟨x, hx, hp⟩, h2⟩
          refine ⟨⟨x, by simpa using hx, hp⟩, fun j z hj hz => ?_⟩
          cases j with
          | zero => simp at hz; subst hz; exact hf
          | succ j => exact h2 j z (by omega) (by simpa using hz)
        · rintro ⟨⟨x, hx, hp⟩, h2⟩
          exact ⟨⟨x, by simpa using hx, hp⟩, fun j z hj hz => h2 (j + 1) z (by omega) (by simpa using hz)⟩
theorem fndI_le {α : Type} (p : α → Bool) (l : List α) : fndI p l ≤ l.length := by
  induction l with
  | nil => exact Nat.le_refl _
  | cons y r ih =>
    unfold fndI
    simp only [List.length_cons]
    by_cases h : p y = true
    · rw [if_pos h]; omega
    · rw [if_neg h]; split <;> omega
theorem str_ne {s t : ByteArray} (h : ¬ s = t) : (s.toList == t.toList) = false := by
  have h1 : ¬ s.toList = t.toList := fun e => h (by rw [ByteArray.toList_eq, ByteArray.toList_eq] at e; apply ByteArray.ext; exact Array.toList_inj.1 e)
  simpa using h1
theorem str_eq (s : ByteArray) : (s.toList == s.toList) = true := by simp
theorem own_cellN {w : World} {base g n c sz : Nat} {t : TypeId} {xs : List Value} (h : w.ownsRow base t sz (.slice (some ⟨g, 0, none⟩) n c) n xs) {j : Nat} {u : Value} (hu : xs[j]? = some u) : w.cell? ⟨g, j, none⟩ = some u := by
  obtain ⟨A, c', e, -, h1⟩ := own_sl h
  injection e with e1 e2 e3
  subst e1
  have hl := h.1
  have hj := (List.getElem?_eq_some_iff.1 hu).1
  have hn : 0 < n := by
    rcases Nat.eq_zero_or_pos n with h0 | h0
    · rw [h0, Nat.zero_mul] at hl; omega
    · exact h0
  obtain ⟨g', e, -, -, h2⟩ := h1 hn
  injection e with e
  injection e with e
  subst e
  exact h2 j u hu
theorem own_setN {w : World} {base g n c i sz : Nat} {t : TypeId} {xs : List Value} (h : w.ownsRow base t sz (.slice (some ⟨g, 0, none⟩) n c) n xs) (hi : i < n * sz) (u : Value) :
    (w.setCell ⟨g, i, none⟩ u).ownsRow base t sz (.slice (some ⟨g, 0, none⟩) n c) n (xs.set i u) := by
  rcases h.2 with ⟨e, -⟩ | ⟨g', cap, cur, e, h1, h2, h3, h4, h5, h6⟩
  · cases e
  · injection e with e1 e2 e3
    injection e1 with e1
    injection e1 with e1
    subst e1 e3
    have hb : Blk w g t cur := h2
    refine ⟨by have := h.1; simpa using this, .inr ⟨g, c, cur.setIfInBounds i u, rfl, h1, hb.set_ i u, h3, h4, by simpa using h5, ?_⟩⟩
    rw [← h6]
    simp [Array.toList_setIfInBounds, List.take_set]
def obI (v : Value) : List Nat := match v.ownBlock with | some k => [k] | none => []
theorem obI_some {v : Value} {k : Nat} (h : v.ownBlock = some k) : obI v = [k] := by unfold obI; rw [h]
theorem own_tch {w w' : World} {base e size n : Nat} {v : Value} {xs : List Value} {T : List Nat} (h : w.ownsRow base e size v n xs) (ht : Tch w w' T) (hn : ∀ s ∈ obI v, s ∉ T) : w'.ownsRow base e size v n xs :=
  ht.own h (fun k hk => hn k (by rw [obI_some hk]; simp))
theorem own_lts {w : World} {base e size n : Nat} {v : Value} {xs : List Value} (h : w.ownsRow base e size v n xs) : ∀ s ∈ obI v, s < w.heap.size := by
  intro s hs
  unfold obI at hs
  cases hb : v.ownBlock with
  | none => rw [hb] at hs; cases hs
  | some k => rw [hb] at hs; rw [List.mem_singleton.1 hs]; exact own_lt h hb
theorem slice_some {w : World} {base size n c : Nat} {A : Option Addr} {e : TypeId} {xs : List Value} (h : w.ownsRow base e size (.slice A n c) n xs) (hn : 0 < n) : ∃ g, A = some ⟨g, 0, none⟩ := by
  obtain ⟨A', c', e, -, h1⟩ := own_sl h
  injection e with e1 e2 e3
  subst e1
  obtain ⟨g, e, -⟩ := h1 hn
  exact ⟨g, e⟩
theorem flatk_len {α : Type} {f : α → List Value} {n : Nat} (hf : ∀ x, (f x).length = n) (l : List α) : (l.flatMap f).length = l.length * n := by
  induction l with
  | nil => simp
  | cons y r ih => rw [List.flatMap_cons, List.length_append, hf, ih, List.length_cons, Nat.succ_mul]; omega
theorem flatk_at {α : Type} {f : α → List Value} {n : Nat} (hf : ∀ x, (f x).length = n) {l : List α} {i : Nat} {x : α} (hx : l[i]? = some x) {k : Nat} (hk : k < n) : (l.flatMap f)[i * n + k]? = (f x)[k]? := by
  induction l generalizing i with
  | nil => simp at hx
  | cons y r ih =>
    rw [List.flatMap_cons]
    cases i with
    | zero =>
      simp at hx; subst hx
      rw [List.getElem?_append_left (by rw [hf]; omega)]
      congr 1; omega
    | succ i =>
      rw [List.getElem?_append_right (by rw [hf, Nat.succ_mul]; omega), hf, show (i + 1) * n + k - n = i * n + k by rw [Nat.succ_mul]; omega]
      exact ih (by simpa using hx)
theorem modI_set {α : Type} {l : List α} {i : Nat} {x : α} (h : l[i]? = some x) (f : α → α) : l.modify i f = l.set i (f x) := by
  apply List.ext_getElem?
  intro j
  rw [List.getElem?_modify, List.getElem?_set]
  by_cases hj : i = j
  · subst hj
    rw [h]
    have := (List.getElem?_eq_some_iff.1 h).1
    simp [this]
  · rw [if_neg hj]
    cases l[j]? <;> simp [hj]
theorem fndI_app {α : Type} (p : α → Bool) (l : List α) (x : α) : fndI p (l ++ [x]) = if fndI p l = 0 then (if p x = true then l.length + 1 else 0) else fndI p l := by
  induction l with
  | nil =>
    show fndI p [x] = _
    unfold fndI
    by_cases h : p x = true
    · simp [h]
    · simp [h, fndI]
  | cons y r ih =>
    rw [List.cons_append]
    unfold fndI
    by_cases h : p y = true
    · simp [h]
    · rw [if_neg h, if_neg h, ih]
      by_cases h0 : fndI p r = 0
      · simp [h0]
        split <;> simp_all
      · simp [h0]
theorem map_tch {w w' : World} {T : List Nat} {P : Program} {k : TypeId} {R : Value → Option (DataW Unit × List MemPlace)} {b n : Nat} {D : DataW Unit} (h : w.ownsMap P k R b n D) (ht : Tch w w' T) (hn : b ∉ T) : w'.ownsMap P k R b n D := by
  have hlt := h.lt
  obtain ⟨es, clock, hb, F, hs, hD⟩ := h
  exact ⟨es, clock, (ht.block b hlt hn).trans hb, F, hs, hD⟩
theorem obI_nodup (v : Value) : (obI v).Nodup := by
  unfold obI
  cases v.ownBlock <;> simp
theorem set_same {α : Type} {l : List α} {i : Nat} {x : α} (h : l[i]? = some x) : l.set i x = l := by
  apply List.ext_getElem?
  intro j
  rw [List.getElem?_set]
  split
  · rename_i hj; subst hj
    have h1 := (List.getElem?_eq_some_iff.1 h).1
    rw [if_pos h1, h]
  · rfl
theorem flat_set2 {lv : List Value} {v0 v : Value} {B i : Nat} (h : (lv.flatMap obI).Nodup) (hi : lv[i]? = some v0) (hlt : ∀ s ∈ lv.flatMap obI, s < B) (hv : ∀ s ∈ obI v, s ∈ obI v0 ∨ B ≤ s) : ((lv.set i v).flatMap obI).Nodup ∧ ∀ s ∈ (lv.set i v).flatMap obI, s ∈ lv.flatMap obI ∨ B ≤ s := by
  induction lv generalizing i with
  | nil => simp at hi
  | cons y r ih =>
    rw [List.flatMap_cons, List.nodup_append] at h
    rw [List.flatMap_cons] at hlt
    obtain ⟨h1, h2, h3⟩ := h
    cases i with
    | zero =>
      simp at hi
      subst hi
      rw [List.set_cons_zero, List.flatMap_cons, List.flatMap_cons, List.nodup_append]
      refine ⟨⟨obI_nodup v, h2, fun a ha b hb e => ?_⟩, fun s hs => ?_⟩
      · rcases hv a ha with h4 | h4
        · exact h3 a h4 b hb e
        · have := hlt b (List.mem_append_right _ hb)
          omega
      · rcases List.mem_append.1 hs with h4 | h4
        · rcases hv s h4 with h5 | h5
          · exact .inl (List.mem_append_left _ h5)
          · exact .inr h5
        · exact .inl (List.mem_append_right _ h4)
    | succ i =>
      obtain ⟨k1, k2⟩ := ih (i := i) h2 (by simpa using hi) (fun s hs => hlt s (List.mem_append_right _ hs))
      rw [List.set_cons_succ, List.flatMap_cons, List.flatMap_cons, List.nodup_append]
      refine ⟨⟨h1, k1, fun a ha b hb e => ?_⟩, fun s hs => ?_⟩
      · rcases k2 b hb with h4 | h4
        · exact h3 a ha b h4 e
        · have := hlt a (List.mem_append_left _ ha)
          omega
      · rcases List.mem_append.1 hs with h4 | h4
        · exact .inl (List.mem_append_left _ h4)
        · rcases k2 s h4 with h5 | h5
          · exact .inl (List.mem_append_right _ h5)
          · exact .inr h5
theorem flat_disj {lv : List Value} (h : (lv.flatMap obI).Nodup) {i j : Nat} {v u : Value} (hi : lv[i]? = some v) (hj : lv[j]? = some u) (hne : i ≠ j) : ∀ s ∈ obI u, s ∉ obI v := by
  induction lv generalizing i j with
  | nil => simp at hi
  | cons y r ih =>
    rw [List.flatMap_cons, List.nodup_append] at h
    obtain ⟨h1, h2, h3⟩ := h
    cases i with
    | zero =>
      cases j with
      | zero => exact absurd rfl hne
      | succ j =>
        simp at hi hj
        subst hi
        intro s hs hs2
        exact h3 s hs2 s (List.mem_flatMap.2 ⟨u, List.mem_of_getElem? hj, hs⟩) rfl
    | succ i =>
      cases j with
      | zero =>
        simp at hi hj
        subst hj
        intro s hs hs2
        exact h3 s hs s (List.mem_flatMap.2 ⟨v, List.mem_of_getElem? hi, hs2⟩) rfl
      | succ j => exact ih h2 (by simpa using hi) (by simpa using hj) (by omega)
theorem step_apr {ops : Array Oper} {o : Oper} {a : Act} {w : World} {K : Act → World → Prop} {Q : Exit → Act → World → Prop} {E : Prop}
    (hg : o.guard = none) (s x : Operand) (t : TypeId) (hop : o.op = Op.call { callee := Callee.builtin Builtin.append, args := #[s, x], argTypes := #[t, t] })
    (e : TypeId) (size : Nat) (h1 : Try.prog.underlying t = some (.slice e)) (hinf : (Try.prog.info? e).map (·.size) = some size)
    (g n cap : Nat) (cur : Array Value) (hB : Blk w g e cur) (hs : a.eval s = .slice (some ⟨g, 0, none⟩) n cap)
    (ad : Addr) (m c : Nat) (news : List Value) (hx : a.eval x = .slice (some ad) m c) (hn : news.length = m * size) (hc : ∀ j u, news[j]? = some u → w.cell? (ad.add j) = some u) (h1c : ∀ u ∈ news, u.oneCell' = true)
    (hroom : n + m ≤ cap) (hfit : n * size + news.length ≤ cur.size)
    (hK : K (a.put o.dst (.slice (some ⟨g, 0, none⟩) (n + m) cap)) (w.setRow g (cur.toList.take (n * size) ++ news ++ cur.toList.drop (n * size + news.length)).toArray)) :
    if Region.wanted o (yielded ops a.tmps) = true then Oper.wp Try.prog o a w K Q else E := by
  have hw : Region.wanted o (yielded ops a.tmps) = true := by simp [Region.wanted, hg]
  rw [if_pos hw]
  obtain ⟨i, hi, h4⟩ : ∃ i, Try.prog.info? e = some i ∧ i.size = size := by
    cases h : Try.prog.info? e with
    | none => rw [h] at hinf; cases hinf
    | some i => rw [h] at hinf; injection hinf with hinf; exact ⟨i, rfl, hinf⟩
  subst h4
  have hrun := run_append_room (P := Try.prog) w t o.type e i h1 hi g n cap cur hB ad m c news hn hc h1c hroom hfit
  obtain ⟨W, hW⟩ : ∃ W, w.setRow g (cur.toList.take (n * i.size) ++ news ++ cur.toList.drop (n * i.size + news.length)).toArray = W := ⟨_, rfl⟩
  rw [hW] at hrun hK
  unfold Oper.wp
  simp [execOp, hop, resolve, invoke, builtin, hs, hx, hrun, Result.andThen]
  exact hK
theorem setRow_blk {w : World} {g : Nat} {t : TypeId} {old cs : Array Value} (hB : Blk w g t old) : Blk (w.setRow g cs) g t cs := setRow_heap w g old _ t _ hB
theorem setRow_tch (w : World) (g : Nat) (cs : Array Value) : Tch w (w.setRow g cs) [g] := ⟨rfl, rfl, rfl, by simp [World.setRow], fun k hk hn => setRow_other w g k _ (fun e => hn (by simp [e]))⟩
theorem erase_flat {α : Type} {f : α → List Value} {sz : Nat} (hf : ∀ x, (f x).length = sz) : ∀ {l : List α} {i : Nat}, i < l.length → (l.eraseIdx i).flatMap f = (l.flatMap f).take (i * sz) ++ (l.flatMap f).drop ((i + 1) * sz)
  | [], i, h => by simp at h
  | y :: r, 0, h => by
    rw [List.eraseIdx_cons_zero, List.flatMap_cons, Nat.zero_mul, List.take_zero, List.nil_append, Nat.zero_add, Nat.one_mul, List.drop_left' (hf y)]
  | y :: r, i + 1, h => by
    have e0 : (f y).take ((i + 1) * sz) = f y := List.take_of_length_le (by rw [hf, Nat.succ_mul]; omega)
    have e3 : (f y).drop ((i + 1 + 1) * sz) = [] := List.drop_of_length_le (by rw [hf, Nat.succ_mul (i + 1)]; omega)
    have e1 : (f y ++ r.flatMap f).take ((i + 1) * sz) = f y ++ (r.flatMap f).take (i * sz) := by
      rw [List.take_append, e0, hf, show (i + 1) * sz - sz = i * sz by rw [Nat.succ_mul]; omega]
    have e2 : (f y ++ r.flatMap f).drop ((i + 1 + 1) * sz) = (r.flatMap f).drop ((i + 1) * sz) := by
      rw [List.drop_append, e3, hf, List.nil_append, show (i + 1 + 1) * sz - sz = (i + 1) * sz by rw [Nat.succ_mul (i + 1)]; omega]
    rw [List.eraseIdx_cons_succ, List.flatMap_cons, List.flatMap_cons, erase_flat hf (by simpa using h), e1, e2, List.append_assoc]
theorem own_uniq {w : World} {base e size n : Nat} {v : Value} {xs ys : List Value} (h : w.ownsRow base e size v n xs) (k : w.ownsRow base e size v n ys) : xs = ys := by
  rcases h.2 with ⟨rfl, h0⟩ | ⟨g, cap, cur, rfl, h1, h2, h3, h4, h5, h6⟩
  · have e1 := h.1
    have e2 := k.1
    rw [h0, Nat.zero_mul] at e1 e2
    rw [List.eq_nil_of_length_eq_zero e1, List.eq_nil_of_length_eq_zero e2]
  · rcases k.2 with ⟨e, -⟩ | ⟨g', cap', cur', e, k1, k2, k3, k4, k5, k6⟩
    · cases e
    · injection e with e1 e2 e3
      injection e1 with e1
      injection e1 with e1
      subst e1
      rw [h2] at k2
      injection k2 with k2
      injection k2 with k2
      subst k2
      rw [← h6, ← k6]
theorem step_sta {ops : Array Oper} {o : Oper} {a : Act} {w : World} {K : Act → World → Prop} {Q : Exit → Act → World → Prop} {E : Prop} (hg : o.guard = none) (ty : TypeId) (x y : Operand) (ho : o.op = .store ty x y)
    (g off : Nat) (cs : Array Value) (hx : a.eval x = .pointer (some ⟨g, off, none⟩)) (hy : a.eval y = .agg cs)
    (t : TypeId) (old : Array Value) (hB : Blk w g t old) (n : Nat) (hi : (Try.prog.info? ty).map (·.size) = some n) (hn : cs.size = n) (hl : off + n ≤ old.size) (h1 : ∀ v ∈ cs.toList, v.oneCell' = true)
    (h : ∀ w', Sta w w' g off t old cs → K (a.put o.dst undef) w') : if Region.wanted o (yielded ops a.tmps) = true then Oper.wp Try.prog o a w K Q else E := by
  have hw : Region.wanted o (yielded ops a.tmps) = true := by simp [Region.wanted, hg]
  rw [if_pos hw]
  exact wpo_sta ty x y ho g off cs hx hy t old hB n hi hn hl h1 h
theorem sta_whole {w w' : World} {g : Nat} {t : TypeId} {old cs : Array Value} (h : Sta w w' g 0 t old cs) (hs : cs.size = old.size) : Blk w' g t cs := by
  obtain ⟨⟨cur, k1, k2, k3, k4⟩, -⟩ := h
  have : cur = cs := by
    apply Array.ext
    · omega
    · intro i h1 h2
      have := k4 i h2
      rw [Nat.zero_add, Array.getElem?_eq_getElem h1, Array.getElem?_eq_getElem h2] at this
      injection this
  rw [← this]; exact k1
theorem own_none {w : World} {base e size n c : Nat} {xs : List Value} (h : w.ownsRow base e size (.slice none n c) n xs) : n = 0 ∧ c = 0 := by
  rcases h.2 with ⟨e, h0⟩ | ⟨g, cap, cur, e, -⟩
  · injection e with e1 e2 e3
    exact ⟨e2, e3⟩
  · cases e
theorem fndI_any {α : Type} {p : α → Bool} {l : List α} : (decide ((0 : Int) ≤ ((fndI p l : Nat) : Int) - 1)) = l.any p := by
  have h := fndI_zero (p := p) (l := l)
  cases hb : l.any p with
  | false =>
    rw [List.any_eq_false] at hb
    have : fndI p l = 0 := h.2 fun i x hx => by simpa using hb x (List.mem_of_getElem? hx)
    rw [this]; rfl
  | true =>
    rw [decide_eq_true_eq]
    have : fndI p l ≠ 0 := fun e => by
      obtain ⟨x, hx, hp⟩ := List.any_eq_true.1 hb
      obtain ⟨i, hi⟩ := List.mem_iff_getElem?.1 hx
      rw [h.1 e i x hi] at hp
      cases hp
    omega
theorem eqA_eql (t : TypeId) (x y : Array Value) {b : Bool} (h : ∀ W, (Op.equalIn 10000 t (.agg x) (.agg y)).run Try.prog W = .ok b W) (W : World) : (binOp .eql t (.agg x) (.agg y)).run Try.prog W = .ok (.bool b) W := by
  have := h W
  simp [binOp, Op.equal, Op.maxDepth, this]
theorem own_geI {w : World} {base e size n : Nat} {v : Value} {xs : List Value} (h : w.ownsRow base e size v n xs) : ∀ s ∈ obI v, base ≤ s ∧ s < w.heap.size := by
  intro s hs
  unfold obI at hs
  cases hb : v.ownBlock with
  | none => rw [hb] at hs; cases hs
  | some k => rw [hb] at hs; rw [List.mem_singleton.1 hs]; exact h.lt k hb
theorem step_apc (tS tE : TypeId) (zv : Value) (sz by_ : Nat) (hu : Try.prog.underlying tS = some (.slice tE)) (hinf : (Try.prog.info? tE).map (fun i => (i.zero, i.size, i.bytes)) = some (some zv, sz, by_)) (hzs : zv.cells.size = sz) (hsz : 0 < sz) (hby : by_ ≤ 1000)
    {ops : Array Oper} {o : Oper} {a : Act} {w : World} {K : Act → World → Prop} {Q : Exit → Act → World → Prop} {E : Prop}
    (hg : o.guard = none) (s x : Operand) (ho : o.op = .call { callee := .builtin .append, args := #[s, x], argTypes := #[tS, tS] })
    (base : Nat) (v : Value) (n : Nat) (xs : List Value) (hs : a.eval s = v) (hown : w.ownsRow base tE sz v n xs)
    (ad : Addr) (c : Nat) (e : List Value) (hx : a.eval x = .slice (some ad) 1 c) (hl : e.length = sz) (hc : ∀ j u, e[j]? = some u → w.cell? (ad.add j) = some u) (h1 : ∀ u ∈ e, u.oneCell' = true)
    (hn : n ≤ 1000000) (hbase : base ≤ w.heap.size)
    (hK : ∀ v' w', w'.ownsRow base tE sz v' (n + 1) (xs ++ e) → w.grownBy w' v.ownBlock → (v'.ownBlock = v.ownBlock ∨ v'.ownBlock = some w.heap.size) → K (a.put o.dst v') w') :
    if Region.wanted o (yielded ops a.tmps) = true then Oper.wp Try.prog o a w K Q else E := by
  have hw : Region.wanted o (yielded ops a.tmps) = true := by simp [Region.wanted, hg]
  rw [if_pos hw]
  obtain ⟨i0, hi, hz0, hz1, hz2⟩ := info_parts hinf
  have hb : (n + 1) * by_ ≤ 1000001 * 1000 := Nat.mul_le_mul (by omega) hby
  obtain ⟨v', w', hrun, r1, r2, -, r4⟩ := run_append_own_at (P := Try.prog) w base tS o.type tE i0 zv sz by_ hu hi hz0 hz1 hz2 hzs hsz v n xs hown ad 1 c e (by rw [hl, Nat.one_mul]) hc h1 (by unfold maxLen; omega) (by omega) hbase
  unfold Oper.wp
  simp [execOp, ho, resolve, invoke, builtin, hs, hx, hrun, Result.andThen]
  exact hK v' w' r1 r2 r4
theorem tch_appN {w w5 : World} {B sz : Nat} {o : Obj} {t : TypeId} {v : Value} {n : Nat} {xs : List Value} (hg : (w.alloc o).grownBy w5 v.ownBlock) (ho : (w.alloc o).ownsRow B t sz v n xs) :
    ∃ S, Tch w w5 S ∧ ∀ s ∈ S, B ≤ s := by
  refine ⟨obI v, ((Tch.refl w _).alloc o).trans (Tch.of_grown' hg (fun g e => by rw [obI_some e]; simp)), fun s hs => ?_⟩
  unfold obI at hs
  cases e : v.ownBlock with
  | none => rw [e] at hs; cases hs
  | some k => rw [e] at hs; rw [List.mem_singleton.1 hs]; exact own_basek ho k e
theorem Tch.trans_ownN {w w' w'' : World} {S : List Nat} (h : Tch w w' S) (ht : ∃ T, Tch w' w'' T ∧ ∀ s ∈ T, w.heap.size ≤ s) : Tch w w'' S := by
  obtain ⟨T, ht, hs⟩ := ht
  exact h.trans_fre ht (fun s hs' => .inr (hs s hs'))
theorem wpList_apm (tS tE : TypeId) (zv : Value) (sz by_ : Nat) (hu : Try.prog.underlying tS = some (.slice tE)) (hinf : (Try.prog.info? tE).map (fun i => (i.zero, i.size, i.bytes)) = some (some zv, sz, by_)) (hzs : zv.cells.size = sz) (hsz : 0 < sz) (hby : by_ ≤ 1000)
    (w : World) {ops : Array Oper} {rest : List Oper} {o : Oper} {a : Act} {Q : Exit → Act → World → Prop} (hgd : o.guard = none) (s x : Operand)
    (ho : o.op = .call { callee := .builtin .append, args := #[s, x], argTypes := #[tS, tS] })
    (base : Nat) (v : Value) (n : Nat) (xs : List Value) (hs : a.eval s = v) (hown : w.ownsRow base tE sz v n xs)
    (b2 : Nat) (x2 : Value) (m : Nat) (ys : List Value) (hx : a.eval x = x2) (hrow : w.ownsRow b2 tE sz x2 m ys) (h1 : ∀ u ∈ ys, u.oneCell' = true)
    (hn : n + m ≤ 1000000) (hbase : base ≤ w.heap.size)
    (h : ∀ v' w', w'.ownsRow base tE sz v' (n + m) (xs ++ ys) → w.grownBy w' v.ownBlock → (v'.ownBlock = v.ownBlock ∨ v'.ownBlock = some w.heap.size) → wpList Try.prog ops Q rest (a.put o.dst v') w') :
    wpList Try.prog ops Q (o :: rest) a w := by
  obtain ⟨i0, hi, hz0, hz1, hz2⟩ := info_parts hinf
  have hb : (n + m) * by_ ≤ 1000000 * 1000 := Nat.mul_le_mul hn hby
  have hc := fun g hg => hrow.cells (g := g) hg
  have hl := hrow.1
  rcases hrow.2 with ⟨rfl, h0⟩ | ⟨g, cap, cur, rfl, -⟩
  · subst h0
    obtain rfl : ys = [] := List.eq_nil_of_length_eq_zero (by simpa using hl)
    refine wpList_append_own_none hgd s x tS ho base tE i0 sz hu hi v n _ hs hown hx ?_
    exact h v w (by simpa using hown) (World.grownBy.refl w _) (.inl rfl)
  · refine wpList_append_own_at w hgd s x tS ho base tE i0 zv sz by_ hu hi hz0 hz1 hz2 hzs hsz v n xs hs hown ⟨g, 0, none⟩ m cap ys hx hl (hc g rfl) h1 (by unfold maxLen; omega) (by omega) hbase ?_
    intro v' w' h1 h2 h3 h4
    exact h v' w' h1 h2 h4
theorem step_apm (tS tE : TypeId) (zv : Value) (sz by_ : Nat) (hu : Try.prog.underlying tS = some (.slice tE)) (hinf : (Try.prog.info? tE).map (fun i => (i.zero, i.size, i.bytes)) = some (some zv, sz, by_)) (hzs : zv.cells.size = sz) (hsz : 0 < sz) (hby : by_ ≤ 1000)
    {ops : Array Oper} {o : Oper} {a : Act} {w : World} {K : Act → World → Prop} {Q : Exit → Act → World → Prop} {E : Prop}
    (hg : o.guard = none) (s x : Operand) (ho : o.op = .call { callee := .builtin .append, args := #[s, x], argTypes := #[tS, tS] })
    (base : Nat) (v : Value) (n : Nat) (xs : List Value) (hs : a.eval s = v) (hown : w.ownsRow base tE sz v n xs)
    (b2 : Nat) (x2 : Value) (m : Nat) (ys : List Value) (hx : a.eval x = x2) (hrow : w.ownsRow b2 tE sz x2 m ys) (h1 : ∀ u ∈ ys, u.oneCell' = true)
    (hn : n + m ≤ 1000000) (hbase : base ≤ w.heap.size)
    (hK : ∀ v' w', w'.ownsRow base tE sz v' (n + m) (xs ++ ys) → w.grownBy w' v.ownBlock → (v'.ownBlock = v.ownBlock ∨ v'.ownBlock = some w.heap.size) → K (a.put o.dst v') w') :
    if Region.wanted o (yielded ops a.tmps) = true then Oper.wp Try.prog o a w K Q else E := by
  have hw : Region.wanted o (yielded ops a.tmps) = true := by simp [Region.wanted, hg]
  rw [if_pos hw]
  obtain ⟨i0, hi, hz0, hz1, hz2⟩ := info_parts hinf
  have hb : (n + m) * by_ ≤ 1000000 * 1000 := Nat.mul_le_mul hn hby
  have hc := fun g hg => hrow.cells (g := g) hg
  have hl := hrow.1
  rcases hrow.2 with ⟨rfl, h0⟩ | ⟨g, cap, cur, rfl, -⟩
  · subst h0
    obtain rfl : ys = [] := List.eq_nil_of_length_eq_zero (by simpa using hl)
    have hrun := run_append_owned_none (P := Try.prog) (w := w) base tS o.type tE i0 sz hu hi v n xs hown
    unfold Oper.wp
    simp [execOp, ho, resolve, invoke, builtin, hs, hx, hrun, Result.andThen]
    exact hK v w (by simpa using hown) (World.grownBy.refl w _) (.inl rfl)
  · obtain ⟨v', w', hrun, r1, r2, -, r4⟩ := run_append_own_at (P := Try.prog) w base tS o.type tE i0 zv sz by_ hu hi hz0 hz1 hz2 hzs hsz v n xs hown ⟨g, 0, none⟩ m cap ys hl (hc g rfl) h1 (by unfold maxLen; omega) (by omega) hbase
    unfold Oper.wp
    simp [execOp, ho, resolve, invoke, builtin, hs, hx, hrun, Result.andThen]
    exact hK v' w' r1 r2 r4
theorem drewN_add (w : World) (a b : Nat) : (w.drewN a).drewN b = w.drewN (a + b) := by unfold World.drewN; simp [Nat.add_assoc]
theorem eq_neq (t : TypeId) (x y : Array Value) {b : Bool} (h : ∀ W, (Op.equalIn 10000 t (.agg x) (.agg y)).run Try.prog W = .ok b W) (W : World) : (binOp .neq t (.agg x) (.agg y)).run Try.prog W = .ok (.bool (!b)) W := by
  have := h W
  simp [binOp, Op.equal, Op.maxDepth, this]
theorem eq_map_in {P : Program} (d : Nat) (t k e : TypeId) (p : Option Nat) (h : P.underlying t = some (.map k e)) (w : World) : (Op.equalIn (d + 1) t (.map p) (.map none)).run P w = .ok p.isNone w := by
  cases p <;> simp [Op.equalIn, run_underlying h]
theorem eq_map_nil {P : Program} (t k e : TypeId) (p : Option Nat) (h : P.underlying t = some (.map k e)) (w : World) : (binOp .eql t (.map p) (.map none)).run P w = .ok (.bool p.isNone) w := by
  have h1 := eq_map_in (P := P) 9999 t k e p h w
  simp only [binOp]
  simp [show Op.equal t (.map p) (.map none) = Op.equalIn (9999 + 1) t (.map p) (.map none) from rfl, h1]
theorem run_mclone {P : Program} (w : World) {r : Nat} {es : Array MapEntry} {clock : Nat} (t : TypeId) (hb : w.heap[r]? = some (.map es clock)) :
    (Extern.MapsClone.clone #[.iface t (.map (some r))]).run P w = .ok (.iface t (.map (some w.heap.size))) (w.alloc (.map es clock)) := by
  have e : Extern.MapsClone.clone #[.iface t (.map (some r))] = (getObj r >>= fun o => match o with
      | .map entries clock => (newObj (.map entries clock) >>= fun n => pure (.iface t (.map (some n))))
      | _ => stuck "maps.clone: a map expected") := rfl
  rw [e]
  simp [MapKept.run_getObj_map hb, Result.andThen, go_sem]
theorem assert_map {P : Program} (w : World) (t xT k e : TypeId) (v : Value) (h : P.underlying t = some (.map k e)) : (Instr.typeAssert (.iface t v) xT t false).run P w = .ok v w := by
  simp [Instr.typeAssert, run_underlying h, go_sem, Result.andThen]
end Go.Proofs.Ytlbkphnbpenbcaa
