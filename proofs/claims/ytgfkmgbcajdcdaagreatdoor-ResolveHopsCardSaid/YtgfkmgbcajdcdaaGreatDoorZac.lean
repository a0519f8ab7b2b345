/-
  Several texts in one: Gen, RbN, RbM.
-/
import Derived.Test.YtgfkmgbcajdcdaaGreatDoorZab
import Derived.Deep.RegionLaw
import Derived.Lib.SliceRun
import Derived.Laws.IdiomCopy
import Derived.Maps.OwnOps
import Derived.Maps.OwnSet
import Derived.Laws.Externs
import Derived.MapKept
import Derived.Shelf.Abstract
import Derived.Test.YtgfkmgbcajdcdaaGreatDoorZaa
set_option linter.unusedVariables false
set_option maxRecDepth 100000
set_option maxHeartbeats 16000000
namespace Go.Proofs.YtgfkmgbcajdcdaaGreatDoor
open Go.RowKit Go.Maps

def fndI {α : Type} (p : α → Bool) : List α → Nat
 | [] => 0
 | x :: r => if p x = true then 1 else if fndI p r = 0 then 0 else fndI p r + 1
theorem fndI_zero {α : Type} {p : α → Bool} {l : List α} : fndI p l = 0 ↔ ∀ (i : Nat) (x : α), l[i]? = some x → p x = false := by
 induction l with
 | nil => simp [fndI]
 | cons y r ih =>
  unfold fndI
  by_cases h : p y = true
  ·rw [if_pos h]
   refine ⟨fun e => by omega, fun e => ?_⟩
   have := e 0 y rfl
   rw [h] at this
   cases this
  ·rw [if_neg h]
   constructor
   ·intro e i x hx
    have hr : fndI p r = 0 := by split at e <;> omega
    cases i with
    | zero => simp at hx; subst hx; simpa using h
    | succ i => exact ih.1 hr i x (by simpa using hx)
   ·intro e
    rw [if_pos (ih.2 fun i x hx => e (i + 1) x (by simpa using hx))]
theorem fndI_succ {α : Type} {p : α → Bool} {l : List α} {i : Nat} : fndI p l = i + 1 ↔ (∃ x, l[i]? = some x ∧ p x = true) ∧ ∀ (j : Nat) (x : α), j < i → l[j]? = some x → p x = false := by
 induction l generalizing i with
 | nil => simp [fndI]
 | cons y r ih =>
  unfold fndI
  by_cases h : p y = true
  ·rw [if_pos h]
   constructor
   ·intro e
    obtain rfl : i = 0 := by omega
    exact ⟨⟨y, rfl, h⟩, fun j x hj => by omega⟩
   ·rintro ⟨-, h2⟩
    rcases Nat.eq_zero_or_pos i with h0 | h0
    ·omega
    ·have := h2 0 y h0 rfl
     rw [h] at this
     cases this
  ·rw [if_neg h]
   have hf : p y = false := by simpa using h
   cases i with
   | zero =>
    constructor
    ·intro e; split at e <;> omega
    ·rintro ⟨⟨x, hx, hp⟩, -⟩
     simp at hx; subst hx
     exact absurd hp h
   | succ i =>
    have e : (if fndI p r = 0 then 0 else fndI p r + 1) = i + 1 + 1 ↔ fndI p r = i + 1 := by split <;> omega
    rw [e, ih]
    constructor
    ·rintro ⟨⟨x, hx, hp⟩, h2⟩
     refine ⟨⟨x, by simpa using hx, hp⟩, fun j z hj hz => ?_⟩
     cases j with
     | zero => simp at hz; subst hz; exact hf
     | succ j => exact h2 j z (by omega) (by simpa using hz)
    ·rintro ⟨⟨x, hx, hp⟩, h2⟩
     exact ⟨⟨x, by simpa using hx, hp⟩, fun j z hj hz => h2 (j + 1) z (by omega) (by simpa using hz)⟩
theorem fndI_le {α : Type} (p : α → Bool) (l : List α) : fndI p l ≤ l.length := by
 induction l with
 | nil => exact Nat.le_refl _
 | cons y r ih =>
  unfold fndI
  simp only [List.length_cons]
  by_cases h : p y = true
  ·rw [if_pos h]; omega
  ·rw [if_neg h]; split <;> omega
theorem str_ne {s t : ByteArray} (h : ¬ s = t) : (s.toList == t.toList) = false := by
 have h1 : ¬ s.toList = t.toList := fun e => h (by rw [ByteArray.toList_eq, ByteArray.toList_eq] at e; apply ByteArray.ext; exact Array.toList_inj.1 e)
 simpa using h1
theorem own_cellN {w : World} {base g n c sz : Nat} {t : TypeId} {xs : List Value} (h : w.ownsRow base t sz (.slice (some ⟨g, 0, none⟩) n c) n xs) {j : Nat} {u : Value} (hu : xs[j]? = some u) : w.cell? ⟨g, j, none⟩ = some u := by
 obtain ⟨A, c', e, -, h1⟩ := own_sl h
 injection e with e1 e2 e3
 subst e1
 have hl := h.1
 have hj := (List.getElem?_eq_some_iff.1 hu).1
 have hn : 0 < n := by
  rcases Nat.eq_zero_or_pos n with h0 | h0
  ·rw [h0, Nat.zero_mul] at hl; omega
  ·exact h0
 obtain ⟨g', e, -, -, h2⟩ := h1 hn
 injection e with e
 injection e with e
 subst e
 exact h2 j u hu
theorem own_setN {w : World} {base g n c i sz : Nat} {t : TypeId} {xs : List Value} (h : w.ownsRow base t sz (.slice (some ⟨g, 0, none⟩) n c) n xs) (hi : i < n * sz) (u : Value) :
  (w.setCell ⟨g, i, none⟩ u).ownsRow base t sz (.slice (some ⟨g, 0, none⟩) n c) n (xs.set i u) := by
 rcases h.2 with ⟨e, -⟩ | ⟨g', cap, cur, e, h1, h2, h3, h4, h5, h6⟩
 ·cases e
 ·injection e with e1 e2 e3
  injection e1 with e1
  injection e1 with e1
  subst e1 e3
  have hb : Blk w g t cur := h2
  refine ⟨by have := h.1; simpa using this, .inr ⟨g, c, cur.setIfInBounds i u, rfl, h1, hb.set_ i u, h3, h4, by simpa using h5, ?_⟩⟩
  rw [← h6]
  simp [Array.toList_setIfInBounds, List.take_set]
def obI (v : Value) : List Nat := match v.ownBlock with | some k => [k] | none => []
theorem obI_some {v : Value} {k : Nat} (h : v.ownBlock = some k) : obI v = [k] := by unfold obI; rw [h]
theorem own_tch {w w' : World} {base e size n : Nat} {v : Value} {xs : List Value} {T : List Nat} (h : w.ownsRow base e size v n xs) (ht : Tch w w' T) (hn : ∀ s ∈ obI v, s ∉ T) : w'.ownsRow base e size v n xs :=
 ht.own h (fun k hk => hn k (by rw [obI_some hk]; simp))
theorem own_lts {w : World} {base e size n : Nat} {v : Value} {xs : List Value} (h : w.ownsRow base e size v n xs) : ∀ s ∈ obI v, s < w.heap.size := by
 intro s hs
 unfold obI at hs
 cases hb : v.ownBlock with
 | none => rw [hb] at hs; cases hs
 | some k => rw [hb] at hs; rw [List.mem_singleton.1 hs]; exact own_lt h hb
theorem slice_some {w : World} {base size n c : Nat} {A : Option Addr} {e : TypeId} {xs : List Value} (h : w.ownsRow base e size (.slice A n c) n xs) (hn : 0 < n) : ∃ g, A = some ⟨g, 0, none⟩ := by
 obtain ⟨A', c', e, -, h1⟩ := own_sl h
 injection e with e1 e2 e3
 subst e1
 obtain ⟨g, e, -⟩ := h1 hn
 exact ⟨g, e⟩
theorem flatk_len {α : Type} {f : α → List Value} {n : Nat} (hf : ∀ x, (f x).length = n) (l : List α) : (l.flatMap f).length = l.length * n := by
 induction l with
 | nil => simp
 | cons y r ih => rw [List.flatMap_cons, List.length_append, hf, ih, List.length_cons, Nat.succ_mul]; omega
theorem flatk_at {α : Type} {f : α → List Value} {n : Nat} (hf : ∀ x, (f x).length = n) {l : List α} {i : Nat} {x : α} (hx : l[i]? = some x) {k : Nat} (hk : k < n) : (l.flatMap f)[i * n + k]? = (f x)[k]? := by
 induction l generalizing i with
 | nil => simp at hx
 | cons y r ih =>
  rw [List.flatMap_cons]
  cases i with
  | zero =>
   simp at hx; subst hx
   rw [List.getElem?_append_left (by rw [hf]; omega)]
   congr 1; omega
  | succ i =>
   rw [List.getElem?_append_right (by rw [hf, Nat.succ_mul]; omega), hf, show (i + 1) * n + k - n = i * n + k by rw [Nat.succ_mul]; omega]
   exact ih (by simpa using hx)
theorem modI_set {α : Type} {l : List α} {i : Nat} {x : α} (h : l[i]? = some x) (f : α → α) : l.modify i f = l.set i (f x) := by
 apply List.ext_getElem?
 intro j
 rw [List.getElem?_modify, List.getElem?_set]
 by_cases hj : i = j
 ·subst hj
  rw [h]
  have := (List.getElem?_eq_some_iff.1 h).1
  simp [this]
 ·rw [if_neg hj]
  cases l[j]? <;> simp [hj]
theorem fndI_app {α : Type} (p : α → Bool) (l : List α) (x : α) : fndI p (l ++ [x]) = if fndI p l = 0 then (if p x = true then l.length + 1 else 0) else fndI p l := by
 induction l with
 | nil =>
  show fndI p [x] = _
  unfold fndI
  by_cases h : p x = true
  ·simp [h]
  ·simp [h, fndI]
 | cons y r ih =>
  rw [List.cons_append]
  unfold fndI
  by_cases h : p y = true
  ·simp [h]
  ·rw [if_neg h, if_neg h, ih]
   by_cases h0 : fndI p r = 0
   ·simp [h0]
    split <;> simp_all
   ·simp [h0]
theorem map_tch {w w' : World} {T : List Nat} {P : Program} {k : TypeId} {R : Value → Option (DataW Unit × List MemPlace)} {b n : Nat} {D : DataW Unit} (h : w.ownsMap P k R b n D) (ht : Tch w w' T) (hn : b ∉ T) : w'.ownsMap P k R b n D := by
 have hlt := h.lt
 obtain ⟨es, clock, hb, F, hs, hD⟩ := h
 exact ⟨es, clock, (ht.block b hlt hn).trans hb, F, hs, hD⟩
theorem obI_nodup (v : Value) : (obI v).Nodup := by
 unfold obI
 cases v.ownBlock <;> simp
theorem set_same {α : Type} {l : List α} {i : Nat} {x : α} (h : l[i]? = some x) : l.set i x = l := by
 apply List.ext_getElem?
 intro j
 rw [List.getElem?_set]
 split
 ·rename_i hj; subst hj
  have h1 := (List.getElem?_eq_some_iff.1 h).1
  rw [if_pos h1, h]
 ·rfl
theorem flat_set2 {lv : List Value} {v0 v : Value} {B i : Nat} (h : (lv.flatMap obI).Nodup) (hi : lv[i]? = some v0) (hlt : ∀ s ∈ lv.flatMap obI, s < B) (hv : ∀ s ∈ obI v, s ∈ obI v0 ∨ B ≤ s) : ((lv.set i v).flatMap obI).Nodup ∧ ∀ s ∈ (lv.set i v).flatMap obI, s ∈ lv.flatMap obI ∨ B ≤ s := by
 induction lv generalizing i with
 | nil => simp at hi
 | cons y r ih =>
  rw [List.flatMap_cons, List.nodup_append] at h
  rw [List.flatMap_cons] at hlt
  obtain ⟨h1, h2, h3⟩ := h
  cases i with
  | zero =>
   simp at hi
   subst hi
   rw [List.set_cons_zero, List.flatMap_cons, List.flatMap_cons, List.nodup_append]
   refine ⟨⟨obI_nodup v, h2, fun a ha b hb e => ?_⟩, fun s hs => ?_⟩
   ·rcases hv a ha with h4 | h4
    ·exact h3 a h4 b hb e
    ·have := hlt b (List.mem_append_right _ hb)
     omega
   ·rcases List.mem_append.1 hs with h4 | h4
    ·rcases hv s h4 with h5 | h5
     ·exact .inl (List.mem_append_left _ h5)
     ·exact .inr h5
    ·exact .inl (List.mem_append_right _ h4)
  | succ i =>
   obtain ⟨k1, k2⟩ := ih (i := i) h2 (by simpa using hi) (fun s hs => hlt s (List.mem_append_right _ hs))
   rw [List.set_cons_succ, List.flatMap_cons, List.flatMap_cons, List.nodup_append]
   refine ⟨⟨h1, k1, fun a ha b hb e => ?_⟩, fun s hs => ?_⟩
   ·rcases k2 b hb with h4 | h4
    ·exact h3 a ha b h4 e
    ·have := hlt a (List.mem_append_left _ ha)
     omega
   ·rcases List.mem_append.1 hs with h4 | h4
    ·exact .inl (List.mem_append_left _ h4)
    ·rcases k2 s h4 with h5 | h5
     ·exact .inl (List.mem_append_right _ h5)
     ·exact .inr h5
theorem flat_disj {lv : List Value} (h : (lv.flatMap obI).Nodup) {i j : Nat} {v u : Value} (hi : lv[i]? = some v) (hj : lv[j]? = some u) (hne : i ≠ j) : ∀ s ∈ obI u, s ∉ obI v := by
 induction lv generalizing i j with
 | nil => simp at hi
 | cons y r ih =>
  rw [List.flatMap_cons, List.nodup_append] at h
  obtain ⟨h1, h2, h3⟩ := h
  cases i with
  | zero =>
   cases j with
   | zero => exact absurd rfl hne
   | succ j =>
    simp at hi hj
    subst hi
    intro s hs hs2
    exact h3 s hs2 s (List.mem_flatMap.2 ⟨u, List.mem_of_getElem? hj, hs⟩) rfl
  | succ i =>
   cases j with
   | zero =>
    simp at hi hj
    subst hj
    intro s hs hs2
    exact h3 s hs s (List.mem_flatMap.2 ⟨v, List.mem_of_getElem? hi, hs2⟩) rfl
   | succ j => exact ih h2 (by simpa using hi) (by simpa using hj) (by omega)
theorem step_apr {ops : Array Oper} {o : Oper} {a : Act} {w : World} {K : Act → World → Prop} {Q : Exit → Act → World → Prop} {E : Prop}
  (hg : o.guard = none) (s x : Operand) (t : TypeId) (hop : o.op = Op.call { callee := Callee.builtin Builtin.append, args := #[s, x], argTypes := #[t, t] })
  (e : TypeId) (size : Nat) (h1 : Tryz.prog.underlying t = some (.slice e)) (hinf : (Tryz.prog.info? e).map (·.size) = some size)
  (g n cap : Nat) (cur : Array Value) (hB : Blk w g e cur) (hs : a.eval s = .slice (some ⟨g, 0, none⟩) n cap)
  (ad : Addr) (m c : Nat) (news : List Value) (hx : a.eval x = .slice (some ad) m c) (hn : news.length = m * size) (hc : ∀ j u, news[j]? = some u → w.cell? (ad.add j) = some u) (h1c : ∀ u ∈ news, u.oneCell' = true)
  (hroom : n + m ≤ cap) (hfit : n * size + news.length ≤ cur.size)
  (hK : K (a.put o.dst (.slice (some ⟨g, 0, none⟩) (n + m) cap)) (w.setRow g (cur.toList.take (n * size) ++ news ++ cur.toList.drop (n * size + news.length)).toArray)) :
  if Region.wanted o (yielded ops a.tmps) = true then Oper.wp Tryz.prog o a w K Q else E := by
 have hw : Region.wanted o (yielded ops a.tmps) = true := by simp [Region.wanted, hg]
 rw [if_pos hw]
 obtain ⟨i, hi, h4⟩ : ∃ i, Tryz.prog.info? e = some i ∧ i.size = size := by
  cases h : Tryz.prog.info? e with
  | none => rw [h] at hinf; cases hinf
  | some i => rw [h] at hinf; injection hinf with hinf; exact ⟨i, rfl, hinf⟩
 subst h4
 have hrun := run_append_room (P := Tryz.prog) w t o.type e i h1 hi g n cap cur hB ad m c news hn hc h1c hroom hfit
 obtain ⟨W, hW⟩ : ∃ W, w.setRow g (cur.toList.take (n * i.size) ++ news ++ cur.toList.drop (n * i.size + news.length)).toArray = W := ⟨_, rfl⟩
 rw [hW] at hrun hK
 unfold Oper.wp
 simp [execOp, hop, resolve, invoke, builtin, hs, hx, hrun, Result.andThen]
 exact hK
theorem setRow_blk {w : World} {g : Nat} {t : TypeId} {old cs : Array Value} (hB : Blk w g t old) : Blk (w.setRow g cs) g t cs := setRow_heap w g old _ t _ hB
theorem setRow_tch (w : World) (g : Nat) (cs : Array Value) : Tch w (w.setRow g cs) [g] := ⟨rfl, rfl, rfl, by simp [World.setRow], fun k hk hn => setRow_other w g k _ (fun e => hn (by simp [e]))⟩
theorem erase_flat {α : Type} {f : α → List Value} {sz : Nat} (hf : ∀ x, (f x).length = sz) : ∀ {l : List α} {i : Nat}, i < l.length → (l.eraseIdx i).flatMap f = (l.flatMap f).take (i * sz) ++ (l.flatMap f).drop ((i + 1) * sz)
 | [], i, h => by simp at h
 | y :: r, 0, h => by
  rw [List.eraseIdx_cons_zero, List.flatMap_cons, Nat.zero_mul, List.take_zero, List.nil_append, Nat.zero_add, Nat.one_mul, List.drop_left' (hf y)]
 | y :: r, i + 1, h => by
  have e0 : (f y).take ((i + 1) * sz) = f y := List.take_of_length_le (by rw [hf, Nat.succ_mul]; omega)
  have e3 : (f y).drop ((i + 1 + 1) * sz) = [] := List.drop_of_length_le (by rw [hf, Nat.succ_mul (i + 1)]; omega)
  have e1 : (f y ++ r.flatMap f).take ((i + 1) * sz) = f y ++ (r.flatMap f).take (i * sz) := by
   rw [List.take_append, e0, hf, show (i + 1) * sz - sz = i * sz by rw [Nat.succ_mul]; omega]
  have e2 : (f y ++ r.flatMap f).drop ((i + 1 + 1) * sz) = (r.flatMap f).drop ((i + 1) * sz) := by
   rw [List.drop_append, e3, hf, List.nil_append, show (i + 1 + 1) * sz - sz = (i + 1) * sz by rw [Nat.succ_mul (i + 1)]; omega]
  rw [List.eraseIdx_cons_succ, List.flatMap_cons, List.flatMap_cons, erase_flat hf (by simpa using h), e1, e2, List.append_assoc]
theorem own_uniq {w : World} {base e size n : Nat} {v : Value} {xs ys : List Value} (h : w.ownsRow base e size v n xs) (k : w.ownsRow base e size v n ys) : xs = ys := by
 rcases h.2 with ⟨rfl, h0⟩ | ⟨g, cap, cur, rfl, h1, h2, h3, h4, h5, h6⟩
 ·have e1 := h.1
  have e2 := k.1
  rw [h0, Nat.zero_mul] at e1 e2
  rw [List.eq_nil_of_length_eq_zero e1, List.eq_nil_of_length_eq_zero e2]
 ·rcases k.2 with ⟨e, -⟩ | ⟨g', cap', cur', e, k1, k2, k3, k4, k5, k6⟩
  ·cases e
  ·injection e with e1 e2 e3
   injection e1 with e1
   injection e1 with e1
   subst e1
   rw [h2] at k2
   injection k2 with k2
   injection k2 with k2
   subst k2
   rw [← h6, ← k6]
theorem sta_whole {w w' : World} {g : Nat} {t : TypeId} {old cs : Array Value} (h : Sta w w' g 0 t old cs) (hs : cs.size = old.size) : Blk w' g t cs := by
 obtain ⟨⟨cur, k1, k2, k3, k4⟩, -⟩ := h
 have : cur = cs := by
  apply Array.ext
  ·omega
  ·intro i h1 h2
   have := k4 i h2
   rw [Nat.zero_add, Array.getElem?_eq_getElem h1, Array.getElem?_eq_getElem h2] at this
   injection this
 rw [← this]; exact k1
theorem own_none {w : World} {base e size n c : Nat} {xs : List Value} (h : w.ownsRow base e size (.slice none n c) n xs) : n = 0 ∧ c = 0 := by
 rcases h.2 with ⟨e, h0⟩ | ⟨g, cap, cur, e, -⟩
 ·injection e with e1 e2 e3
  exact ⟨e2, e3⟩
 ·cases e
theorem fndI_any {α : Type} {p : α → Bool} {l : List α} : (decide ((0 : Int) ≤ ((fndI p l : Nat) : Int) - 1)) = l.any p := by
 have h := fndI_zero (p := p) (l := l)
 cases hb : l.any p with
 | false =>
  rw [List.any_eq_false] at hb
  have : fndI p l = 0 := h.2 fun i x hx => by simpa using hb x (List.mem_of_getElem? hx)
  rw [this]; rfl
 | true =>
  rw [decide_eq_true_eq]
  have : fndI p l ≠ 0 := fun e => by
   obtain ⟨x, hx, hp⟩ := List.any_eq_true.1 hb
   obtain ⟨i, hi⟩ := List.mem_iff_getElem?.1 hx
   rw [h.1 e i x hi] at hp
   cases hp
  omega
theorem eqA_eql (t : TypeId) (x y : Array Value) {b : Bool} (h : ∀ W, (Op.equalIn 10000 t (.agg x) (.agg y)).run Tryz.prog W = .ok b W) (W : World) : (binOp .eql t (.agg x) (.agg y)).run Tryz.prog W = .ok (.bool b) W := by
 have := h W
 simp [binOp, Op.equal, Op.maxDepth, this]
theorem own_geI {w : World} {base e size n : Nat} {v : Value} {xs : List Value} (h : w.ownsRow base e size v n xs) : ∀ s ∈ obI v, base ≤ s ∧ s < w.heap.size := by
 intro s hs
 unfold obI at hs
 cases hb : v.ownBlock with
 | none => rw [hb] at hs; cases hs
 | some k => rw [hb] at hs; rw [List.mem_singleton.1 hs]; exact h.lt k hb
theorem step_apc (tS tE : TypeId) (zv : Value) (sz by_ : Nat) (hu : Tryz.prog.underlying tS = some (.slice tE)) (hinf : (Tryz.prog.info? tE).map (fun i => (i.zero, i.size, i.bytes)) = some (some zv, sz, by_)) (hzs : zv.cells.size = sz) (hsz : 0 < sz) (hby : by_ ≤ 1000)
  {ops : Array Oper} {o : Oper} {a : Act} {w : World} {K : Act → World → Prop} {Q : Exit → Act → World → Prop} {E : Prop}
  (hg : o.guard = none) (s x : Operand) (ho : o.op = .call { callee := .builtin .append, args := #[s, x], argTypes := #[tS, tS] })
  (base : Nat) (v : Value) (n : Nat) (xs : List Value) (hs : a.eval s = v) (hown : w.ownsRow base tE sz v n xs)
  (ad : Addr) (c : Nat) (e : List Value) (hx : a.eval x = .slice (some ad) 1 c) (hl : e.length = sz) (hc : ∀ j u, e[j]? = some u → w.cell? (ad.add j) = some u) (h1 : ∀ u ∈ e, u.oneCell' = true)
  (hn : n ≤ 1000000) (hbase : base ≤ w.heap.size)
  (hK : ∀ v' w', w'.ownsRow base tE sz v' (n + 1) (xs ++ e) → w.grownBy w' v.ownBlock → (v'.ownBlock = v.ownBlock ∨ v'.ownBlock = some w.heap.size) → K (a.put o.dst v') w') :
  if Region.wanted o (yielded ops a.tmps) = true then Oper.wp Tryz.prog o a w K Q else E := by
 have hw : Region.wanted o (yielded ops a.tmps) = true := by simp [Region.wanted, hg]
 rw [if_pos hw]
 obtain ⟨i0, hi, hz0, hz1, hz2⟩ := info_parts hinf
 have hb : (n + 1) * by_ ≤ 1000001 * 1000 := Nat.mul_le_mul (by omega) hby
 obtain ⟨v', w', hrun, r1, r2, -, r4⟩ := run_append_own_at (P := Tryz.prog) w base tS o.type tE i0 zv sz by_ hu hi hz0 hz1 hz2 hzs hsz v n xs hown ad 1 c e (by rw [hl, Nat.one_mul]) hc h1 (by unfold maxLen; omega) (by omega) hbase
 unfold Oper.wp
 simp [execOp, ho, resolve, invoke, builtin, hs, hx, hrun, Result.andThen]
 exact hK v' w' r1 r2 r4
theorem tch_appN {w w5 : World} {B sz : Nat} {o : Obj} {t : TypeId} {v : Value} {n : Nat} {xs : List Value} (hg : (w.alloc o).grownBy w5 v.ownBlock) (ho : (w.alloc o).ownsRow B t sz v n xs) :
  ∃ S, Tch w w5 S ∧ ∀ s ∈ S, B ≤ s := by
 refine ⟨obI v, ((Tch.refl w _).alloc o).trans (Tch.of_grown' hg (fun g e => by rw [obI_some e]; simp)), fun s hs => ?_⟩
 unfold obI at hs
 cases e : v.ownBlock with
 | none => rw [e] at hs; cases hs
 | some k => rw [e] at hs; rw [List.mem_singleton.1 hs]; exact own_basek ho k e
theorem Tch.trans_ownN {w w' w'' : World} {S : List Nat} (h : Tch w w' S) (ht : ∃ T, Tch w' w'' T ∧ ∀ s ∈ T, w.heap.size ≤ s) : Tch w w'' S := by
 obtain ⟨T, ht, hs⟩ := ht
 exact h.trans_fre ht (fun s hs' => .inr (hs s hs'))
theorem wpList_apm (tS tE : TypeId) (zv : Value) (sz by_ : Nat) (hu : Tryz.prog.underlying tS = some (.slice tE)) (hinf : (Tryz.prog.info? tE).map (fun i => (i.zero, i.size, i.bytes)) = some (some zv, sz, by_)) (hzs : zv.cells.size = sz) (hsz : 0 < sz) (hby : by_ ≤ 1000)
  (w : World) {ops : Array Oper} {rest : List Oper} {o : Oper} {a : Act} {Q : Exit → Act → World → Prop} (hgd : o.guard = none) (s x : Operand)
  (ho : o.op = .call { callee := .builtin .append, args := #[s, x], argTypes := #[tS, tS] })
  (base : Nat) (v : Value) (n : Nat) (xs : List Value) (hs : a.eval s = v) (hown : w.ownsRow base tE sz v n xs)
  (b2 : Nat) (x2 : Value) (m : Nat) (ys : List Value) (hx : a.eval x = x2) (hrow : w.ownsRow b2 tE sz x2 m ys) (h1 : ∀ u ∈ ys, u.oneCell' = true)
  (hn : n + m ≤ 1000000) (hbase : base ≤ w.heap.size)
  (h : ∀ v' w', w'.ownsRow base tE sz v' (n + m) (xs ++ ys) → w.grownBy w' v.ownBlock → (v'.ownBlock = v.ownBlock ∨ v'.ownBlock = some w.heap.size) → wpList Tryz.prog ops Q rest (a.put o.dst v') w') :
  wpList Tryz.prog ops Q (o :: rest) a w := by
 obtain ⟨i0, hi, hz0, hz1, hz2⟩ := info_parts hinf
 have hb : (n + m) * by_ ≤ 1000000 * 1000 := Nat.mul_le_mul hn hby
 have hc := fun g hg => hrow.cells (g := g) hg
 have hl := hrow.1
 rcases hrow.2 with ⟨rfl, h0⟩ | ⟨g, cap, cur, rfl, -⟩
 ·subst h0
  obtain rfl : ys = [] := List.eq_nil_of_length_eq_zero (by simpa using hl)
  refine wpList_append_own_none hgd s x tS ho base tE i0 sz hu hi v n _ hs hown hx ?_
  exact h v w (by simpa using hown) (World.grownBy.refl w _) (.inl rfl)
 ·refine wpList_append_own_at w hgd s x tS ho base tE i0 zv sz by_ hu hi hz0 hz1 hz2 hzs hsz v n xs hs hown ⟨g, 0, none⟩ m cap ys hx hl (hc g rfl) h1 (by unfold maxLen; omega) (by omega) hbase ?_
  intro v' w' h1 h2 h3 h4
  exact h v' w' h1 h2 h4
theorem drewN_add (w : World) (a b : Nat) : (w.drewN a).drewN b = w.drewN (a + b) := by unfold World.drewN; simp [Nat.add_assoc]
theorem eq_neq (t : TypeId) (x y : Array Value) {b : Bool} (h : ∀ W, (Op.equalIn 10000 t (.agg x) (.agg y)).run Tryz.prog W = .ok b W) (W : World) : (binOp .neq t (.agg x) (.agg y)).run Tryz.prog W = .ok (.bool (!b)) W := by
 have := h W
 simp [binOp, Op.equal, Op.maxDepth, this]
end Go.Proofs.YtgfkmgbcajdcdaaGreatDoor

namespace Go.Proofs.YtgfkmgbcajdcdaaGreatDoor

abbrev AdR := Bool × Nat × Nat
abbrev PfI := AdR × Int
abbrev PaI := Int × Int × AdR × Int × Bool
abbrev TdI := PfI × PaI
def clsR (a : AdR) : Int := clsV a.1 (a.2.1 : Int) (a.2.2 : Int)
def distI (p : Int) : Int := if p = 0 then 0 else if p = 1 then 1 else if p = 2 then 20 else if p = 3 then 110 else if p = 4 then 120 else 255
def ahdI (a b : AdR) : Int := if a = b then 0 else if (¬ a.1 = b.1 ∧ b.1 = true) ∨ (a.1 = b.1 ∧ (a.2.1 < b.2.1 ∨ (a.2.1 = b.2.1 ∧ a.2.2 < b.2.2))) then -1 else 1
def betI (x y : PaI) : Bool :=
 if ¬ distI x.1 = distI y.1 then decide (distI x.1 < distI y.1) else if ¬ x.2.1 = y.2.1 then decide (x.2.1 < y.2.1) else if ¬ x.2.2.2.1 = y.2.2.2.1 then decide (x.2.2.2.1 < y.2.2.2.1) else
 decide (ahdI x.2.2.1 y.2.2.1 < 0) || (decide (ahdI x.2.2.1 y.2.2.1 = 0) && (!x.2.2.2.2 && y.2.2.2.2))
def pvI (p : PfI) : Bool := pvl p.1.1 p.1.2.1 p.1.2.2 p.2
def nbI (p : PfI) (a : AdR) (port : Int) : Bool := decide (a.1 = p.1.1) && (decide (clsR a = 5) || (decide (clsR a = 2) && !decide (port = 0)))
def zeroA : AdR := (false, 0, 0)
def rightI (p : PfI) (x : PaI) : Bool :=
 if pvI p = false ∨ x.1 < 0 ∨ 4 < x.1 ∨ x.2.1 < 0 ∨ 65535 < x.2.1 then false else
 if x.2.2.2.2 = true then decide (x.2.2.2.1 = 0) && decide (x.2.2.1 = zeroA) else
 if x.2.2.2.1 = 0 then nbI p x.2.2.1 0 else
 decide (1 ≤ x.2.2.2.1) && (decide (x.2.2.2.1 ≤ 8) && (decide (x.2.2.1 = zeroA) || nbI p x.2.2.1 x.2.2.2.1))
def sameW (x y : PaI) : Bool := decide (x.1 = y.1) && (decide (x.2.2.1 = y.2.2.1) && (decide (x.2.2.2.1 = y.2.2.2.1) && decide (x.2.2.2.2 = y.2.2.2.2)))
def isW (p : PfI) (x : PaI) (t : TdI) : Bool := decide (t.1 = p) && sameW x t.2
def wayI (L : List TdI) (p : PfI) (x : PaI) : Nat := fndI (isW p x) L
def lessI (p q : PfI) : Bool := pls p.1.1 p.1.2.1 p.1.2.2 p.2 q.1.1 q.1.2.1 q.1.2.2 q.2
def aheadT (t u : TdI) : Bool := lessI t.1 u.1 || (decide (t.1 = u.1) && betI t.2 u.2)
def posI (L : List TdI) (t : TdI) : Nat := (L.takeWhile fun u => aheadT u t).length
def insI (L : List TdI) (t : TdI) : List TdI := L.take (posI L t) ++ t :: L.drop (posI L t)
def pathsI (L : List TdI) (p : PfI) : List PaI := (L.filter fun t => decide (t.1 = p)).map (·.2)
def newP? (L : List TdI) (k : Nat) : Bool := match L[k]? with
 | none => false
 | some t => match k with
  | 0 => true
  | j + 1 => !decide ((L[j]?).map (·.1) = some t.1)
def prefK (L : List TdI) : Nat → List PfI
 | 0 => []
 | k + 1 => match L[k]? with
  | none => prefK L k
  | some t => if newP? L k = true then prefK L k ++ [t.1] else prefK L k
def prefsI (L : List TdI) : List PfI := prefK L L.length
def hldP (p : PfI) (a : AdR) : Bool := hld p.1.1 p.1.2.1 p.1.2.2 p.2 a.1 a.2.1 a.2.2
def overL (l : List PfI) (a : AdR) : List PfI := (l.filter fun p => hldP p a).reverse
def overI (L : List TdI) (a : AdR) : List PfI := overL (prefsI L) a
def putR (L : List TdI) (p : PfI) (x : PaI) : List TdI × Int :=
 if rightI p x = false then (L, 140) else if ¬ wayI L p x = 0 then (insI (L.eraseIdx (wayI L p x - 1)) (p, x), 0) else
 if 4 ≤ (pathsI L p).length ∨ ((pathsI L p).length = 0 ∧ 90 ≤ (prefsI L).length) then (L, 141) else (insI L (p, x), 0)
def dropR (L : List TdI) (p : PfI) (x : PaI) : List TdI × Int := if wayI L p x = 0 then (L, 142) else (L.eraseIdx (wayI L p x - 1), 0)
def flushR (L : List TdI) (pr : Int) : List TdI × Int := (L.filter fun t => !decide (t.2.1 = pr), (L.length : Int) - ((L.filter fun t => !decide (t.2.1 = pr)).length : Int))
/-! the order -/
def lexP : List Int → List Int → Prop
 | a :: aa, b :: bb => a < b ∨ (a = b ∧ lexP aa bb)
 | _, _ => False
theorem lexP.irrefl : ∀ l, ¬ lexP l l
 | [], h => h
 | a :: aa, h => by
  rcases h with h | ⟨-, h⟩
  ·omega
  ·exact lexP.irrefl aa h
theorem lexP.trans : ∀ {l m n : List Int}, lexP l m → lexP m n → lexP l n
 | [], _, _, h, _ => h.elim
 | a :: aa, [], _, h, _ => h.elim
 | a :: aa, b :: bb, [], _, h => h.elim
 | a :: aa, b :: bb, c :: cc, h, k => by
  rcases h with h | ⟨h1, h2⟩
  ·rcases k with k | ⟨k1, k2⟩
   ·exact .inl (by omega)
   ·exact .inl (by omega)
  ·rcases k with k | ⟨k1, k2⟩
   ·exact .inl (by omega)
   ·exact .inr ⟨by omega, lexP.trans h2 k2⟩
theorem lexP.tri : ∀ {l m : List Int}, l.length = m.length → lexP l m ∨ l = m ∨ lexP m l
 | [], [], _ => .inr (.inl rfl)
 | [], b :: bb, h => by simp at h
 | a :: aa, [], h => by simp at h
 | a :: aa, b :: bb, h => by
  rcases Int.lt_trichotomy a b with h1 | h1 | h1
  ·exact .inl (.inl h1)
  ·rcases lexP.tri (l := aa) (m := bb) (by simpa using h) with h2 | h2 | h2
   ·exact .inl (.inr ⟨h1, h2⟩)
   ·exact .inr (.inl (by rw [h1, h2]))
   ·exact .inr (.inr (.inr ⟨h1.symm, h2⟩))
  ·exact .inr (.inr (.inl h1))
def bI (b : Bool) : Int := if b then 1 else 0
def keyX (x : PaI) : List Int := [distI x.1, x.2.1, x.2.2.2.1, bI x.2.2.1.1, (x.2.2.1.2.1 : Int), (x.2.2.1.2.2 : Int), bI x.2.2.2.2]
theorem ahdI_lt {a b : AdR} : ahdI a b < 0 ↔ lexP [bI a.1, (a.2.1 : Int), (a.2.2 : Int)] [bI b.1, (b.2.1 : Int), (b.2.2 : Int)] := by
 obtain ⟨s, h, l⟩ := a
 obtain ⟨s', h', l'⟩ := b
 unfold ahdI
 simp only [Prod.mk.injEq, lexP]
 by_cases e : s = s' ∧ h = h' ∧ l = l'
 ·obtain ⟨rfl, rfl, rfl⟩ := e
  simp
 ·rw [if_neg e]
  cases s <;> cases s' <;> simp [bI] <;> simp at e <;> split <;> omega
theorem ahdI_zero {a b : AdR} : ahdI a b = 0 ↔ a = b := by
 unfold ahdI
 by_cases e : a = b
 ·simp [e]
 ·rw [if_neg e]
  refine ⟨fun h => ?_, fun h => absurd h e⟩
  split at h <;> omega
theorem betI_key (x y : PaI) : betI x y = true ↔ lexP (keyX x) (keyX y) := by
 have h1 := ahdI_lt (a := x.2.2.1) (b := y.2.2.1)
 have h2 := ahdI_zero (a := x.2.2.1) (b := y.2.2.1)
 obtain ⟨pr, me, ⟨s, h, l⟩, po, aw⟩ := x
 obtain ⟨pr', me', ⟨s', h', l'⟩, po', aw'⟩ := y
 unfold betI keyX
 simp only [lexP] at h1 h2 ⊢
 by_cases d : distI pr = distI pr'
 ·by_cases m : me = me'
  ·by_cases q : po = po'
   ·rw [if_neg (by simpa using d), if_neg (by simpa using m), if_neg (by simpa using q)]
    simp only [Bool.or_eq_true, Bool.and_eq_true, decide_eq_true_eq, h1, h2, Prod.mk.injEq]
    cases s <;> cases s' <;> cases aw <;> cases aw' <;> simp [bI, d, m, q] <;> omega
   ·rw [if_neg (by simpa using d), if_neg (by simpa using m), if_pos q]
    simp [d, m, q]
  ·rw [if_neg (by simpa using d), if_pos m]
   simp [d, m]
 ·rw [if_pos d]
  simp [d]
theorem betI_irr (x : PaI) : betI x x = false := by
 rw [Bool.eq_false_iff]
 intro h
 exact lexP.irrefl _ ((betI_key x x).1 h)
theorem betI_trans {x y z : PaI} (h : betI x y = true) (k : betI y z = true) : betI x z = true := (betI_key x z).2 (((betI_key x y).1 h).trans ((betI_key y z).1 k))
end Go.Proofs.YtgfkmgbcajdcdaaGreatDoor

namespace Go.Proofs.YtgfkmgbcajdcdaaGreatDoor

def keyP (p : PfI) : List Int := [bI p.1.1, (p.1.2.1 : Int), (p.1.2.2 : Int), p.2]
def keyT (t : TdI) : List Int := keyP t.1 ++ keyX t.2
theorem lexP_app {a b c d : List Int} (h : a.length = b.length) : lexP (a ++ c) (b ++ d) ↔ lexP a b ∨ (a = b ∧ lexP c d) := by
 induction a generalizing b with
 | nil =>
  cases b with
  | nil => simp [lexP]
  | cons y s => simp at h
 | cons x r ih =>
  cases b with
  | nil => simp at h
  | cons y s =>
   simp only [List.cons_append, lexP, ih (by simpa using h), List.cons.injEq]
   constructor
   ·rintro (h1 | ⟨h1, h2 | ⟨h2, h3⟩⟩)
    ·exact .inl (.inl h1)
    ·exact .inl (.inr ⟨h1, h2⟩)
    ·exact .inr ⟨⟨h1, h2⟩, h3⟩
   ·rintro ((h1 | ⟨h1, h2⟩) | ⟨⟨h1, h2⟩, h3⟩)
    ·exact .inl h1
    ·exact .inr ⟨h1, .inl h2⟩
    ·exact .inr ⟨h1, .inr ⟨h2, h3⟩⟩
theorem bI_inj {a b : Bool} (h : bI a = bI b) : a = b := by cases a <;> cases b <;> simp [bI] at h ⊢
theorem keyP_inj {p q : PfI} (h : keyP p = keyP q) : p = q := by
 obtain ⟨⟨s, h1, l⟩, b⟩ := p
 obtain ⟨⟨s', h1', l'⟩, b'⟩ := q
 simp [keyP] at h
 obtain ⟨e1, e2, e3, e4⟩ := h
 rw [bI_inj e1, show h1 = h1' by omega, show l = l' by omega, e4]
theorem lessI_key {p q : PfI} (hp : pvI p = true) (hq : pvI q = true) (vp : vld p.1.1 (p.1.2.1 : Int) (p.1.2.2 : Int) = true) (vq : vld q.1.1 (q.1.2.1 : Int) (q.1.2.2 : Int) = true) : lessI p q = true ↔ lexP (keyP p) (keyP q) := by
 obtain ⟨⟨s, h, l⟩, b⟩ := p
 obtain ⟨⟨s', h', l'⟩, b'⟩ := q
 simp only at vp vq
 unfold pvI at hp hq
 simp only at hp hq
 unfold lessI pls lss keyP
 simp only [hp, hq, vp, vq, lexP, Bool.true_and, Bool.or_eq_true, Bool.and_eq_true, decide_eq_true_eq]
 cases s <;> cases s' <;> simp [bI]
 all_goals
  by_cases e : h = h'
  ·subst e; simp; omega
  ·have e1 : ¬ (h : Int) = (h' : Int) := by omega
   simp [e, e1]
structure TdOk (t : TdI) : Prop where
 right : rightI t.1 t.2 = true
 pv : pvI t.1 = true
 vl : vld t.1.1.1 (t.1.1.2.1 : Int) (t.1.1.2.2 : Int) = true
 pr : 0 ≤ t.2.1 ∧ t.2.1 ≤ 4
 n1 : N64 t.1.1.2.1 ∧ N64 t.1.1.2.2
 n2 : N64 t.2.2.2.1.2.1 ∧ N64 t.2.2.2.1.2.2
theorem TdOk.of {t : TdI} (h : rightI t.1 t.2 = true) (n1 : N64 t.1.1.2.1 ∧ N64 t.1.1.2.2) (n2 : N64 t.2.2.2.1.2.1 ∧ N64 t.2.2.2.1.2.2) : TdOk t := by
 have h0 := h
 unfold rightI at h
 split at h
 ·cases h
 ·rename_i h1
  have hp : pvI t.1 = true := by
   cases e : pvI t.1 with
   | true => rfl
   | false => exact absurd (.inl e) h1
  exact ⟨h0, hp, ((pvl_iff n1.2).1 hp).1, by omega, n1, n2⟩
def ltT (t u : TdI) : Prop := lexP (keyT t) (keyT u)
theorem keyT_len (t u : TdI) : (keyT t).length = (keyT u).length := rfl
theorem aheadT_lt {t u : TdI} (ht : TdOk t) (hu : TdOk u) : aheadT t u = true ↔ ltT t u := by
 unfold aheadT ltT keyT
 rw [lexP_app (a := keyP t.1) (b := keyP u.1) rfl, Bool.or_eq_true, lessI_key ht.pv hu.pv ht.vl hu.vl, Bool.and_eq_true, decide_eq_true_eq, betI_key]
 refine or_congr_right (and_congr_left fun _ => ⟨fun h => by rw [h], keyP_inj⟩)
theorem distI_inj {x y : Int} (hx : 0 ≤ x ∧ x ≤ 4) (hy : 0 ≤ y ∧ y ≤ 4) (h : distI x = distI y) : x = y := by
 have h1 : x = 0 ∨ x = 1 ∨ x = 2 ∨ x = 3 ∨ x = 4 := by omega
 have h2 : y = 0 ∨ y = 1 ∨ y = 2 ∨ y = 3 ∨ y = 4 := by omega
 rcases h1 with rfl | rfl | rfl | rfl | rfl <;> rcases h2 with rfl | rfl | rfl | rfl | rfl <;> first | rfl | (exfalso; revert h; decide)
theorem ltT_tri {t u : TdI} (ht : TdOk t) (hu : TdOk u) : ltT t u ∨ t = u ∨ ltT u t := by
 rcases lexP.tri (keyT_len t u) with h | h | h
 ·exact .inl h
 ·refine .inr (.inl ?_)
  have hk : keyP t.1 = keyP u.1 ∧ keyX t.2 = keyX u.2 := List.append_inj h rfl
  have h1 := keyP_inj hk.1
  have hx := hk.2
  obtain ⟨tp, pr, me, ⟨s, hh, l⟩, po, aw⟩ := t
  obtain ⟨up, pr', me', ⟨s', h', l'⟩, po', aw'⟩ := u
  simp [keyX] at hx
  obtain ⟨e1, e2, e3, e4, e5, e6, e7⟩ := hx
  have e0 : pr = pr' := distI_inj ht.pr hu.pr e1
  simp only at h1
  rw [h1, e0, e2, e3, bI_inj e4, show hh = h' by omega, show l = l' by omega, bI_inj e7]
 ·exact .inr (.inr h)
theorem ltT_trans {t u v : TdI} (h : ltT t u) (k : ltT u v) : ltT t v := lexP.trans h k
structure InvR (L : List TdI) : Prop where
 ok : ∀ t ∈ L, TdOk t
 srt : L.Pairwise ltT
 way : L.Pairwise fun t u => ¬ (t.1 = u.1 ∧ sameW t.2 u.2 = true)
theorem InvR.nil : InvR [] := ⟨by simp, .nil, .nil⟩
theorem sameW_refl (x : PaI) : sameW x x = true := by simp [sameW]
theorem sameW_comm (x y : PaI) : sameW x y = sameW y x := by
 unfold sameW
 simp only [eq_comm]
theorem insI_mem (L : List TdI) (t u : TdI) : u ∈ insI L t ↔ u = t ∨ u ∈ L := by
 unfold insI
 rw [List.mem_append, List.mem_cons]
 have := List.take_append_drop (posI L t) L
 constructor
 ·rintro (h | h | h)
  ·exact .inr (List.mem_of_mem_take h)
  ·exact .inl h
  ·exact .inr (List.mem_of_mem_drop h)
 ·rintro (h | h)
  ·exact .inr (.inl h)
  ·rw [← this, List.mem_append] at h
   rcases h with h | h
   ·exact .inl h
   ·exact .inr (.inr h)
theorem takeWhile_take {α : Type} (p : α → Bool) : ∀ (l : List α), l.take (l.takeWhile p).length = l.takeWhile p
 | [] => rfl
 | x :: r => by
  rw [List.takeWhile_cons]
  split
  ·rw [List.length_cons, List.take_succ_cons, takeWhile_take p r]
  ·rfl
theorem takeWhile_drop {α : Type} (p : α → Bool) : ∀ (l : List α), l.drop (l.takeWhile p).length = l.dropWhile p
 | [] => rfl
 | x :: r => by
  rw [List.takeWhile_cons, List.dropWhile_cons]
  split
  ·rw [List.length_cons, List.drop_succ_cons, takeWhile_drop p r]
  ·rfl
theorem insI_eq (L : List TdI) (t : TdI) : insI L t = L.takeWhile (fun u => aheadT u t) ++ t :: L.dropWhile (fun u => aheadT u t) := by
 unfold insI posI
 rw [takeWhile_take, takeWhile_drop]
theorem insI_cons (x : TdI) (r : List TdI) (t : TdI) : insI (x :: r) t = if aheadT x t = true then x :: insI r t else t :: x :: r := by
 rw [insI_eq, List.takeWhile_cons, List.dropWhile_cons]
 split
 ·rw [insI_eq]; rfl
 ·rfl
theorem insI_srt {L : List TdI} (hok : ∀ u ∈ L, TdOk u) {t : TdI} (ht : TdOk t) (hs : L.Pairwise ltT) (hn : t ∉ L) : (insI L t).Pairwise ltT := by
 induction L with
 | nil => exact List.pairwise_singleton _ _
 | cons x r ih =>
  rw [List.pairwise_cons] at hs
  rw [insI_cons]
  have hx := hok x (by simp)
  have a := aheadT_lt hx ht
  split
  ·rename_i h
   rw [List.pairwise_cons]
   refine ⟨fun u hu => ?_, ih (fun u hu => hok u (List.mem_cons_of_mem _ hu)) hs.2 (fun h => hn (List.mem_cons_of_mem _ h))⟩
   rcases (insI_mem r t u).1 hu with e | e
   ·subst e; exact a.1 h
   ·exact hs.1 u e
  ·rename_i h
   have hlt : ltT t x := by
    rcases ltT_tri hx ht with h1 | h1 | h1
    ·exact absurd (a.2 h1) h
    ·exact absurd (by rw [h1]; simp) hn
    ·exact h1
   rw [List.pairwise_cons]
   refine ⟨fun u hu => ?_, List.pairwise_cons.2 hs⟩
   rcases List.mem_cons.1 hu with e | e
   ·subst e; exact hlt
   ·exact ltT_trans hlt (hs.1 u e)
end Go.Proofs.YtgfkmgbcajdcdaaGreatDoor
