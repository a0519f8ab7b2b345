/-
  The program's own wheel (layer 17): New, Cancel.
-/
import Derived.Test.YthkjfgegmbdebaaWhG
namespace Go.Proofs.Ythkjfgegmbdebaa
open Go.RowKit
set_option linter.unusedVariables false

/-- One element of a row set anew by a store of all its cells. -/
theorem own_setE {α : Type} {f : α → List Value} {sz : Nat} (hf : ∀ x, (f x).length = sz) (hz : 0 < sz) {w w' : World} {g n c i : Nat} {t : TypeId} {l : List α} {old cs : Array Value} (hl : l.length = n) (hi : i < n) (y : α)
    (h : w.ownsRow 0 t sz (.slice (some ⟨g, 0, none⟩) n c) n (l.flatMap f)) (hB : Blk w g t old) (hs : Sta w w' g (i * sz) t old cs) (hcs : cs.toList = f y) : w'.ownsRow 0 t sz (.slice (some ⟨g, 0, none⟩) n c) n ((l.set i y).flatMap f) := by
  obtain ⟨cur, hb, h1, h2, h3, h4⟩ := own_openN h
  have e : cur = old := by
    have a := show w.heap[g]? = _ from hb
    have b := show w.heap[g]? = _ from hB
    rw [a] at b
    injection b with b
    injection b
  subst e
  obtain ⟨⟨cur', k1, k2, k3, k4⟩, -⟩ := hs
  have hcz : cs.size = sz := by rw [← Array.length_toList, hcs, hf]
  refine ⟨by rw [flatk_len hf, List.length_set, hl], .inr ⟨g, c, cur', rfl, Nat.zero_le _, k1, h1, h2, by rw [k2, h3], ?_⟩⟩
  refine List.ext_getElem? fun q => ?_
  by_cases hq : q < n * sz
  · have q1 : q / sz < n := Nat.div_lt_of_lt_mul (by rw [Nat.mul_comm]; exact hq)
    have q2 : q % sz < sz := Nat.mod_lt _ hz
    have q3 : q / sz * sz + q % sz = q := by rw [Nat.mul_comm]; exact Nat.div_add_mod q sz
    have hcq : (l.flatMap f)[q]? = cur[q]? := by rw [← h4, List.getElem?_take_of_lt hq, Array.getElem?_toList]
    rw [List.getElem?_take_of_lt hq, Array.getElem?_toList]
    by_cases e : q / sz = i
    · have hx : (l.set i y)[q / sz]? = some y := by rw [e, List.getElem?_set, if_pos rfl, if_pos (by omega)]
      have := flatk_at hf hx q2
      rw [q3] at this
      rw [this, ← hcs, Array.getElem?_toList, ← k4 (q % sz) (by omega), ← e, q3]
    · obtain ⟨x, hx⟩ : ∃ x, l[q / sz]? = some x := ⟨_, List.getElem?_eq_getElem (by omega)⟩
      have hx2 : (l.set i y)[q / sz]? = some x := by rw [List.getElem?_set, if_neg (fun e2 => e e2.symm)]; exact hx
      have a1 := flatk_at hf hx q2
      have a2 := flatk_at hf hx2 q2
      rw [q3] at a1 a2
      rw [a2, ← a1, hcq]
      refine k3 q ?_
      rw [hcz]
      rcases Nat.lt_or_ge (q / sz) i with h9 | h9
      · left
        have := Nat.mul_le_mul_right sz (show q / sz + 1 ≤ i from h9)
        rw [Nat.succ_mul] at this
        omega
      · right
        have := Nat.mul_le_mul_right sz (show i + 1 ≤ q / sz by omega)
        rw [Nat.succ_mul] at this
        omega
  · rw [List.getElem?_eq_none (by rw [List.length_take]; omega), List.getElem?_eq_none (by rw [flatk_len hf, List.length_set, hl]; omega)]
abbrev nilW : Value := .slice none 0 0
set_option maxRecDepth 100000 in
set_option maxHeartbeats 4000000 in
theorem newW (w : World) : Calls Try.prog 9 #[] w fun e w' => ∃ p F, e = .returned (ptrV p) ∧ WhP w' p 0 0 [] F ∧ (∀ s ∈ F, w.heap.size ≤ s) ∧ Tch w w' [] := by
  have hmm := @run_makeMap Try.prog
  obtain ⟨cs, hcs⟩ : ∃ cs : Array Value, cs = (([Value.int .i64 0, Value.int .i64 0] ++ List.replicate 48 nilW) ++ [Value.map (some w.heap.size)]).toArray := ⟨_, rfl⟩
  have HT : Hid (Tch w ((w.alloc (.map #[] 0)).alloc (.cells cs 51)) []) := Lib.hid (((Tch.refl w []).alloc _).alloc _)
  have HC := Lib.hid hcs
  have HP : Hid (WhP ((w.alloc (.map #[] 0)).alloc (.cells cs 51)) (w.heap.size + 1) 0 0 [] [w.heap.size + 1, w.heap.size]) := Lib.hid (by
    have hz : (List.replicate 48 nilW).flatMap obI = [] := by decide
    have hB : Blk ((w.alloc (.map #[] 0)).alloc (.cells cs 51)) (w.heap.size + 1) 51 cs := by
      have := Blk.new (w.alloc (.map #[] 0)) 51 cs
      rwa [World.size_alloc] at this
    refine ⟨w.heap.size, List.replicate 48 nilW, List.replicate 48 [], [], ⟨⟨cs, hB, by rw [hcs]; rfl, by rw [hcs]; rfl, by rw [hcs]; rfl, by rw [hcs]; rfl, fun k v hv => ?_⟩, by simp, by simp, ?_, fun k v l hv hl => ?_, ?_⟩, ?_, ?_, RowI.nil 0 0, ?_⟩
    · rw [hcs, List.getElem?_toArray, List.append_assoc, List.getElem?_append_right (by simp), List.getElem?_append_left (by have := (List.getElem?_eq_some_iff.1 hv).1; simp at this ⊢; omega)]
      simpa using hv
    · exact ⟨#[], 0, by
        have h1 := (MapKept.heap_alloc w (.map #[] 0)).1
        rw [(MapKept.heap_alloc (w.alloc (.map #[] 0)) _).2 w.heap.size (by simp)]
        exact h1, rfl, by simp, by simp, by simp⟩
    · obtain rfl : v = nilW := List.eq_of_mem_replicate (List.mem_of_getElem? hv)
      obtain rfl : l = [] := List.eq_of_mem_replicate (List.mem_of_getElem? hl)
      exact ⟨rfl, .inl ⟨rfl, rfl⟩⟩
    · rw [hz]; simp
    · have hin : ∀ (k : Nat) (l : List TmI), (List.replicate 48 ([] : List TmI))[k]? = some l → l = [] := fun k l hl => List.eq_of_mem_replicate (List.mem_of_getElem? hl)
      refine ⟨by simp, fun x => ?_, fun k l x hl hx => ?_, fun k l i x hl hx => ?_, by simp, by simp, by simp, by simp⟩
      · constructor
        · intro h; simp at h
        · rintro (h | ⟨k, l, hl, hx⟩)
          · simp at h
          · rw [hin k l hl] at hx; simp at hx
      · rw [hin k l hl] at hx; simp at hx
      · rw [hin k l hl] at hx; simp at hx
    · exact ⟨fun id => by simp [valG, mpG], rfl⟩
    · unfold ftW; rw [hz])
  have HE : Hid (cs = #[.int .i64 0, .int .i64 0, nilW, nilW, nilW, nilW, nilW, nilW, nilW, nilW, nilW, nilW, nilW, nilW, nilW, nilW, nilW, nilW, nilW, nilW, nilW, nilW, nilW, nilW, nilW, nilW, nilW, nilW, nilW, nilW, nilW, nilW, nilW, nilW, nilW, nilW, nilW, nilW, nilW, nilW, nilW, nilW, nilW, nilW, nilW, nilW, nilW, nilW, nilW, nilW, .map (some w.heap.size)]) := Lib.hid (by rw [hcs]; rfl)
  clear hcs
  go_enter Try.func9, Try.ntmps9
  go_wp2
  go_ret
  refine ⟨w.heap.size + 1, rfl, [w.heap.size + 1, w.heap.size], ?_, ?_, ?_⟩
  · have := HP.out
    rw [HE.out] at this
    exact this
  · intro s hs
    simp at hs
    omega
  · have := HT.out
    rw [HE.out] at this
    exact this
theorem can_map {M M4 : List (Int × Value)} (hn : (M.map Prod.fst).Nodup) {i la : Nat} {x y : Int} {v : Value} (hx : valG x M ≠ none) (hy : valG y M ≠ none) (h4 : M4 = if i = la then M else mpPut M y v) :
    (M4.map Prod.fst).Nodup ∧ (∀ q, valG q (mpDel M4 x) = if q = x then none else if i ≠ la ∧ q = y then some v else valG q M) ∧ (∀ q, valG q (mpDel M4 x) = none ↔ q = x ∨ valG q M = none) ∧ (mpDel M4 x).length + 1 = M.length := by
  have hn4 : (M4.map Prod.fst).Nodup := by rw [h4]; split; exact hn; exact put_nodup hn
  have h5 : ∀ q, valG q M4 = if i ≠ la ∧ q = y then some v else valG q M := by
    intro q
    rw [h4]
    by_cases e : i = la
    · rw [if_pos e, if_neg (fun e2 => e2.1 e)]
    · rw [if_neg e, valG_put hn]
      by_cases e2 : q = y
      · rw [if_pos e2, if_pos ⟨e, e2⟩]
      · rw [if_neg e2, if_neg (fun e3 => e2 e3.2)]
  have h6 : ∀ q, valG q (mpDel M4 x) = if q = x then none else if i ≠ la ∧ q = y then some v else valG q M := fun q => by rw [valG_del hn4, h5]
  have h7 : M4.length = M.length := by
    rw [h4]; split
    · rfl
    · rw [put_len, if_neg hy]
  have h8 : valG x M4 ≠ none := by
    rw [h5]; split
    · simp
    · exact hx
  refine ⟨hn4, h6, fun q => ?_, by rw [del_len h8, h7]⟩
  rw [h6]
  by_cases e : q = x
  · simp [e]
  · rw [if_neg e]
    by_cases e2 : i ≠ la ∧ q = y
    · rw [if_pos e2]
      simp [e2.2, hy]
      exact fun e3 => e (by rw [e2.2, e3])
    · rw [if_neg e2]; simp [e]
/-- A slot's row changed where it lies. -/
theorem WhM.row {w w' : World} {p m t a : Nat} {lv : List Value} {ll : List (List TmI)} {M : List (Int × Value)} (h : WhM w p m t a lv ll M) {k : Nat} {v0 : Value} (hk0 : lv[k]? = some v0) (hT : Tch w w' (obI v0)) (l : List TmI) (hr : w'.ownsRow 0 57 3 v0 l.length (l.flatMap tmC)) :
    WhM w' p m t a lv (ll.set k l) M := by
  obtain ⟨cs, hB, hc⟩ := h.cells
  have hd := h.dis
  rw [List.nodup_cons, List.nodup_cons] at hd
  obtain ⟨d1, d2, d3⟩ := hd
  have hv0 : ∀ s ∈ obI v0, s ∈ lv.flatMap obI := fun s hs => List.mem_flatMap.2 ⟨v0, List.mem_of_getElem? hk0, hs⟩
  refine ⟨⟨cs, hT.blk hB (fun e => d1 (List.mem_cons_of_mem _ (hv0 p e))), hc⟩, h.n48, by rw [List.length_set]; exact h.l48, h.map.tch hT (fun e => d2 (hv0 m e)), fun k' v' l' hv hl => ?_, h.dis⟩
  by_cases e : k = k'
  · subst e
    rw [hk0] at hv; injection hv with hv; subst hv
    rw [List.getElem?_set, if_pos rfl] at hl
    split at hl
    · injection hl with hl; subst hl; exact hr
    · cases hl
  · rw [List.getElem?_set, if_neg e] at hl
    exact own_tch (h.rows k' v' l' hv hl) hT (fun s hs e2 => flat_disj d3 hk0 hv e s hs e2)
section
variable {w w' : World} {p t a : Nat} {L : List TmI} {F : List Nat}
set_option maxRecDepth 100000 in
set_option maxHeartbeats 4000000 in
theorem cancelP (h : WhP w p t a L F) (id : Int) (ht : t ≤ 100000000) :
    Calls Try.prog 13 #[ptrV p, .int .i64 id] w fun e w' => e = .returned (.bool (decide (wAt L id ≠ 0))) ∧ ∃ F', WhP w' p t a (canL L id) F' ∧ Goes w w' F F' := by
  have HP := Lib.hid h
  obtain ⟨m, lv, ll, M, h1, h2, h3, h4, rfl⟩ := h
  have hp := h1.places
  have hlk := h1.map.lookup2 keyI Try.underlying46 (zeroPl w) id
  cases hv : valG id M with
  | none =>
    obtain ⟨e1, e2⟩ := pl_no (z := .agg #[.int .i64 0, .int .i64 0, .int .i64 0]) hv
    rw [e1, e2] at hlk
    have hno := (h3.keys id).1 hv
    have HE := Lib.hid (And.intro (wAt_zero.2 hno) (canL_none hno))
    have HT : Hid (∀ o, Tch w (w.alloc o) []) := Lib.hid (fun o => (Tch.refl w []).alloc o)
    clear h1 h2 h3 h4 hv e1 e2 hno
    go_enter Try.func13, Try.ntmps13
    go_wp2
    go_ret
    exact ⟨by rw [HE.out.1]; rfl, _, by rw [HE.out.2]; exact HP.out.tch (HT.out _) (by simp), Goes.of_nil (HT.out _) _⟩
  | some v =>
    obtain ⟨e1, e2⟩ := pl_is (z := .agg #[.int .i64 0, .int .i64 0, .int .i64 0]) hv
    rw [e1, e2] at hlk
    obtain ⟨k, l, i, x, hl, hi, rfl, rfl, hxL⟩ := h2.find h3 hv
    have hk := h2.lt hl
    have HR := Lib.hid (show wAt L x.1 ≠ 0 from fun e => wAt_zero.1 e x hxL rfl)
    obtain ⟨v, hvk⟩ : ∃ v, lv[k]? = some v := ⟨_, List.getElem?_eq_getElem (by rw [h1.n48]; exact hk)⟩
    have hro := h1.rows k v l hvk hl
    obtain ⟨A, c, rfl, hc, -⟩ := own_sl hro
    have hi2 := (List.getElem?_eq_some_iff.1 hi).1
    obtain ⟨g, rfl⟩ := slice_some hro (by omega)
    obtain ⟨n, hn⟩ : ∃ n, l.length = n := ⟨_, rfl⟩
    have hn9 : n ≤ 1000 := by rw [← hn]; exact Nat.le_trans (h2.few_ hl) h4.len
    obtain ⟨y, hy⟩ : ∃ y, l[l.length - 1]? = some y := ⟨_, List.getElem?_eq_getElem (by omega)⟩
    obtain ⟨la, hla⟩ : ∃ la, n - 1 = la := ⟨_, rfl⟩
    have HCn := Lib.hid (fun M' hM => h2.cancel hl hi hy (M' := M') hM)
    have HMn := Lib.hid (fun M' hM hl => h3.cancel h2.nd hxL (M' := M') hM hl)
    have HRo := Lib.hid (h4.can x.1)
    rw [hn] at hro hy HCn hi2 hc
    rw [hla] at hy HCn
    -- the wheel in any world in which its blocks lie as they lay
    have HW := Lib.hid (fun W (hT : Tch w W []) => h1.tch hT (by simp))
    have HRw := Lib.hid (fun W (hT : Tch w W []) => own_tch hro hT (by simp))
    have hdis := h1.dis
    have hgm : g ∈ lv.flatMap obI := List.mem_flatMap.2 ⟨_, List.mem_of_getElem? hvk, by simp [obI, Value.ownBlock]⟩
    have HNe : Hid (g ≠ p ∧ g ≠ m ∧ p ≠ m ∧ p < w.heap.size ∧ g < w.heap.size ∧ m < w.heap.size) := Lib.hid (by
      rw [List.nodup_cons, List.nodup_cons] at hdis
      refine ⟨fun e => hdis.1 (e ▸ List.mem_cons_of_mem _ hgm), fun e => hdis.2.1 (e ▸ hgm), fun e => hdis.1 (by simp [e]), h1.lt p (by simp), h1.lt g (by simp only [List.mem_cons]; exact .inr (.inr hgm)), h1.lt m (by simp)⟩)
    have HVk := Lib.hid hvk
    have HLl := Lib.hid (And.intro hl (And.intro hi (And.intro hy hn)))
    have HVa := Lib.hid hv
    have HVy : Hid (valG y.1 M ≠ none) := Lib.hid (by rw [h2.pos k l _ y hl (by rw [← hla, ← hn] at hy; exact hy)]; simp)
    have HMd := Lib.hid h1.map.nodup
    have hka : k + 2 = 2 + k / 16 * 16 + k % 16 := by omega
    obtain ⟨lo, hlo⟩ : ∃ lo, k / 16 = lo := ⟨_, rfl⟩
    obtain ⟨so, hso⟩ : ∃ so, k % 16 = so := ⟨_, rfl⟩
    have HPl : Hid (plV k i = .agg #[.int .i64 (lo : Int), .int .i64 (so : Int), .int .i64 (i : Int)]) := Lib.hid (by unfold plV; rw [hlo, hso])
    rw [HPl.out] at hlk
    rw [hlo, hso] at hka
    have i0 : (0 : Int) ≤ (lo : Int) := by omega
    have i1 : (lo : Int) < 3 := by omega
    have i2 : (0 : Int) ≤ (so : Int) := by omega
    have i3 : (so : Int) < 16 := by omega
    have HI : Hid (i < n ∧ n ≤ c ∧ n ≤ 1000 ∧ la + 1 = n ∧ k + 2 = 2 + lo * 16 + so) := Lib.hid ⟨hi2, hc, hn9, by omega, hka⟩
    obtain ⟨xb, hxb⟩ : ∃ xb, w.heap.size = xb := ⟨_, rfl⟩
    obtain ⟨W1, hW1⟩ : ∃ W, w.alloc (.cells #[.int .i64 (lo : Int), .int .i64 (so : Int), .int .i64 (i : Int)] 53) = W := ⟨_, rfl⟩
    have hT1 : Tch w W1 [] := hW1 ▸ (Tch.refl w []).alloc _
    have hB1 : Blk W1 xb 53 #[.int .i64 (lo : Int), .int .i64 (so : Int), .int .i64 (i : Int)] := hW1 ▸ hxb ▸ Blk.new w _ _
    have HB : Hid (∀ W, Tch W1 W [] → Tch w W [] ∧ Blk W xb 53 #[.int .i64 (lo : Int), .int .i64 (so : Int), .int .i64 (i : Int)] ∧ W.cell? ⟨p, 2 + lo * 16 + so, none⟩ = some (.slice (some ⟨g, 0, none⟩) n c) ∧ W.cell? ⟨p, 50, none⟩ = some (.map (some m))) := Lib.hid (fun W hT => by
      have h5 := HW.out W (hT1.trans hT)
      have h6 := h5.slot HVk.out
      rw [HLl.out.2.2.2] at h6
      rw [HI.out.2.2.2.2] at h6
      exact ⟨hT1.trans hT, hT.blk hB1 (by simp), h6, h5.places⟩)
    have HXb : Hid (xb ≠ g ∧ xb ≠ p ∧ xb ≠ m) := Lib.hid (by have := HNe.out; omega)
    have HW1 := Lib.hid (And.intro hW1 hxb)
    have l1 : IntKind.i64.wrap ((n : Int) - 1) = (la : Int) := by rw [IntKind.wrap_i64]; omega
    obtain ⟨-, hb1, s1, -⟩ := HB.out W1 (Tch.refl _ _)
    obtain ⟨b0, b1, b2⟩ := hb1.t3
    clear h1 h2 h3 h4 hl hi hxL hk hvk hro hn hn9 hy hla hdis hgm hv e1 e2 hlo hso hka hc hi2 hxb hW1 hT1 hB1 hb1
    go_enter Try.func13, Try.ntmps13
    go_wp2_with fail
    rw [HW1.out.1, HW1.out.2]
    go_quiet (fail)
    obtain ⟨W2, hW2⟩ : ∃ W, W1.drewN nq = W := ⟨_, rfl⟩
    have HT2 : Hid (Tch W1 W2 []) := Lib.hid (hW2 ▸ (Tch.refl W1 []).drewN nq)
    rw [hW2]
    clear hW2 s1 b0 b1 b2
    obtain ⟨-, hb1, s1, -⟩ := HB.out W2 HT2.out
    obtain ⟨b0, b1, b2⟩ := hb1.t3
    clear hb1
    have HVx : Hid (valG x.1 M ≠ none) := Lib.hid (by rw [HVa.out]; simp)
    have HW2 : Hid (Tch w W2 []) := Lib.hid (HB.out W2 HT2.out).1
    have HFt : Hid (∀ s ∈ obI (.slice (some ⟨g, 0, none⟩) n c), s ∈ ftW p m lv) := Lib.hid (fun s hs => by
      unfold ftW
      exact List.mem_cons_of_mem _ (List.mem_cons_of_mem _ (List.mem_flatMap.2 ⟨_, List.mem_of_getElem? HVk.out, hs⟩)))
    have z0 : (0 : Int) ≤ (la : Int) := by omega
    have z1 : (la : Int) ≤ (c : Int) := by have := HI.out; omega
    have HZ := Lib.hid (And.intro z0 z1)
    by_cases hil : i = la
    · have q0 : ((i : Int) != (la : Int)) = false := by simp [hil]
      have HMp := Lib.hid (can_map (i := i) (la := la) HMd.out HVx.out (HVy.out) (v := plV k i) (M4 := M) (by rw [if_pos hil]))
      have HHs : Hid (WhM W2 p m t a lv (ll.set k (l.set i y)) M) := Lib.hid ((HW.out W2 HW2.out).row HVk.out (Tch.refl _ _) (l.set i y) (by
        have : l.set i y = l := set_same (by rw [hil]; exact HLl.out.2.2.1)
        rw [this, HLl.out.2.2.2]; exact HRw.out W2 HW2.out))
      have f1 := HHs.out.frozen (2 + lo * 16 + so)
      clear hil f1
      go_wp2
      go_still_tail 12, (by kernel_rfl)
      change wpList _ _ _ _ _ W2.drew
      obtain ⟨W3, hW3⟩ : ∃ W, W2.drew = W := ⟨_, rfl⟩
      have HTd : Hid (Tch W2 W3 []) := Lib.hid (hW3 ▸ (Tch.refl W2 []).drew)
      have HHd : Hid (WhM W3 p m t a lv (ll.set k (l.set i y)) M) := Lib.hid (HHs.out.tch HTd.out (by simp))
      rw [hW3]
      clear hW3 s1 b0 b1 b2
      have sd := HHd.out.slot HVk.out
      rw [HI.out.2.2.2.2] at sd
      have fd := HHd.out.frozen (2 + lo * 16 + so)
      obtain ⟨h9, hT9⟩ := HHd.out.app (k := k) HVk.out (Tch.refl _ _) (.slice (some ⟨g, 0, none⟩) la c) (rmvI l i y) (by
        have h5 := HHd.out.rows k _ (l.set i y) HVk.out (by rw [List.getElem?_set, if_pos rfl, if_pos (List.getElem?_eq_some_iff.1 HLl.out.1).1])
        rw [List.length_set, HLl.out.2.2.2] at h5
        have h6 := own_take h5 (k := la) (by have := HI.out; omega)
        rw [flatk_take tm_three] at h6
        have e1 : rmvI l i y = (l.set i y).take la := by
          have := HI.out
          unfold rmvI; rw [HLl.out.2.2.2, show n - 1 = la by omega]
        rw [rmv_len, HLl.out.2.2.2, show n - 1 = la by have := HI.out; omega, e1]
        exact h6) (fun s hs => .inl (by simpa [obI, Value.ownBlock] using hs))
      rw [List.set_set, HI.out.2.2.2.2] at h9
      rw [HI.out.2.2.2.2] at hT9
      have HH9 := Lib.hid h9
      have HT9 := Lib.hid hT9
      clear h9 hT9
      have c9 := HH9.out.places
      have z0 := HZ.out.1
      have z1 := HZ.out.2
      go_wp2_with (refine wpList_mdel rfl keyI (.tmp 71) (.tmp 72) 46 53 rfl Try.underlying46 rfl x.1 rfl HH9.out.map ?_; intro w10 hM10 hT10 hs10; have HH10 := Lib.hid (HH9.out.setMap hM10 hT10); have HT10 := Lib.hid hT10; clear hM10 hT10 hs10)
      go_ret
      refine ⟨by simp [HR.out], ftW p m (lv.set k (.slice (some ⟨g, 0, none⟩) la c)), ⟨m, _, _, _, HH10.out, HCn.out _ HMp.out.2.1, HMn.out _ HMp.out.2.2.1 HMp.out.2.2.2, HRo.out, rfl⟩, ?_, ?_⟩
      · refine ((((HW2.out.mono (by simp)).trans (HTd.out.mono ?_)).trans (HT9.out.mono ?_)).trans (HT10.out.mono ?_))
        · simp
        · intro s hs
          rcases List.mem_cons.1 hs with rfl | hs
          · simp [ftW]
          · exact HFt.out s hs
        · intro s hs; rw [List.mem_singleton.1 hs]; simp [ftW]
      · exact ft_set HVk.out (fun s hs => .inl (by simpa [obI, Value.ownBlock] using hs))
    · have q0 : ((i : Int) != (la : Int)) = true := by simp; omega
      have HMp := Lib.hid (can_map (i := i) (la := la) HMd.out HVx.out (HVy.out) (v := plV k i) (M4 := mpPut M y.1 (plV k i)) (by rw [if_neg hil]))
      have HY := Lib.hid (fun W (hT : Tch w W []) => tm_cells (HRw.out W hT) HLl.out.2.2.1)
      have HRow := Lib.hid (fun W (hT : Tch w W []) => own_openN (HRw.out W hT))
      have hI := HI.out
      have x0 : (0 : Int) ≤ (i : Int) := by omega
      have x1 : (i : Int) < (n : Int) := by omega
      have x2 : (la : Int) < (n : Int) := by omega
      have HX := Lib.hid (And.intro x0 (And.intro x1 x2))
      obtain ⟨y0, y1, y2⟩ := y
      obtain ⟨e0, e1, e2⟩ := HY.out W2 HW2.out
      clear hil hI
      go_wp2
      go_still_tail 8, (by kernel_rfl)
      change wpList _ _ _ _ _ W2.drew
      clear e0 e1 e2 b0 b1 b2 s1
      have HWd : Hid (Tch w W2.drew []) := Lib.hid HW2.out.drew
      obtain ⟨cur, hcur, -, -, hsz, -⟩ := HRow.out W2.drew HWd.out
      have HCur := Lib.hid hcur
      have HSz : Hid (i * 3 + 3 ≤ cur.size) := Lib.hid (by have := HI.out; rw [hsz]; omega)
      clear hcur hsz
      go_wp2_with (refine wpList_sta rfl 57 (.tmp 44) (.tmp 43) rfl g (i * 3) (tmA (y0, y1, y2)) rfl rfl 57 cur HCur.out 3 sizeTm rfl HSz.out (by simp [Value.oneCell']) ?_; intro w8 hs8; have HS8 := Lib.hid hs8; clear hs8)
      have HR8 := Lib.hid (own_setE tm_three (by decide) HLl.out.2.2.2 (by have := HI.out; omega) (y0, y1, y2) (HRw.out W2.drew HWd.out) HCur.out HS8.out rfl)
      have HT8 : Hid (Tch W2 w8 [g]) := Lib.hid (HS8.out.tch.of_drew)
      have HH8 : Hid (WhM w8 p m t a lv (ll.set k (l.set i (y0, y1, y2))) M) := Lib.hid ((HW.out W2 HW2.out).row HVk.out (by simpa [obI, Value.ownBlock] using HT8.out) (l.set i (y0, y1, y2)) (by rw [List.length_set, HLl.out.2.2.2]; exact HR8.out))
      have HXB : Hid (∀ W, Tch W2 W [g, m] → Blk W xb 53 #[.int .i64 (lo : Int), .int .i64 (so : Int), .int .i64 (i : Int)]) := Lib.hid (fun W hW => hW.blk (HB.out W2 HT2.out).2.1 (by have := HXb.out; simp; omega))
      obtain ⟨b0, b1, b2⟩ := (HXB.out w8 (HT8.out.mono (by simp))).t3
      have e0 := (tm_cells HR8.out (i := i) (x := (y0, y1, y2)) (by rw [List.getElem?_set, if_pos rfl, if_pos (by rw [HLl.out.2.2.2]; exact HI.out.1)])).1
      have c9 := HH8.out.places
      have x0 := HX.out.1
      have x1 := HX.out.2.1
      go_wp2
      go_still_tail 11, (by kernel_rfl)
      change wpList _ _ _ _ _ w8.drew
      clear b0 b1 b2 e0 c9
      have HH9 : Hid (WhM w8.drew p m t a lv (ll.set k (l.set i (y0, y1, y2))) M) := Lib.hid (HH8.out.tch ((Tch.refl w8 []).drew) (by simp))
      go_wp2_with (refine wpList_mset rfl keyI (.tmp 48) (.tmp 54) (.tmp 55) 46 53 rfl Try.underlying46 rfl y0 rfl (plV k i) HPl.out.symm HH9.out.map ?_; intro w10 hM10 hT10 hs10; have HH10 := Lib.hid (HH9.out.setMap hM10 hT10); have HT10 : Hid (Tch W2 w10 [g, m]) := Lib.hid ((HT8.out.mono (by simp)).trans ((hT10.of_drew).mono (by simp))); clear hM10 hT10 hs10)
      obtain ⟨b0, b1, b2⟩ := (HXB.out w10 HT10.out).t3
      have s1 := HH10.out.slot HVk.out
      rw [HI.out.2.2.2.2] at s1
      have z0 := HZ.out.1
      have z1 := HZ.out.2
      go_still_tail 12, (by kernel_rfl)
      change wpList _ _ _ _ _ w10.drew
      obtain ⟨W3, hW3⟩ : ∃ W, w10.drew = W := ⟨_, rfl⟩
      have HTd : Hid (Tch W2 W3 [g, m]) := Lib.hid (hW3 ▸ HT10.out.drew)
      have HHd : Hid (WhM W3 p m t a lv (ll.set k (l.set i (y0, y1, y2))) (mpPut M y0 (plV k i))) := Lib.hid (HH10.out.tch (hW3 ▸ (Tch.refl w10 []).drew) (by simp))
      rw [hW3]
      clear hW3 s1 b0 b1 b2
      have sd := HHd.out.slot HVk.out
      rw [HI.out.2.2.2.2] at sd
      have fd := HHd.out.frozen (2 + lo * 16 + so)
      obtain ⟨h9, hT9⟩ := HHd.out.app (k := k) HVk.out (Tch.refl _ _) (.slice (some ⟨g, 0, none⟩) la c) (rmvI l i (y0, y1, y2)) (by
        have h5 := HHd.out.rows k _ (l.set i (y0, y1, y2)) HVk.out (by rw [List.getElem?_set, if_pos rfl, if_pos (List.getElem?_eq_some_iff.1 HLl.out.1).1])
        rw [List.length_set, HLl.out.2.2.2] at h5
        have h6 := own_take h5 (k := la) (by have := HI.out; omega)
        rw [flatk_take tm_three] at h6
        have e1 : rmvI l i (y0, y1, y2) = (l.set i (y0, y1, y2)).take la := by
          have := HI.out
          unfold rmvI; rw [HLl.out.2.2.2, show n - 1 = la by omega]
        rw [rmv_len, HLl.out.2.2.2, show n - 1 = la by have := HI.out; omega, e1]
        exact h6) (fun s hs => .inl (by simpa [obI, Value.ownBlock] using hs))
      rw [List.set_set, HI.out.2.2.2.2] at h9
      rw [HI.out.2.2.2.2] at hT9
      have HH9 := Lib.hid h9
      have HT9 := Lib.hid hT9
      clear h9 hT9
      have c9 := HH9.out.places
      have z0 := HZ.out.1
      have z1 := HZ.out.2
      go_wp2_with (refine wpList_mdel rfl keyI (.tmp 71) (.tmp 72) 46 53 rfl Try.underlying46 rfl x.1 rfl HH9.out.map ?_; intro w11 hM11 hT11 hs11; have HH11 := Lib.hid (HH9.out.setMap hM11 hT11); have HT11 := Lib.hid hT11; clear hM11 hT11 hs11)
      go_ret
      refine ⟨by simp [HR.out], ftW p m (lv.set k (.slice (some ⟨g, 0, none⟩) la c)), ⟨m, _, _, _, HH11.out, HCn.out _ HMp.out.2.1, HMn.out _ HMp.out.2.2.1 HMp.out.2.2.2, HRo.out, rfl⟩, ?_, ?_⟩
      · refine ((((HW2.out.mono (by simp)).trans (HTd.out.mono ?_)).trans (HT9.out.mono ?_)).trans (HT11.out.mono ?_))
        · intro s hs
          simp at hs
          rcases hs with rfl | rfl
          · exact HFt.out _ (by simp [obI, Value.ownBlock])
          · simp [ftW]
        · intro s hs
          rcases List.mem_cons.1 hs with rfl | hs
          · simp [ftW]
          · exact HFt.out s hs
        · intro s hs; rw [List.mem_singleton.1 hs]; simp [ftW]
      · exact ft_set HVk.out (fun s hs => .inl (by simpa [obI, Value.ownBlock] using hs))
end
end Go.Proofs.Ythkjfgegmbdebaa
