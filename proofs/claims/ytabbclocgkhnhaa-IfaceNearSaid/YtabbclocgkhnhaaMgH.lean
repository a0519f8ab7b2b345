/-
  Several texts in one: IfB, IfCa, IfCb, IfCd.
-/
import Derived.Test.YtabbclocgkhnhaaMgY
import Derived.Test.YtabbclocgkhnhaaIfQ

namespace Go.Proofs.Ytabbclocgkhnhaa
open Go.RowKit
set_option linter.unusedVariables false

/-- The place of the best as Source counts it: -1 for none. -/
def bvI : Option Nat → Int
  | none => -1
  | some k => (k : Int)
theorem bestT_no {a : AdI} {l : List Loc} {k : Nat} {x : Loc} (hx : l[k]? = some x) (h : hldI a x = false) : bestT a l (k + 1) = bestT a l k := by
  rw [bestT, hx]; simp [h]
theorem bestT_first {a : AdI} {l : List Loc} {k : Nat} {x : Loc} (hx : l[k]? = some x) (h : hldI a x = true) (hn : bestT a l k = none) : bestT a l (k + 1) = some k := by
  rw [bestT, hx]; simp [h, hn]
theorem bestT_more {a : AdI} {l : List Loc} {k j : Nat} {x y : Loc} (hx : l[k]? = some x) (h : hldI a x = true) (hj : bestT a l k = some j) (hy : l[j]? = some y) (hb : y.2 < x.2) : bestT a l (k + 1) = some k := by
  rw [bestT, hx]; simp [h, hj, hy, hb]
theorem bestT_less {a : AdI} {l : List Loc} {k j : Nat} {x y : Loc} (hx : l[k]? = some x) (h : hldI a x = true) (hj : bestT a l k = some j) (hy : l[j]? = some y) (hb : ¬ y.2 < x.2) : bestT a l (k + 1) = some j := by
  rw [bestT, hx]; simp [h, hj, hy, hb]
/-- No local below k is of the family. -/
def nofI (s : Bool) (l : List Loc) (k : Nat) : Prop := ∀ j x, j < k → l[j]? = some x → x.1.1 ≠ s
theorem famI_none {s : Bool} {l : List Loc} (h : nofI s l l.length) : famI s l = 0 := fndI_zero.2 fun i x hx => decide_eq_false (h i x (List.getElem?_eq_some_iff.1 hx).1 hx)
theorem famI_at {s : Bool} {l : List Loc} {k : Nat} {x : Loc} (h : nofI s l k) (hx : l[k]? = some x) (hs : x.1.1 = s) : famI s l = k + 1 := fndI_succ.2 ⟨⟨x, hx, decide_eq_true hs⟩, fun j y hj hy => decide_eq_false (h j y hj hy)⟩
theorem pickI_best {a : AdI} {l : List Loc} {j : Nat} (h : bestT a l l.length = some j) : pickI a l = some j := by unfold pickI; rw [h]
theorem pickI_fam {a : AdI} {l : List Loc} {j : Nat} (h : bestT a l l.length = none) (hf : famI a.1 l = j + 1) : pickI a l = some j := by unfold pickI; rw [h]; simp [hf]
theorem pickI_no {a : AdI} {l : List Loc} (h : bestT a l l.length = none) (hf : famI a.1 l = 0) : pickI a l = none := by unfold pickI; rw [h]; simp [hf]
/-- What Source answers. -/
def srV (r : Option AdI) : Value := .tuple #[adV (r.getD (false, 0, 0)), .bool r.isSome]
theorem tch_c3 (w : World) (g i j k : Nat) (u v z : Value) : Tch w (((w.setCell ⟨g, i, none⟩ u).setCell ⟨g, j, none⟩ v).setCell ⟨g, k, none⟩ z) [g] :=
  (((Tch.refl w [g]).set_ (p := ⟨g, i, none⟩) (by simp) u).set_ (p := ⟨g, j, none⟩) (by simp) v).set_ (p := ⟨g, k, none⟩) (by simp) z
set_option maxRecDepth 100000 in
set_option maxHeartbeats 4000000 in
theorem srcD_no (t : Nat) (S : List Nat) (st : StI) (port : Int) (a : AdI) (hno : thereI st port = false ∨ vld a.1 (a.2.1 : Int) (a.2.2 : Int) = false) (w : World) (h : IfD w t S st) :
    Calls Try.prog 32 #[.pointer (some ⟨t, 0, none⟩), .int .i64 port, adV a] w fun e w' => e = .returned (srV (srcI st port a)) ∧ Tch w w' [] := by
  have HE : Hid (srcI st port a = none) := Lib.hid (by unfold srcI; rw [if_pos hno])
  obtain ⟨s, ah, al⟩ := a
  obtain ⟨W0, hW0⟩ : ∃ W, (w.alloc (.cells #[.bool s, .int .u64 (ah : Int), .int .u64 (al : Int)] 34)).alloc (.cells #[.bool false, .int .u64 0, .int .u64 0] 34) = W := ⟨_, rfl⟩
  have hX : Blk W0 w.heap.size 34 #[.bool s, .int .u64 (ah : Int), .int .u64 (al : Int)] := hW0 ▸ (Blk.new w _ _).alloc _
  have hY : Blk W0 (w.heap.size + 1) 34 #[.bool false, .int .u64 0, .int .u64 0] := by rw [← hW0]; have := Blk.new (w.alloc (.cells #[.bool s, .int .u64 (ah : Int), .int .u64 (al : Int)] 34)) 34 #[.bool false, .int .u64 0, .int .u64 0]; rwa [World.size_alloc] at this
  have HT0 : Hid (Tch w W0 []) := Lib.hid (hW0 ▸ ((Tch.refl w []).alloc _).alloc _)
  obtain ⟨xb, hxb⟩ : ∃ xb, w.heap.size = xb := ⟨_, rfl⟩
  rw [hxb] at hX hY
  have x0 := (hX.cell 0).trans (show _ = some (Value.bool s) by rfl)
  have x1 := (hX.cell 1).trans (show _ = some (Value.int .u64 (ah : Int)) by rfl)
  have x2 := (hX.cell 2).trans (show _ = some (Value.int .u64 (al : Int)) by rfl)
  have HY := Lib.hid hY
  obtain ⟨b, hb⟩ : ∃ b, vld s (ah : Int) (al : Int) = b := ⟨_, rfl⟩
  have HV := Lib.hid (rvalid_at s (ah : Int) (al : Int) W0 hb)
  have HD0 := Lib.hid (h.tch HT0.out (by simp))
  have HTh := Lib.hid (fun W hW => there_any t S st port W hW)
  have HW0 := Lib.hid hW0
  have HXB := Lib.hid hxb
  have hcs : (thereI st port = false) ∨ (thereI st port = true ∧ b = false) := by
    cases e : thereI st port with
    | false => exact .inl rfl
    | true =>
      rw [e] at hno
      rcases hno with h1 | h1
      · cases h1
      · exact .inr ⟨rfl, by rw [← hb]; exact h1⟩
  clear hX hY hW0 hxb h hno hb
  go_enter Try.func32, Try.ntmps32
  go_wp2_with fail
  rw [HXB.out, HW0.out]
  refine Calls.mono HV.out ?_
  rintro e w1 ⟨rfl, hb1⟩
  have hT1 := Tch.of_below [] hb1
  have hY1 := hT1.blk HY.out (by simp)
  have z0 := hY1.frozen 0
  have z1 := hY1.frozen 1
  have z2 := hY1.frozen 2
  have y0 := (hY1.cell 0).trans (show _ = some (Value.bool false) by rfl)
  have y1 := (hY1.cell 1).trans (show _ = some (Value.int .u64 0) by rfl)
  have y2 := (hY1.cell 2).trans (show _ = some (Value.int .u64 0) by rfl)
  have HT1 := Lib.hid (HT0.out.trans hT1)
  have HTh1 := Lib.hid (HTh.out w1 (HD0.out.tch hT1 (by simp)))
  have HY1 := Lib.hid hY1
  have HXl : Hid (w.heap.size ≤ xb) := Lib.hid (by have := HXB.out; omega)
  clear hb1 hT1 hY1 x0 x1 x2
  rcases hcs with hth | ⟨hth, rfl⟩
  all_goals
    rw [hth] at HTh1
    clear hth
    go_wp2_with (go_at_call 54; refine Calls.mono HTh1.out ?_; rintro e w' ⟨rfl, rfl⟩)
    have hE := ((HY1.out.set_ 0 (.bool false)).set_ 1 (.int .u64 0)).set_ 2 (.int .u64 0)
    have e0 := (hE.cell 0).trans (show _ = some (Value.bool false) by rfl)
    have e1 := (hE.cell 1).trans (show _ = some (Value.int .u64 0) by rfl)
    have e2 := (hE.cell 2).trans (show _ = some (Value.int .u64 0) by rfl)
    have hT : Tch w _ [] := HT1.out.trans_fre (((tch_c3 w1 (xb + 1) 0 1 2 (.bool false) (.int .u64 0) (.int .u64 0)))) (by simp; have := HXl.out; omega)
    have HTe := Lib.hid hT
    clear hE hT
    refine bodyPost_ret (v := .tuple #[.agg #[.bool false, .int .u64 0, .int .u64 0], .bool false]) (by simp [results, Try.results32, go_sem, e0, e1, e2]) rfl ⟨by rw [HE.out]; rfl, HTe.out⟩
end Go.Proofs.Ytabbclocgkhnhaa

namespace Go.Proofs.Ytabbclocgkhnhaa
open Go.RowKit
set_option linter.unusedVariables false

/-- What the second loop has found so far. -/
def pkI (s : Bool) (l : List Loc) (bo bo' : Option Nat) (k : Nat) : Prop := (bo' = bo ∧ (bo = none → nofI s l k)) ∨ (bo = none ∧ ∃ j, bo' = some j ∧ famI s l = j + 1)
set_option maxRecDepth 100000 in
set_option maxHeartbeats 4000000 in
theorem srcD_ok (t : Nat) (S : List Nat) (st : StI) (port : Int) (a : AdI) (ha : N64 a.2.1 ∧ N64 a.2.2) (hth : thereI st port = true) (hvl : vld a.1 (a.2.1 : Int) (a.2.2 : Int) = true) (w : World) (h : IfD w t S st) :
    Calls Try.prog 32 #[.pointer (some ⟨t, 0, none⟩), .int .i64 port, adV a] w fun e w' => e = .returned (srV (srcI st port a)) ∧ Tch w w' [] := by
  have HHld := Lib.hid (fun x hx W => holdsD x a hx ha W)
  have hU := h.inv.u64
  have hLc := h.inv.loc
  obtain ⟨s, ah, al⟩ := a
  obtain ⟨W0, hW0⟩ : ∃ W, (w.alloc (.cells #[.bool s, .int .u64 (ah : Int), .int .u64 (al : Int)] 34)).alloc (.cells #[.bool false, .int .u64 0, .int .u64 0] 34) = W := ⟨_, rfl⟩
  have hX : Blk W0 w.heap.size 34 #[.bool s, .int .u64 (ah : Int), .int .u64 (al : Int)] := hW0 ▸ (Blk.new w _ _).alloc _
  have hY : Blk W0 (w.heap.size + 1) 34 #[.bool false, .int .u64 0, .int .u64 0] := by rw [← hW0]; have := Blk.new (w.alloc (.cells #[.bool s, .int .u64 (ah : Int), .int .u64 (al : Int)] 34)) 34 #[.bool false, .int .u64 0, .int .u64 0]; rwa [World.size_alloc] at this
  have HT0 : Hid (Tch w W0 []) := Lib.hid (hW0 ▸ ((Tch.refl w []).alloc _).alloc _)
  obtain ⟨xb, hxb⟩ : ∃ xb, w.heap.size = xb := ⟨_, rfl⟩
  rw [hxb] at hX hY
  have x0 := (hX.cell 0).trans (show _ = some (Value.bool s) by rfl)
  have x1 := (hX.cell 1).trans (show _ = some (Value.int .u64 (ah : Int)) by rfl)
  have x2 := (hX.cell 2).trans (show _ = some (Value.int .u64 (al : Int)) by rfl)
  have HX := Lib.hid hX
  have HY := Lib.hid hY
  have HV := Lib.hid (rvalid_at s (ah : Int) (al : Int) W0 hvl)
  have hD0 := h.tch HT0.out (by simp)
  have HD0 := Lib.hid hD0
  have HTh := Lib.hid (fun W hW => there_any t S st port W hW)
  rw [hth] at HTh
  have HW0 := Lib.hid hW0
  have HXB := Lib.hid hxb
  obtain ⟨gL, cL, A, c, n, i, l, q1, q2, q3, q4, q5, q6, q7, q8, q9, q10, q11, q12, -⟩ := hD0.row hth
  have HSr : Hid (srcI st port (s, ah, al) = (pickI (s, ah, al) l).bind fun k => (l[k]?).map (·.1)) := Lib.hid (by unfold srcI; rw [if_neg (by rw [hth, hvl]; simp), q7])
  have HU := Lib.hid (hU l (List.mem_of_getElem? q8))
  have hl8 := hLc l (List.mem_of_getElem? q8)
  obtain ⟨m, hm⟩ : ∃ m, l.length = m := ⟨_, rfl⟩
  have HM := Lib.hid hm
  rw [hm] at q2 q3 hl8
  have i0 : (0 : Int) ≤ (i : Int) := by omega
  have i1 : (i : Int) < (n : Int) := by omega
  have HRd : Hid (∀ W, Tch W0 W [] → W.cell? ⟨t, 1, none⟩ = some (.slice (some ⟨gL, 0, none⟩) n cL) ∧ W.cell? ⟨gL, i, none⟩ = some (.slice A m c) ∧ W.ownsRow 0 42 4 (.slice A m c) m (l.flatMap lcC) ∧ Blk W xb 34 #[.bool s, .int .u64 (ah : Int), .int .u64 (al : Int)] ∧ Blk W (xb + 1) 34 #[.bool false, .int .u64 0, .int .u64 0]) := Lib.hid (fun W hT =>
      ⟨(hT.cell (p := ⟨t, 1, none⟩) q11 (by simp)).trans q1, (hT.cell (p := ⟨gL, i, none⟩) q12 (by simp)).trans q2, own_tch q3 hT (by simp), hT.blk HX.out (by simp), hT.blk HY.out (by simp)⟩)
  clear hX hY hW0 hxb h hth hvl hU hLc hD0 q1 q2 q3 q5 q6 q7 q8 q9 q10 q11 q12 hm ha
  go_enter Try.func32, Try.ntmps32
  go_wp2_with fail
  rw [HXB.out, HW0.out]
  refine Calls.mono HV.out ?_
  rintro e w1 ⟨rfl, hb1⟩
  have hT1 := Tch.of_below [] hb1
  have HT1 := Lib.hid hT1
  have HTh1 := Lib.hid (HTh.out w1 (HD0.out.tch hT1 (by simp)))
  obtain ⟨y1, y2, -, -, -⟩ := HRd.out w1 hT1
  clear hb1 hT1 x0 x1 x2
  go_wp2_with (go_at_call 54; refine Calls.mono HTh1.out ?_; rintro e w' ⟨rfl, rfl⟩)
  go_loopw [10, 11] (fun bv kv wr => ∃ (k : Nat) (bo : Option Nat), bv = .int .i64 (bvI bo) ∧ kv = .int .i64 (k : Int) ∧ k ≤ m ∧ Hid (bestT (s, ah, al) l k = bo) ∧ Hid (Tch W0 wr [])) (fun _ kv _ => m - (intOf kv).toNat)
  case atStart => exact ⟨0, none, rfl, rfl, Nat.zero_le _, Lib.hid rfl, HT1⟩
  case round =>
    obtain ⟨k, bo, rfl, rfl, hk, hbo, hT⟩ := hrel
    have k1 : IntKind.i64.wrap ((k : Int) + 1) = (k : Int) + 1 := by rw [IntKind.wrap_i64]; omega
    clear y1 y2
    by_cases hkm : k < m
    · have kI : (k : Int) < (m : Int) := by omega
      have k0 : (0 : Int) ≤ (k : Int) := by omega
      obtain ⟨x, hx⟩ : ∃ x, l[k]? = some x := ⟨_, List.getElem?_eq_getElem (by rw [HM.out]; exact hkm)⟩
      obtain ⟨d1, d2, d3, d4, d5⟩ := HRd.out wr hT.out
      obtain ⟨gx, rfl⟩ := slice_some d3 (by omega)
      have hux := HU.out x (List.mem_of_getElem? hx)
      obtain ⟨b, hb⟩ : ∃ b, hldI (s, ah, al) x = b := ⟨_, rfl⟩
      have HB := Lib.hid hb
      have HHx := Lib.hid (HHld.out x hux)
      rw [hb] at HHx
      have Hx := Lib.hid hx
      obtain ⟨⟨xs, xh, xl⟩, xbt⟩ := x
      have HCx : Hid (∀ W, Tch W0 W [] → W.cell? ⟨gx, k * 4, none⟩ = some (Value.bool xs) ∧ W.cell? ⟨gx, k * 4 + 1, none⟩ = some (Value.int .u64 (xh : Int)) ∧ W.cell? ⟨gx, k * 4 + 2, none⟩ = some (Value.int .u64 (xl : Int)) ∧ W.cell? ⟨gx, k * 4 + 3, none⟩ = some (Value.int .i64 xbt) ∧ W.cell? ⟨xb, 0, none⟩ = some (Value.bool s) ∧ W.cell? ⟨xb, 1, none⟩ = some (Value.int .u64 (ah : Int)) ∧ W.cell? ⟨xb, 2, none⟩ = some (Value.int .u64 (al : Int))) := Lib.hid (fun W hTW => by
        obtain ⟨-, -, e3, e4, -⟩ := HRd.out W hTW
        exact ⟨own_cellN e3 ((flat4_at (f := lcC) (fun _ => rfl) Hx.out (k := 0) (by decide)).trans rfl), own_cellN e3 ((flat4_at (f := lcC) (fun _ => rfl) Hx.out (k := 1) (by decide)).trans rfl), own_cellN e3 ((flat4_at (f := lcC) (fun _ => rfl) Hx.out (k := 2) (by decide)).trans rfl), own_cellN e3 ((flat4_at (f := lcC) (fun _ => rfl) Hx.out (k := 3) (by decide)).trans rfl), (e4.cell 0).trans rfl, (e4.cell 1).trans rfl, (e4.cell 2).trans rfl⟩)
      have HR0 := Lib.hid hT.out.drew
      clear hx hb hux d1 d2 d3 d4 d5
      have hTT : Hid (Tch W0 wr.drew []) := HR0
      cases b with
      | false =>
        have HN : Hid (bestT (s, ah, al) l (k + 1) = bo) := Lib.hid (by rw [bestT_no Hx.out HB.out, hbo.out])
        go_wp2
        refine wp_region_held_drew (S := (fun W => Tch W0 W [] ∧ W.cell? ⟨gx, k * 4, none⟩ = some (Value.bool xs) ∧ W.cell? ⟨gx, k * 4 + 1, none⟩ = some (Value.int .u64 (xh : Int)) ∧ W.cell? ⟨gx, k * 4 + 2, none⟩ = some (Value.int .u64 (xl : Int)) ∧ W.cell? ⟨gx, k * 4 + 3, none⟩ = some (Value.int .i64 xbt) ∧ W.cell? ⟨xb, 0, none⟩ = some (Value.bool s) ∧ W.cell? ⟨xb, 1, none⟩ = some (Value.int .u64 (ah : Int)) ∧ W.cell? ⟨xb, 2, none⟩ = some (Value.int .u64 (al : Int)))) (by kernel_rfl) ?_ (fun hHeld => ?_)
        · (exact ⟨hTT.out, HCx.out _ hTT.out⟩)
        refine wpAnyH_take (i := 0) (oi := { dst := some 38, op := Go.Op.move (Go.Operand.tmp 9), type := 39, pos := "ref.go:165", after := #[], guard := none }) (v := ?_) rfl (by kernel_rfl) (by kernel_rfl) (by kernel_rfl) (fun _ _ _ h => h) (Or.inl ⟨by rfl, ?_⟩) (by assumption) ?_
        rotate_left
        · intro w hSw
          (try dsimp only at hSw)
          go_simp
          try (with_reducible rfl)
        try simp only [Act.put, List.setIfInBounds_toArray, List.set_cons_zero, List.set_cons_succ]
        refine wpAnyH_take (i := 1) (oi := { dst := some 39, op := Go.Op.move (Go.Operand.tmp 11), type := 3, pos := "ref.go:165", after := #[], guard := none }) (v := ?_) rfl (by kernel_rfl) (by kernel_rfl) (by kernel_rfl) (fun _ _ _ h => h) (Or.inl ⟨by rfl, ?_⟩) (by assumption) ?_
        rotate_left
        · intro w hSw
          (try dsimp only at hSw)
          go_simp
          try (with_reducible rfl)
        try simp only [Act.put, List.setIfInBounds_toArray, List.set_cons_zero, List.set_cons_succ]
        refine wpAnyH_take (i := 2) (oi := { dst := some 40, op := Go.Op.indexAddr 39 (Go.Operand.tmp 38) (Go.Operand.tmp 39), type := 0, pos := "ref.go:165", after := #[{ on := 0, ground := Go.Ground.data }, { on := 1, ground := Go.Ground.data }], guard := none }) (v := ?_) rfl (by kernel_rfl) (by kernel_rfl) (by kernel_rfl) (fun _ _ _ h => h) (Or.inl ⟨by rfl, ?_⟩) (by assumption) ?_
        rotate_left
        · intro w hSw
          (try dsimp only at hSw)
          go_simp
          try (with_reducible rfl)
        try simp only [Act.put, List.setIfInBounds_toArray, List.set_cons_zero, List.set_cons_succ]
        refine wpAnyH_take (i := 3) (oi := { dst := some 41, op := Go.Op.load 42 (Go.Operand.tmp 40), type := 42, pos := "ref.go:165", after := #[{ on := 2, ground := Go.Ground.data }], guard := none }) (v := ?_) rfl (by kernel_rfl) (by kernel_rfl) (by kernel_rfl) (fun _ _ _ h => h) (Or.inl ⟨by rfl, ?_⟩) (by assumption) ?_
        rotate_left
        · intro w hSw
          (try dsimp only at hSw)
          go_simp
          try (with_reducible rfl)
        try simp only [Act.put, List.setIfInBounds_toArray, List.set_cons_zero, List.set_cons_succ]
        refine wpAnyH_take (i := 4) (oi := { dst := some 42, op := Go.Op.load 34 (Go.Operand.tmp 5), type := 34, pos := "ref.go:165", after := #[], guard := none }) (v := ?_) rfl (by kernel_rfl) (by kernel_rfl) (by kernel_rfl) (fun _ _ _ h => h) (Or.inl ⟨by rfl, ?_⟩) (by assumption) ?_
        rotate_left
        · intro w hSw
          (try dsimp only at hSw)
          go_simp
          try (with_reducible rfl)
        try simp only [Act.put, List.setIfInBounds_toArray, List.set_cons_zero, List.set_cons_succ]
        refine wpAnyH_ready (rs := [5]) (by kernel_rfl) (by simp) ?_
        refine AllReadyH.cons (o := { dst := some 43, op := Go.Op.call { callee := Go.Callee.value (Go.Operand.func 58), args := #[Go.Operand.tmp 41, Go.Operand.tmp 42], argTypes := #[42, 34] }, type := 4, pos := "ref.go:165", after := #[{ on := 3, ground := Go.Ground.data }, { on := 4, ground := Go.Ground.data }], guard := none }) rfl (fun K hK => ?_) AllReadyH.nil
        go_simp
        (go_at_call 58; (with_reducible refine Calls.mono (HHx.out _) ?_); rintro e W' ⟨rfl, ht⟩; replace hTT := Lib.hid (hTT.out.trans ht); clear ht)
        go_wp2_with fail
        refine hK.out _ _ ?_ (fun hHeld => ?_)
        · (exact ⟨hTT.out, HCx.out _ hTT.out⟩)
        clear hK K
        try simp only [Act.put, List.setIfInBounds_toArray, List.set_cons_zero, List.set_cons_succ]
        refine wpAnyH_take (i := 6) (oi := { dst := some 44, op := Go.Op.move (Go.Operand.tmp 43), type := 4, pos := "ref.go:165", after := #[{ on := 5, ground := Go.Ground.data }, { on := 5, ground := Go.Ground.chain }], guard := none }) (v := ?_) rfl (by kernel_rfl) (by kernel_rfl) (by kernel_rfl) (fun _ _ _ h => h) (Or.inl ⟨by rfl, ?_⟩) (by assumption) ?_
        rotate_left
        · intro w hSw
          (try dsimp only at hSw)
          go_simp
          try (with_reducible rfl)
        try simp only [Act.put, List.setIfInBounds_toArray, List.set_cons_zero, List.set_cons_succ]
        refine wpAnyH_take (i := 7) (oi := { dst := some 45, op := Go.Op.move (Go.Operand.tmp 10), type := 3, pos := "ref.go:165", after := #[{ on := 6, ground := Go.Ground.guard }], guard := some (6, true) }) (v := undef) rfl (by kernel_rfl) (by kernel_rfl) (by kernel_rfl) (fun _ _ _ h => h) (Or.inr ⟨by rfl, rfl⟩) (by assumption) ?_
        try simp only [Act.put, List.setIfInBounds_toArray, List.set_cons_zero, List.set_cons_succ]
        refine wpAnyH_take (i := 8) (oi := { dst := some 46, op := Go.Op.binOp Go.BinOp.lss 3 (Go.Operand.tmp 45) (Go.Operand.const (Go.Value.int Go.IntKind.i64 0)) 3, type := 4, pos := "ref.go:165", after := #[{ on := 7, ground := Go.Ground.data }, { on := 6, ground := Go.Ground.guard }], guard := some (6, true) }) (v := undef) rfl (by kernel_rfl) (by kernel_rfl) (by kernel_rfl) (fun _ _ _ h => h) (Or.inr ⟨by rfl, rfl⟩) (by assumption) ?_
        try simp only [Act.put, List.setIfInBounds_toArray, List.set_cons_zero, List.set_cons_succ]
        refine wpAnyH_take (i := 9) (oi := { dst := some 47, op := Go.Op.move (Go.Operand.tmp 46), type := 4, pos := "ref.go:165", after := #[{ on := 8, ground := Go.Ground.data }, { on := 6, ground := Go.Ground.chain }, { on := 6, ground := Go.Ground.guard }], guard := some (6, true) }) (v := undef) rfl (by kernel_rfl) (by kernel_rfl) (by kernel_rfl) (fun _ _ _ h => h) (Or.inr ⟨by rfl, rfl⟩) (by assumption) ?_
        try simp only [Act.put, List.setIfInBounds_toArray, List.set_cons_zero, List.set_cons_succ]
        refine wpAnyH_take (i := 10) (oi := { dst := some 48, op := Go.Op.move (Go.Operand.tmp 9), type := 39, pos := "ref.go:165", after := #[{ on := 9, ground := Go.Ground.guard }], guard := some (9, false) }) (v := undef) rfl (by kernel_rfl) (by kernel_rfl) (by kernel_rfl) (fun _ _ _ h => h) (Or.inr ⟨by rfl, rfl⟩) (by assumption) ?_
        try simp only [Act.put, List.setIfInBounds_toArray, List.set_cons_zero, List.set_cons_succ]
        refine wpAnyH_take (i := 11) (oi := { dst := some 49, op := Go.Op.move (Go.Operand.tmp 11), type := 3, pos := "ref.go:165", after := #[{ on := 9, ground := Go.Ground.guard }], guard := some (9, false) }) (v := undef) rfl (by kernel_rfl) (by kernel_rfl) (by kernel_rfl) (fun _ _ _ h => h) (Or.inr ⟨by rfl, rfl⟩) (by assumption) ?_
        try simp only [Act.put, List.setIfInBounds_toArray, List.set_cons_zero, List.set_cons_succ]
        refine wpAnyH_take (i := 12) (oi := { dst := some 50, op := Go.Op.indexAddr 39 (Go.Operand.tmp 48) (Go.Operand.tmp 49), type := 0, pos := "ref.go:165", after := #[{ on := 10, ground := Go.Ground.data }, { on := 11, ground := Go.Ground.data }, { on := 9, ground := Go.Ground.guard }], guard := some (9, false) }) (v := undef) rfl (by kernel_rfl) (by kernel_rfl) (by kernel_rfl) (fun _ _ _ h => h) (Or.inr ⟨by rfl, rfl⟩) (by assumption) ?_
        try simp only [Act.put, List.setIfInBounds_toArray, List.set_cons_zero, List.set_cons_succ]
        refine wpAnyH_take (i := 13) (oi := { dst := some 51, op := Go.Op.fieldAddr 42 (Go.Operand.tmp 50) 1, type := 0, pos := "ref.go:165", after := #[{ on := 12, ground := Go.Ground.data }, { on := 9, ground := Go.Ground.guard }], guard := some (9, false) }) (v := undef) rfl (by kernel_rfl) (by kernel_rfl) (by kernel_rfl) (fun _ _ _ h => h) (Or.inr ⟨by rfl, rfl⟩) (by assumption) ?_
        try simp only [Act.put, List.setIfInBounds_toArray, List.set_cons_zero, List.set_cons_succ]
        refine wpAnyH_take (i := 14) (oi := { dst := some 52, op := Go.Op.load 3 (Go.Operand.tmp 51), type := 3, pos := "ref.go:165", after := #[{ on := 13, ground := Go.Ground.data }, { on := 9, ground := Go.Ground.guard }], guard := some (9, false) }) (v := undef) rfl (by kernel_rfl) (by kernel_rfl) (by kernel_rfl) (fun _ _ _ h => h) (Or.inr ⟨by rfl, rfl⟩) (by assumption) ?_
        try simp only [Act.put, List.setIfInBounds_toArray, List.set_cons_zero, List.set_cons_succ]
        refine wpAnyH_take (i := 15) (oi := { dst := some 53, op := Go.Op.move (Go.Operand.tmp 9), type := 39, pos := "ref.go:165", after := #[{ on := 9, ground := Go.Ground.guard }], guard := some (9, false) }) (v := undef) rfl (by kernel_rfl) (by kernel_rfl) (by kernel_rfl) (fun _ _ _ h => h) (Or.inr ⟨by rfl, rfl⟩) (by assumption) ?_
        try simp only [Act.put, List.setIfInBounds_toArray, List.set_cons_zero, List.set_cons_succ]
        refine wpAnyH_take (i := 16) (oi := { dst := some 54, op := Go.Op.move (Go.Operand.tmp 10), type := 3, pos := "ref.go:165", after := #[{ on := 9, ground := Go.Ground.guard }], guard := some (9, false) }) (v := undef) rfl (by kernel_rfl) (by kernel_rfl) (by kernel_rfl) (fun _ _ _ h => h) (Or.inr ⟨by rfl, rfl⟩) (by assumption) ?_
        try simp only [Act.put, List.setIfInBounds_toArray, List.set_cons_zero, List.set_cons_succ]
        refine wpAnyH_take (i := 17) (oi := { dst := some 55, op := Go.Op.indexAddr 39 (Go.Operand.tmp 53) (Go.Operand.tmp 54), type := 0, pos := "ref.go:165", after := #[{ on := 15, ground := Go.Ground.data }, { on := 16, ground := Go.Ground.data }, { on := 9, ground := Go.Ground.guard }], guard := some (9, false) }) (v := undef) rfl (by kernel_rfl) (by kernel_rfl) (by kernel_rfl) (fun _ _ _ h => h) (Or.inr ⟨by rfl, rfl⟩) (by assumption) ?_
        try simp only [Act.put, List.setIfInBounds_toArray, List.set_cons_zero, List.set_cons_succ]
        refine wpAnyH_take (i := 18) (oi := { dst := some 56, op := Go.Op.fieldAddr 42 (Go.Operand.tmp 55) 1, type := 0, pos := "ref.go:165", after := #[{ on := 17, ground := Go.Ground.data }, { on := 9, ground := Go.Ground.guard }], guard := some (9, false) }) (v := undef) rfl (by kernel_rfl) (by kernel_rfl) (by kernel_rfl) (fun _ _ _ h => h) (Or.inr ⟨by rfl, rfl⟩) (by assumption) ?_
        try simp only [Act.put, List.setIfInBounds_toArray, List.set_cons_zero, List.set_cons_succ]
        refine wpAnyH_take (i := 19) (oi := { dst := some 57, op := Go.Op.load 3 (Go.Operand.tmp 56), type := 3, pos := "ref.go:165", after := #[{ on := 18, ground := Go.Ground.data }, { on := 9, ground := Go.Ground.guard }], guard := some (9, false) }) (v := undef) rfl (by kernel_rfl) (by kernel_rfl) (by kernel_rfl) (fun _ _ _ h => h) (Or.inr ⟨by rfl, rfl⟩) (by assumption) ?_
        try simp only [Act.put, List.setIfInBounds_toArray, List.set_cons_zero, List.set_cons_succ]
        refine wpAnyH_take (i := 20) (oi := { dst := some 58, op := Go.Op.binOp Go.BinOp.gtr 3 (Go.Operand.tmp 52) (Go.Operand.tmp 57) 3, type := 4, pos := "ref.go:165", after := #[{ on := 14, ground := Go.Ground.data }, { on := 19, ground := Go.Ground.data }, { on := 9, ground := Go.Ground.guard }], guard := some (9, false) }) (v := undef) rfl (by kernel_rfl) (by kernel_rfl) (by kernel_rfl) (fun _ _ _ h => h) (Or.inr ⟨by rfl, rfl⟩) (by assumption) ?_
        try simp only [Act.put, List.setIfInBounds_toArray, List.set_cons_zero, List.set_cons_succ]
        refine wpAnyH_take (i := 21) (oi := { dst := some 59, op := Go.Op.pick (Go.Operand.tmp 47) (Go.Operand.const (Go.Value.bool true)) (Go.Operand.tmp 58), type := 4, pos := "ref.go:165", after := #[{ on := 9, ground := Go.Ground.data }, { on := 20, ground := Go.Ground.data }, { on := 6, ground := Go.Ground.guard }], guard := some (6, true) }) (v := undef) rfl (by kernel_rfl) (by kernel_rfl) (by kernel_rfl) (fun _ _ _ h => h) (Or.inr ⟨by rfl, rfl⟩) (by assumption) ?_
        try simp only [Act.put, List.setIfInBounds_toArray, List.set_cons_zero, List.set_cons_succ]
        refine wpAnyH_take (i := 22) (oi := { dst := some 60, op := Go.Op.pick (Go.Operand.tmp 44) (Go.Operand.tmp 59) (Go.Operand.const (Go.Value.bool false)), type := 4, pos := "ref.go:165", after := #[{ on := 6, ground := Go.Ground.data }, { on := 21, ground := Go.Ground.data }], guard := none }) (v := ?_) rfl (by kernel_rfl) (by kernel_rfl) (by kernel_rfl) (fun _ _ _ h => h) (Or.inl ⟨by rfl, ?_⟩) (by assumption) ?_
        rotate_left
        · intro w hSw
          (try dsimp only at hSw)
          go_simp
          try (with_reducible rfl)
        try simp only [Act.put, List.setIfInBounds_toArray, List.set_cons_zero, List.set_cons_succ]
        refine wpAnyH_done (by kernel_rfl) ?_ _
        go_wp2
        go_roundw
        case rel => exact ⟨k + 1, bo, rfl, by go_num, hkm, HN, hTT⟩
        case measure => simp [intOf]; omega
      | true =>
        cases bo with
        | none =>
          have HN : Hid (bestT (s, ah, al) l (k + 1) = some k) := Lib.hid (bestT_first Hx.out HB.out hbo.out)
          rw [show bvI none = -1 from rfl]
          go_wp2
          refine wp_region_held_drew (S := (fun W => Tch W0 W [] ∧ W.cell? ⟨gx, k * 4, none⟩ = some (Value.bool xs) ∧ W.cell? ⟨gx, k * 4 + 1, none⟩ = some (Value.int .u64 (xh : Int)) ∧ W.cell? ⟨gx, k * 4 + 2, none⟩ = some (Value.int .u64 (xl : Int)) ∧ W.cell? ⟨gx, k * 4 + 3, none⟩ = some (Value.int .i64 xbt) ∧ W.cell? ⟨xb, 0, none⟩ = some (Value.bool s) ∧ W.cell? ⟨xb, 1, none⟩ = some (Value.int .u64 (ah : Int)) ∧ W.cell? ⟨xb, 2, none⟩ = some (Value.int .u64 (al : Int)))) (by kernel_rfl) ?_ (fun hHeld => ?_)
          · (exact ⟨hTT.out, HCx.out _ hTT.out⟩)
          refine wpAnyH_take (i := 0) (oi := { dst := some 38, op := Go.Op.move (Go.Operand.tmp 9), type := 39, pos := "ref.go:165", after := #[], guard := none }) (v := ?_) rfl (by kernel_rfl) (by kernel_rfl) (by kernel_rfl) (fun _ _ _ h => h) (Or.inl ⟨by rfl, ?_⟩) (by assumption) ?_
          rotate_left
          · intro w hSw
            (try dsimp only at hSw)
            go_simp
            try (with_reducible rfl)
          try simp only [Act.put, List.setIfInBounds_toArray, List.set_cons_zero, List.set_cons_succ]
          refine wpAnyH_take (i := 1) (oi := { dst := some 39, op := Go.Op.move (Go.Operand.tmp 11), type := 3, pos := "ref.go:165", after := #[], guard := none }) (v := ?_) rfl (by kernel_rfl) (by kernel_rfl) (by kernel_rfl) (fun _ _ _ h => h) (Or.inl ⟨by rfl, ?_⟩) (by assumption) ?_
          rotate_left
          · intro w hSw
            (try dsimp only at hSw)
            go_simp
            try (with_reducible rfl)
          try simp only [Act.put, List.setIfInBounds_toArray, List.set_cons_zero, List.set_cons_succ]
          refine wpAnyH_take (i := 2) (oi := { dst := some 40, op := Go.Op.indexAddr 39 (Go.Operand.tmp 38) (Go.Operand.tmp 39), type := 0, pos := "ref.go:165", after := #[{ on := 0, ground := Go.Ground.data }, { on := 1, ground := Go.Ground.data }], guard := none }) (v := ?_) rfl (by kernel_rfl) (by kernel_rfl) (by kernel_rfl) (fun _ _ _ h => h) (Or.inl ⟨by rfl, ?_⟩) (by assumption) ?_
          rotate_left
          · intro w hSw
            (try dsimp only at hSw)
            go_simp
            try (with_reducible rfl)
          try simp only [Act.put, List.setIfInBounds_toArray, List.set_cons_zero, List.set_cons_succ]
          refine wpAnyH_take (i := 3) (oi := { dst := some 41, op := Go.Op.load 42 (Go.Operand.tmp 40), type := 42, pos := "ref.go:165", after := #[{ on := 2, ground := Go.Ground.data }], guard := none }) (v := ?_) rfl (by kernel_rfl) (by kernel_rfl) (by kernel_rfl) (fun _ _ _ h => h) (Or.inl ⟨by rfl, ?_⟩) (by assumption) ?_
          rotate_left
          · intro w hSw
            (try dsimp only at hSw)
            go_simp
            try (with_reducible rfl)
          try simp only [Act.put, List.setIfInBounds_toArray, List.set_cons_zero, List.set_cons_succ]
          refine wpAnyH_take (i := 4) (oi := { dst := some 42, op := Go.Op.load 34 (Go.Operand.tmp 5), type := 34, pos := "ref.go:165", after := #[], guard := none }) (v := ?_) rfl (by kernel_rfl) (by kernel_rfl) (by kernel_rfl) (fun _ _ _ h => h) (Or.inl ⟨by rfl, ?_⟩) (by assumption) ?_
          rotate_left
          · intro w hSw
            (try dsimp only at hSw)
            go_simp
            try (with_reducible rfl)
          try simp only [Act.put, List.setIfInBounds_toArray, List.set_cons_zero, List.set_cons_succ]
          refine wpAnyH_ready (rs := [5]) (by kernel_rfl) (by simp) ?_
          refine AllReadyH.cons (o := { dst := some 43, op := Go.Op.call { callee := Go.Callee.value (Go.Operand.func 58), args := #[Go.Operand.tmp 41, Go.Operand.tmp 42], argTypes := #[42, 34] }, type := 4, pos := "ref.go:165", after := #[{ on := 3, ground := Go.Ground.data }, { on := 4, ground := Go.Ground.data }], guard := none }) rfl (fun K hK => ?_) AllReadyH.nil
          go_simp
          (go_at_call 58; (with_reducible refine Calls.mono (HHx.out _) ?_); rintro e W' ⟨rfl, ht⟩; replace hTT := Lib.hid (hTT.out.trans ht); clear ht)
          go_wp2_with fail
          refine hK.out _ _ ?_ (fun hHeld => ?_)
          · (exact ⟨hTT.out, HCx.out _ hTT.out⟩)
          clear hK K
          try simp only [Act.put, List.setIfInBounds_toArray, List.set_cons_zero, List.set_cons_succ]
          refine wpAnyH_take (i := 6) (oi := { dst := some 44, op := Go.Op.move (Go.Operand.tmp 43), type := 4, pos := "ref.go:165", after := #[{ on := 5, ground := Go.Ground.data }, { on := 5, ground := Go.Ground.chain }], guard := none }) (v := ?_) rfl (by kernel_rfl) (by kernel_rfl) (by kernel_rfl) (fun _ _ _ h => h) (Or.inl ⟨by rfl, ?_⟩) (by assumption) ?_
          rotate_left
          · intro w hSw
            (try dsimp only at hSw)
            go_simp
            try (with_reducible rfl)
          try simp only [Act.put, List.setIfInBounds_toArray, List.set_cons_zero, List.set_cons_succ]
          refine wpAnyH_take (i := 7) (oi := { dst := some 45, op := Go.Op.move (Go.Operand.tmp 10), type := 3, pos := "ref.go:165", after := #[{ on := 6, ground := Go.Ground.guard }], guard := some (6, true) }) (v := ?_) rfl (by kernel_rfl) (by kernel_rfl) (by kernel_rfl) (fun _ _ _ h => h) (Or.inl ⟨by rfl, ?_⟩) (by assumption) ?_
          rotate_left
          · intro w hSw
            (try dsimp only at hSw)
            go_simp
            try (with_reducible rfl)
          try simp only [Act.put, List.setIfInBounds_toArray, List.set_cons_zero, List.set_cons_succ]
          refine wpAnyH_take (i := 8) (oi := { dst := some 46, op := Go.Op.binOp Go.BinOp.lss 3 (Go.Operand.tmp 45) (Go.Operand.const (Go.Value.int Go.IntKind.i64 0)) 3, type := 4, pos := "ref.go:165", after := #[{ on := 7, ground := Go.Ground.data }, { on := 6, ground := Go.Ground.guard }], guard := some (6, true) }) (v := ?_) rfl (by kernel_rfl) (by kernel_rfl) (by kernel_rfl) (fun _ _ _ h => h) (Or.inl ⟨by rfl, ?_⟩) (by assumption) ?_
          rotate_left
          · intro w hSw
            (try dsimp only at hSw)
            go_simp
            try (with_reducible rfl)
          try simp only [Act.put, List.setIfInBounds_toArray, List.set_cons_zero, List.set_cons_succ]
          refine wpAnyH_take (i := 9) (oi := { dst := some 47, op := Go.Op.move (Go.Operand.tmp 46), type := 4, pos := "ref.go:165", after := #[{ on := 8, ground := Go.Ground.data }, { on := 6, ground := Go.Ground.chain }, { on := 6, ground := Go.Ground.guard }], guard := some (6, true) }) (v := ?_) rfl (by kernel_rfl) (by kernel_rfl) (by kernel_rfl) (fun _ _ _ h => h) (Or.inl ⟨by rfl, ?_⟩) (by assumption) ?_
          rotate_left
          · intro w hSw
            (try dsimp only at hSw)
            go_simp
            try (with_reducible rfl)
          try simp only [Act.put, List.setIfInBounds_toArray, List.set_cons_zero, List.set_cons_succ]
          refine wpAnyH_take (i := 10) (oi := { dst := some 48, op := Go.Op.move (Go.Operand.tmp 9), type := 39, pos := "ref.go:165", after := #[{ on := 9, ground := Go.Ground.guard }], guard := some (9, false) }) (v := undef) rfl (by kernel_rfl) (by kernel_rfl) (by kernel_rfl) (fun _ _ _ h => h) (Or.inr ⟨by rfl, rfl⟩) (by assumption) ?_
          try simp only [Act.put, List.setIfInBounds_toArray, List.set_cons_zero, List.set_cons_succ]
          refine wpAnyH_take (i := 11) (oi := { dst := some 49, op := Go.Op.move (Go.Operand.tmp 11), type := 3, pos := "ref.go:165", after := #[{ on := 9, ground := Go.Ground.guard }], guard := some (9, false) }) (v := undef) rfl (by kernel_rfl) (by kernel_rfl) (by kernel_rfl) (fun _ _ _ h => h) (Or.inr ⟨by rfl, rfl⟩) (by assumption) ?_
          try simp only [Act.put, List.setIfInBounds_toArray, List.set_cons_zero, List.set_cons_succ]
          refine wpAnyH_take (i := 12) (oi := { dst := some 50, op := Go.Op.indexAddr 39 (Go.Operand.tmp 48) (Go.Operand.tmp 49), type := 0, pos := "ref.go:165", after := #[{ on := 10, ground := Go.Ground.data }, { on := 11, ground := Go.Ground.data }, { on := 9, ground := Go.Ground.guard }], guard := some (9, false) }) (v := undef) rfl (by kernel_rfl) (by kernel_rfl) (by kernel_rfl) (fun _ _ _ h => h) (Or.inr ⟨by rfl, rfl⟩) (by assumption) ?_
          try simp only [Act.put, List.setIfInBounds_toArray, List.set_cons_zero, List.set_cons_succ]
          refine wpAnyH_take (i := 13) (oi := { dst := some 51, op := Go.Op.fieldAddr 42 (Go.Operand.tmp 50) 1, type := 0, pos := "ref.go:165", after := #[{ on := 12, ground := Go.Ground.data }, { on := 9, ground := Go.Ground.guard }], guard := some (9, false) }) (v := undef) rfl (by kernel_rfl) (by kernel_rfl) (by kernel_rfl) (fun _ _ _ h => h) (Or.inr ⟨by rfl, rfl⟩) (by assumption) ?_
          try simp only [Act.put, List.setIfInBounds_toArray, List.set_cons_zero, List.set_cons_succ]
          refine wpAnyH_take (i := 14) (oi := { dst := some 52, op := Go.Op.load 3 (Go.Operand.tmp 51), type := 3, pos := "ref.go:165", after := #[{ on := 13, ground := Go.Ground.data }, { on := 9, ground := Go.Ground.guard }], guard := some (9, false) }) (v := undef) rfl (by kernel_rfl) (by kernel_rfl) (by kernel_rfl) (fun _ _ _ h => h) (Or.inr ⟨by rfl, rfl⟩) (by assumption) ?_
          try simp only [Act.put, List.setIfInBounds_toArray, List.set_cons_zero, List.set_cons_succ]
          refine wpAnyH_take (i := 15) (oi := { dst := some 53, op := Go.Op.move (Go.Operand.tmp 9), type := 39, pos := "ref.go:165", after := #[{ on := 9, ground := Go.Ground.guard }], guard := some (9, false) }) (v := undef) rfl (by kernel_rfl) (by kernel_rfl) (by kernel_rfl) (fun _ _ _ h => h) (Or.inr ⟨by rfl, rfl⟩) (by assumption) ?_
          try simp only [Act.put, List.setIfInBounds_toArray, List.set_cons_zero, List.set_cons_succ]
          refine wpAnyH_take (i := 16) (oi := { dst := some 54, op := Go.Op.move (Go.Operand.tmp 10), type := 3, pos := "ref.go:165", after := #[{ on := 9, ground := Go.Ground.guard }], guard := some (9, false) }) (v := undef) rfl (by kernel_rfl) (by kernel_rfl) (by kernel_rfl) (fun _ _ _ h => h) (Or.inr ⟨by rfl, rfl⟩) (by assumption) ?_
          try simp only [Act.put, List.setIfInBounds_toArray, List.set_cons_zero, List.set_cons_succ]
          refine wpAnyH_take (i := 17) (oi := { dst := some 55, op := Go.Op.indexAddr 39 (Go.Operand.tmp 53) (Go.Operand.tmp 54), type := 0, pos := "ref.go:165", after := #[{ on := 15, ground := Go.Ground.data }, { on := 16, ground := Go.Ground.data }, { on := 9, ground := Go.Ground.guard }], guard := some (9, false) }) (v := undef) rfl (by kernel_rfl) (by kernel_rfl) (by kernel_rfl) (fun _ _ _ h => h) (Or.inr ⟨by rfl, rfl⟩) (by assumption) ?_
          try simp only [Act.put, List.setIfInBounds_toArray, List.set_cons_zero, List.set_cons_succ]
          refine wpAnyH_take (i := 18) (oi := { dst := some 56, op := Go.Op.fieldAddr 42 (Go.Operand.tmp 55) 1, type := 0, pos := "ref.go:165", after := #[{ on := 17, ground := Go.Ground.data }, { on := 9, ground := Go.Ground.guard }], guard := some (9, false) }) (v := undef) rfl (by kernel_rfl) (by kernel_rfl) (by kernel_rfl) (fun _ _ _ h => h) (Or.inr ⟨by rfl, rfl⟩) (by assumption) ?_
          try simp only [Act.put, List.setIfInBounds_toArray, List.set_cons_zero, List.set_cons_succ]
          refine wpAnyH_take (i := 19) (oi := { dst := some 57, op := Go.Op.load 3 (Go.Operand.tmp 56), type := 3, pos := "ref.go:165", after := #[{ on := 18, ground := Go.Ground.data }, { on := 9, ground := Go.Ground.guard }], guard := some (9, false) }) (v := undef) rfl (by kernel_rfl) (by kernel_rfl) (by kernel_rfl) (fun _ _ _ h => h) (Or.inr ⟨by rfl, rfl⟩) (by assumption) ?_
          try simp only [Act.put, List.setIfInBounds_toArray, List.set_cons_zero, List.set_cons_succ]
          refine wpAnyH_take (i := 20) (oi := { dst := some 58, op := Go.Op.binOp Go.BinOp.gtr 3 (Go.Operand.tmp 52) (Go.Operand.tmp 57) 3, type := 4, pos := "ref.go:165", after := #[{ on := 14, ground := Go.Ground.data }, { on := 19, ground := Go.Ground.data }, { on := 9, ground := Go.Ground.guard }], guard := some (9, false) }) (v := undef) rfl (by kernel_rfl) (by kernel_rfl) (by kernel_rfl) (fun _ _ _ h => h) (Or.inr ⟨by rfl, rfl⟩) (by assumption) ?_
          try simp only [Act.put, List.setIfInBounds_toArray, List.set_cons_zero, List.set_cons_succ]
          refine wpAnyH_take (i := 21) (oi := { dst := some 59, op := Go.Op.pick (Go.Operand.tmp 47) (Go.Operand.const (Go.Value.bool true)) (Go.Operand.tmp 58), type := 4, pos := "ref.go:165", after := #[{ on := 9, ground := Go.Ground.data }, { on := 20, ground := Go.Ground.data }, { on := 6, ground := Go.Ground.guard }], guard := some (6, true) }) (v := ?_) rfl (by kernel_rfl) (by kernel_rfl) (by kernel_rfl) (fun _ _ _ h => h) (Or.inl ⟨by rfl, ?_⟩) (by assumption) ?_
          rotate_left
          · intro w hSw
            (try dsimp only at hSw)
            go_simp
            try (with_reducible rfl)
          try simp only [Act.put, List.setIfInBounds_toArray, List.set_cons_zero, List.set_cons_succ]
          refine wpAnyH_take (i := 22) (oi := { dst := some 60, op := Go.Op.pick (Go.Operand.tmp 44) (Go.Operand.tmp 59) (Go.Operand.const (Go.Value.bool false)), type := 4, pos := "ref.go:165", after := #[{ on := 6, ground := Go.Ground.data }, { on := 21, ground := Go.Ground.data }], guard := none }) (v := ?_) rfl (by kernel_rfl) (by kernel_rfl) (by kernel_rfl) (fun _ _ _ h => h) (Or.inl ⟨by rfl, ?_⟩) (by assumption) ?_
          rotate_left
          · intro w hSw
            (try dsimp only at hSw)
            go_simp
            try (with_reducible rfl)
          try simp only [Act.put, List.setIfInBounds_toArray, List.set_cons_zero, List.set_cons_succ]
          refine wpAnyH_done (by kernel_rfl) ?_ _
          go_wp2
          go_roundw
          case rel => exact ⟨k + 1, some k, rfl, by go_num, hkm, HN, hTT⟩
          case measure => simp [intOf]; omega
        | some j =>
          obtain ⟨hjk, y, hy, -⟩ := bestT_some hbo.out
          have Hy := Lib.hid hy
          obtain ⟨ya, ybt⟩ := y
          have HCy : Hid (∀ W, Tch W0 W [] → W.cell? ⟨gx, j * 4 + 3, none⟩ = some (Value.int .i64 ybt)) := Lib.hid (fun W hTW => by
            obtain ⟨-, -, e3, e4, -⟩ := HRd.out W hTW
            exact own_cellN e3 ((flat4_at (f := lcC) (fun _ => rfl) Hy.out (k := 3) (by decide)).trans rfl))
          have jI : (j : Int) < (m : Int) := by omega
          have j0 : (0 : Int) ≤ (j : Int) := by omega
          have jn : ¬ (j : Int) < 0 := by omega
          rw [show bvI (some j) = (j : Int) from rfl]
          clear hy hjk
          by_cases hyb : ybt < xbt
          · have HN : Hid (bestT (s, ah, al) l (k + 1) = some k) := Lib.hid (bestT_more Hx.out HB.out hbo.out Hy.out hyb)
            go_wp2
            refine wp_region_held_drew (S := (fun W => Tch W0 W [] ∧ W.cell? ⟨gx, j * 4 + 3, none⟩ = some (Value.int .i64 ybt) ∧ W.cell? ⟨gx, k * 4, none⟩ = some (Value.bool xs) ∧ W.cell? ⟨gx, k * 4 + 1, none⟩ = some (Value.int .u64 (xh : Int)) ∧ W.cell? ⟨gx, k * 4 + 2, none⟩ = some (Value.int .u64 (xl : Int)) ∧ W.cell? ⟨gx, k * 4 + 3, none⟩ = some (Value.int .i64 xbt) ∧ W.cell? ⟨xb, 0, none⟩ = some (Value.bool s) ∧ W.cell? ⟨xb, 1, none⟩ = some (Value.int .u64 (ah : Int)) ∧ W.cell? ⟨xb, 2, none⟩ = some (Value.int .u64 (al : Int)))) (by kernel_rfl) ?_ (fun hHeld => ?_)
            · (exact ⟨hTT.out, HCy.out _ hTT.out, HCx.out _ hTT.out⟩)
            refine wpAnyH_take (i := 0) (oi := { dst := some 38, op := Go.Op.move (Go.Operand.tmp 9), type := 39, pos := "ref.go:165", after := #[], guard := none }) (v := ?_) rfl (by kernel_rfl) (by kernel_rfl) (by kernel_rfl) (fun _ _ _ h => h) (Or.inl ⟨by rfl, ?_⟩) (by assumption) ?_
            rotate_left
            · intro w hSw
              (try dsimp only at hSw)
              go_simp
              try (with_reducible rfl)
            try simp only [Act.put, List.setIfInBounds_toArray, List.set_cons_zero, List.set_cons_succ]
            refine wpAnyH_take (i := 1) (oi := { dst := some 39, op := Go.Op.move (Go.Operand.tmp 11), type := 3, pos := "ref.go:165", after := #[], guard := none }) (v := ?_) rfl (by kernel_rfl) (by kernel_rfl) (by kernel_rfl) (fun _ _ _ h => h) (Or.inl ⟨by rfl, ?_⟩) (by assumption) ?_
            rotate_left
            · intro w hSw
              (try dsimp only at hSw)
              go_simp
              try (with_reducible rfl)
            try simp only [Act.put, List.setIfInBounds_toArray, List.set_cons_zero, List.set_cons_succ]
            refine wpAnyH_take (i := 2) (oi := { dst := some 40, op := Go.Op.indexAddr 39 (Go.Operand.tmp 38) (Go.Operand.tmp 39), type := 0, pos := "ref.go:165", after := #[{ on := 0, ground := Go.Ground.data }, { on := 1, ground := Go.Ground.data }], guard := none }) (v := ?_) rfl (by kernel_rfl) (by kernel_rfl) (by kernel_rfl) (fun _ _ _ h => h) (Or.inl ⟨by rfl, ?_⟩) (by assumption) ?_
            rotate_left
            · intro w hSw
              (try dsimp only at hSw)
              go_simp
              try (with_reducible rfl)
            try simp only [Act.put, List.setIfInBounds_toArray, List.set_cons_zero, List.set_cons_succ]
            refine wpAnyH_take (i := 3) (oi := { dst := some 41, op := Go.Op.load 42 (Go.Operand.tmp 40), type := 42, pos := "ref.go:165", after := #[{ on := 2, ground := Go.Ground.data }], guard := none }) (v := ?_) rfl (by kernel_rfl) (by kernel_rfl) (by kernel_rfl) (fun _ _ _ h => h) (Or.inl ⟨by rfl, ?_⟩) (by assumption) ?_
            rotate_left
            · intro w hSw
              (try dsimp only at hSw)
              go_simp
              try (with_reducible rfl)
            try simp only [Act.put, List.setIfInBounds_toArray, List.set_cons_zero, List.set_cons_succ]
            refine wpAnyH_take (i := 4) (oi := { dst := some 42, op := Go.Op.load 34 (Go.Operand.tmp 5), type := 34, pos := "ref.go:165", after := #[], guard := none }) (v := ?_) rfl (by kernel_rfl) (by kernel_rfl) (by kernel_rfl) (fun _ _ _ h => h) (Or.inl ⟨by rfl, ?_⟩) (by assumption) ?_
            rotate_left
            · intro w hSw
              (try dsimp only at hSw)
              go_simp
              try (with_reducible rfl)
            try simp only [Act.put, List.setIfInBounds_toArray, List.set_cons_zero, List.set_cons_succ]
            refine wpAnyH_ready (rs := [5]) (by kernel_rfl) (by simp) ?_
            refine AllReadyH.cons (o := { dst := some 43, op := Go.Op.call { callee := Go.Callee.value (Go.Operand.func 58), args := #[Go.Operand.tmp 41, Go.Operand.tmp 42], argTypes := #[42, 34] }, type := 4, pos := "ref.go:165", after := #[{ on := 3, ground := Go.Ground.data }, { on := 4, ground := Go.Ground.data }], guard := none }) rfl (fun K hK => ?_) AllReadyH.nil
            go_simp
            (go_at_call 58; (with_reducible refine Calls.mono (HHx.out _) ?_); rintro e W' ⟨rfl, ht⟩; replace hTT := Lib.hid (hTT.out.trans ht); clear ht)
            go_wp2_with fail
            refine hK.out _ _ ?_ (fun hHeld => ?_)
            · (exact ⟨hTT.out, HCy.out _ hTT.out, HCx.out _ hTT.out⟩)
            clear hK K
            try simp only [Act.put, List.setIfInBounds_toArray, List.set_cons_zero, List.set_cons_succ]
            refine wpAnyH_take (i := 6) (oi := { dst := some 44, op := Go.Op.move (Go.Operand.tmp 43), type := 4, pos := "ref.go:165", after := #[{ on := 5, ground := Go.Ground.data }, { on := 5, ground := Go.Ground.chain }], guard := none }) (v := ?_) rfl (by kernel_rfl) (by kernel_rfl) (by kernel_rfl) (fun _ _ _ h => h) (Or.inl ⟨by rfl, ?_⟩) (by assumption) ?_
            rotate_left
            · intro w hSw
              (try dsimp only at hSw)
              go_simp
              try (with_reducible rfl)
            try simp only [Act.put, List.setIfInBounds_toArray, List.set_cons_zero, List.set_cons_succ]
            refine wpAnyH_take (i := 7) (oi := { dst := some 45, op := Go.Op.move (Go.Operand.tmp 10), type := 3, pos := "ref.go:165", after := #[{ on := 6, ground := Go.Ground.guard }], guard := some (6, true) }) (v := ?_) rfl (by kernel_rfl) (by kernel_rfl) (by kernel_rfl) (fun _ _ _ h => h) (Or.inl ⟨by rfl, ?_⟩) (by assumption) ?_
            rotate_left
            · intro w hSw
              (try dsimp only at hSw)
              go_simp
              try (with_reducible rfl)
            try simp only [Act.put, List.setIfInBounds_toArray, List.set_cons_zero, List.set_cons_succ]
            refine wpAnyH_take (i := 8) (oi := { dst := some 46, op := Go.Op.binOp Go.BinOp.lss 3 (Go.Operand.tmp 45) (Go.Operand.const (Go.Value.int Go.IntKind.i64 0)) 3, type := 4, pos := "ref.go:165", after := #[{ on := 7, ground := Go.Ground.data }, { on := 6, ground := Go.Ground.guard }], guard := some (6, true) }) (v := ?_) rfl (by kernel_rfl) (by kernel_rfl) (by kernel_rfl) (fun _ _ _ h => h) (Or.inl ⟨by rfl, ?_⟩) (by assumption) ?_
            rotate_left
            · intro w hSw
              (try dsimp only at hSw)
              go_simp
              try (with_reducible rfl)
            try simp only [Act.put, List.setIfInBounds_toArray, List.set_cons_zero, List.set_cons_succ]
            refine wpAnyH_take (i := 9) (oi := { dst := some 47, op := Go.Op.move (Go.Operand.tmp 46), type := 4, pos := "ref.go:165", after := #[{ on := 8, ground := Go.Ground.data }, { on := 6, ground := Go.Ground.chain }, { on := 6, ground := Go.Ground.guard }], guard := some (6, true) }) (v := ?_) rfl (by kernel_rfl) (by kernel_rfl) (by kernel_rfl) (fun _ _ _ h => h) (Or.inl ⟨by rfl, ?_⟩) (by assumption) ?_
            rotate_left
            · intro w hSw
              (try dsimp only at hSw)
              go_simp
              try (with_reducible rfl)
            try simp only [Act.put, List.setIfInBounds_toArray, List.set_cons_zero, List.set_cons_succ]
            refine wpAnyH_take (i := 10) (oi := { dst := some 48, op := Go.Op.move (Go.Operand.tmp 9), type := 39, pos := "ref.go:165", after := #[{ on := 9, ground := Go.Ground.guard }], guard := some (9, false) }) (v := ?_) rfl (by kernel_rfl) (by kernel_rfl) (by kernel_rfl) (fun _ _ _ h => h) (Or.inl ⟨by rfl, ?_⟩) (by assumption) ?_
            rotate_left
            · intro w hSw
              (try dsimp only at hSw)
              go_simp
              try (with_reducible rfl)
            try simp only [Act.put, List.setIfInBounds_toArray, List.set_cons_zero, List.set_cons_succ]
            refine wpAnyH_take (i := 11) (oi := { dst := some 49, op := Go.Op.move (Go.Operand.tmp 11), type := 3, pos := "ref.go:165", after := #[{ on := 9, ground := Go.Ground.guard }], guard := some (9, false) }) (v := ?_) rfl (by kernel_rfl) (by kernel_rfl) (by kernel_rfl) (fun _ _ _ h => h) (Or.inl ⟨by rfl, ?_⟩) (by assumption) ?_
            rotate_left
            · intro w hSw
              (try dsimp only at hSw)
              go_simp
              try (with_reducible rfl)
            try simp only [Act.put, List.setIfInBounds_toArray, List.set_cons_zero, List.set_cons_succ]
            refine wpAnyH_take (i := 12) (oi := { dst := some 50, op := Go.Op.indexAddr 39 (Go.Operand.tmp 48) (Go.Operand.tmp 49), type := 0, pos := "ref.go:165", after := #[{ on := 10, ground := Go.Ground.data }, { on := 11, ground := Go.Ground.data }, { on := 9, ground := Go.Ground.guard }], guard := some (9, false) }) (v := ?_) rfl (by kernel_rfl) (by kernel_rfl) (by kernel_rfl) (fun _ _ _ h => h) (Or.inl ⟨by rfl, ?_⟩) (by assumption) ?_
            rotate_left
            · intro w hSw
              (try dsimp only at hSw)
              go_simp
              try (with_reducible rfl)
            try simp only [Act.put, List.setIfInBounds_toArray, List.set_cons_zero, List.set_cons_succ]
            refine wpAnyH_take (i := 13) (oi := { dst := some 51, op := Go.Op.fieldAddr 42 (Go.Operand.tmp 50) 1, type := 0, pos := "ref.go:165", after := #[{ on := 12, ground := Go.Ground.data }, { on := 9, ground := Go.Ground.guard }], guard := some (9, false) }) (v := ?_) rfl (by kernel_rfl) (by kernel_rfl) (by kernel_rfl) (fun _ _ _ h => h) (Or.inl ⟨by rfl, ?_⟩) (by assumption) ?_
            rotate_left
            · intro w hSw
              (try dsimp only at hSw)
              go_simp
              try (with_reducible rfl)
            try simp only [Act.put, List.setIfInBounds_toArray, List.set_cons_zero, List.set_cons_succ]
            refine wpAnyH_take (i := 14) (oi := { dst := some 52, op := Go.Op.load 3 (Go.Operand.tmp 51), type := 3, pos := "ref.go:165", after := #[{ on := 13, ground := Go.Ground.data }, { on := 9, ground := Go.Ground.guard }], guard := some (9, false) }) (v := ?_) rfl (by kernel_rfl) (by kernel_rfl) (by kernel_rfl) (fun _ _ _ h => h) (Or.inl ⟨by rfl, ?_⟩) (by assumption) ?_
            rotate_left
            · intro w hSw
              (try dsimp only at hSw)
              go_simp
              try (with_reducible rfl)
            try simp only [Act.put, List.setIfInBounds_toArray, List.set_cons_zero, List.set_cons_succ]
            refine wpAnyH_take (i := 15) (oi := { dst := some 53, op := Go.Op.move (Go.Operand.tmp 9), type := 39, pos := "ref.go:165", after := #[{ on := 9, ground := Go.Ground.guard }], guard := some (9, false) }) (v := ?_) rfl (by kernel_rfl) (by kernel_rfl) (by kernel_rfl) (fun _ _ _ h => h) (Or.inl ⟨by rfl, ?_⟩) (by assumption) ?_
            rotate_left
            · intro w hSw
              (try dsimp only at hSw)
              go_simp
              try (with_reducible rfl)
            try simp only [Act.put, List.setIfInBounds_toArray, List.set_cons_zero, List.set_cons_succ]
            refine wpAnyH_take (i := 16) (oi := { dst := some 54, op := Go.Op.move (Go.Operand.tmp 10), type := 3, pos := "ref.go:165", after := #[{ on := 9, ground := Go.Ground.guard }], guard := some (9, false) }) (v := ?_) rfl (by kernel_rfl) (by kernel_rfl) (by kernel_rfl) (fun _ _ _ h => h) (Or.inl ⟨by rfl, ?_⟩) (by assumption) ?_
            rotate_left
            · intro w hSw
              (try dsimp only at hSw)
              go_simp
              try (with_reducible rfl)
            try simp only [Act.put, List.setIfInBounds_toArray, List.set_cons_zero, List.set_cons_succ]
            refine wpAnyH_take (i := 17) (oi := { dst := some 55, op := Go.Op.indexAddr 39 (Go.Operand.tmp 53) (Go.Operand.tmp 54), type := 0, pos := "ref.go:165", after := #[{ on := 15, ground := Go.Ground.data }, { on := 16, ground := Go.Ground.data }, { on := 9, ground := Go.Ground.guard }], guard := some (9, false) }) (v := ?_) rfl (by kernel_rfl) (by kernel_rfl) (by kernel_rfl) (fun _ _ _ h => h) (Or.inl ⟨by rfl, ?_⟩) (by assumption) ?_
            rotate_left
            · intro w hSw
              (try dsimp only at hSw)
              go_simp
              try (with_reducible rfl)
            try simp only [Act.put, List.setIfInBounds_toArray, List.set_cons_zero, List.set_cons_succ]
            refine wpAnyH_take (i := 18) (oi := { dst := some 56, op := Go.Op.fieldAddr 42 (Go.Operand.tmp 55) 1, type := 0, pos := "ref.go:165", after := #[{ on := 17, ground := Go.Ground.data }, { on := 9, ground := Go.Ground.guard }], guard := some (9, false) }) (v := ?_) rfl (by kernel_rfl) (by kernel_rfl) (by kernel_rfl) (fun _ _ _ h => h) (Or.inl ⟨by rfl, ?_⟩) (by assumption) ?_
            rotate_left
            · intro w hSw
              (try dsimp only at hSw)
              go_simp
              try (with_reducible rfl)
            try simp only [Act.put, List.setIfInBounds_toArray, List.set_cons_zero, List.set_cons_succ]
            refine wpAnyH_take (i := 19) (oi := { dst := some 57, op := Go.Op.load 3 (Go.Operand.tmp 56), type := 3, pos := "ref.go:165", after := #[{ on := 18, ground := Go.Ground.data }, { on := 9, ground := Go.Ground.guard }], guard := some (9, false) }) (v := ?_) rfl (by kernel_rfl) (by kernel_rfl) (by kernel_rfl) (fun _ _ _ h => h) (Or.inl ⟨by rfl, ?_⟩) (by assumption) ?_
            rotate_left
            · intro w hSw
              (try dsimp only at hSw)
              go_simp
              try (with_reducible rfl)
            try simp only [Act.put, List.setIfInBounds_toArray, List.set_cons_zero, List.set_cons_succ]
            refine wpAnyH_take (i := 20) (oi := { dst := some 58, op := Go.Op.binOp Go.BinOp.gtr 3 (Go.Operand.tmp 52) (Go.Operand.tmp 57) 3, type := 4, pos := "ref.go:165", after := #[{ on := 14, ground := Go.Ground.data }, { on := 19, ground := Go.Ground.data }, { on := 9, ground := Go.Ground.guard }], guard := some (9, false) }) (v := ?_) rfl (by kernel_rfl) (by kernel_rfl) (by kernel_rfl) (fun _ _ _ h => h) (Or.inl ⟨by rfl, ?_⟩) (by assumption) ?_
            rotate_left
            · intro w hSw
              (try dsimp only at hSw)
              go_simp
              try (with_reducible rfl)
            try simp only [Act.put, List.setIfInBounds_toArray, List.set_cons_zero, List.set_cons_succ]
            refine wpAnyH_take (i := 21) (oi := { dst := some 59, op := Go.Op.pick (Go.Operand.tmp 47) (Go.Operand.const (Go.Value.bool true)) (Go.Operand.tmp 58), type := 4, pos := "ref.go:165", after := #[{ on := 9, ground := Go.Ground.data }, { on := 20, ground := Go.Ground.data }, { on := 6, ground := Go.Ground.guard }], guard := some (6, true) }) (v := ?_) rfl (by kernel_rfl) (by kernel_rfl) (by kernel_rfl) (fun _ _ _ h => h) (Or.inl ⟨by rfl, ?_⟩) (by assumption) ?_
            rotate_left
            · intro w hSw
              (try dsimp only at hSw)
              go_simp
              try (with_reducible rfl)
            try simp only [Act.put, List.setIfInBounds_toArray, List.set_cons_zero, List.set_cons_succ]
            refine wpAnyH_take (i := 22) (oi := { dst := some 60, op := Go.Op.pick (Go.Operand.tmp 44) (Go.Operand.tmp 59) (Go.Operand.const (Go.Value.bool false)), type := 4, pos := "ref.go:165", after := #[{ on := 6, ground := Go.Ground.data }, { on := 21, ground := Go.Ground.data }], guard := none }) (v := ?_) rfl (by kernel_rfl) (by kernel_rfl) (by kernel_rfl) (fun _ _ _ h => h) (Or.inl ⟨by rfl, ?_⟩) (by assumption) ?_
            rotate_left
            · intro w hSw
              (try dsimp only at hSw)
              go_simp
              try (with_reducible rfl)
            try simp only [Act.put, List.setIfInBounds_toArray, List.set_cons_zero, List.set_cons_succ]
            refine wpAnyH_done (by kernel_rfl) ?_ _
            go_wp2
            go_roundw
            case rel => exact ⟨k + 1, some k, rfl, by go_num, hkm, HN, hTT⟩
            case measure => simp [intOf]; omega
          · have HN : Hid (bestT (s, ah, al) l (k + 1) = some j) := Lib.hid (bestT_less Hx.out HB.out hbo.out Hy.out hyb)
            have hyb2 : decide (ybt < xbt) = false := decide_eq_false hyb
            go_wp2
            refine wp_region_held_drew (S := (fun W => Tch W0 W [] ∧ W.cell? ⟨gx, j * 4 + 3, none⟩ = some (Value.int .i64 ybt) ∧ W.cell? ⟨gx, k * 4, none⟩ = some (Value.bool xs) ∧ W.cell? ⟨gx, k * 4 + 1, none⟩ = some (Value.int .u64 (xh : Int)) ∧ W.cell? ⟨gx, k * 4 + 2, none⟩ = some (Value.int .u64 (xl : Int)) ∧ W.cell? ⟨gx, k * 4 + 3, none⟩ = some (Value.int .i64 xbt) ∧ W.cell? ⟨xb, 0, none⟩ = some (Value.bool s) ∧ W.cell? ⟨xb, 1, none⟩ = some (Value.int .u64 (ah : Int)) ∧ W.cell? ⟨xb, 2, none⟩ = some (Value.int .u64 (al : Int)))) (by kernel_rfl) ?_ (fun hHeld => ?_)
            · (exact ⟨hTT.out, HCy.out _ hTT.out, HCx.out _ hTT.out⟩)
            refine wpAnyH_take (i := 0) (oi := { dst := some 38, op := Go.Op.move (Go.Operand.tmp 9), type := 39, pos := "ref.go:165", after := #[], guard := none }) (v := ?_) rfl (by kernel_rfl) (by kernel_rfl) (by kernel_rfl) (fun _ _ _ h => h) (Or.inl ⟨by rfl, ?_⟩) (by assumption) ?_
            rotate_left
            · intro w hSw
              (try dsimp only at hSw)
              go_simp
              try (with_reducible rfl)
            try simp only [Act.put, List.setIfInBounds_toArray, List.set_cons_zero, List.set_cons_succ]
            refine wpAnyH_take (i := 1) (oi := { dst := some 39, op := Go.Op.move (Go.Operand.tmp 11), type := 3, pos := "ref.go:165", after := #[], guard := none }) (v := ?_) rfl (by kernel_rfl) (by kernel_rfl) (by kernel_rfl) (fun _ _ _ h => h) (Or.inl ⟨by rfl, ?_⟩) (by assumption) ?_
            rotate_left
            · intro w hSw
              (try dsimp only at hSw)
              go_simp
              try (with_reducible rfl)
            try simp only [Act.put, List.setIfInBounds_toArray, List.set_cons_zero, List.set_cons_succ]
            refine wpAnyH_take (i := 2) (oi := { dst := some 40, op := Go.Op.indexAddr 39 (Go.Operand.tmp 38) (Go.Operand.tmp 39), type := 0, pos := "ref.go:165", after := #[{ on := 0, ground := Go.Ground.data }, { on := 1, ground := Go.Ground.data }], guard := none }) (v := ?_) rfl (by kernel_rfl) (by kernel_rfl) (by kernel_rfl) (fun _ _ _ h => h) (Or.inl ⟨by rfl, ?_⟩) (by assumption) ?_
            rotate_left
            · intro w hSw
              (try dsimp only at hSw)
              go_simp
              try (with_reducible rfl)
            try simp only [Act.put, List.setIfInBounds_toArray, List.set_cons_zero, List.set_cons_succ]
            refine wpAnyH_take (i := 3) (oi := { dst := some 41, op := Go.Op.load 42 (Go.Operand.tmp 40), type := 42, pos := "ref.go:165", after := #[{ on := 2, ground := Go.Ground.data }], guard := none }) (v := ?_) rfl (by kernel_rfl) (by kernel_rfl) (by kernel_rfl) (fun _ _ _ h => h) (Or.inl ⟨by rfl, ?_⟩) (by assumption) ?_
            rotate_left
            · intro w hSw
              (try dsimp only at hSw)
              go_simp
              try (with_reducible rfl)
            try simp only [Act.put, List.setIfInBounds_toArray, List.set_cons_zero, List.set_cons_succ]
            refine wpAnyH_take (i := 4) (oi := { dst := some 42, op := Go.Op.load 34 (Go.Operand.tmp 5), type := 34, pos := "ref.go:165", after := #[], guard := none }) (v := ?_) rfl (by kernel_rfl) (by kernel_rfl) (by kernel_rfl) (fun _ _ _ h => h) (Or.inl ⟨by rfl, ?_⟩) (by assumption) ?_
            rotate_left
            · intro w hSw
              (try dsimp only at hSw)
              go_simp
              try (with_reducible rfl)
            try simp only [Act.put, List.setIfInBounds_toArray, List.set_cons_zero, List.set_cons_succ]
            refine wpAnyH_ready (rs := [5]) (by kernel_rfl) (by simp) ?_
            refine AllReadyH.cons (o := { dst := some 43, op := Go.Op.call { callee := Go.Callee.value (Go.Operand.func 58), args := #[Go.Operand.tmp 41, Go.Operand.tmp 42], argTypes := #[42, 34] }, type := 4, pos := "ref.go:165", after := #[{ on := 3, ground := Go.Ground.data }, { on := 4, ground := Go.Ground.data }], guard := none }) rfl (fun K hK => ?_) AllReadyH.nil
            go_simp
            (go_at_call 58; (with_reducible refine Calls.mono (HHx.out _) ?_); rintro e W' ⟨rfl, ht⟩; replace hTT := Lib.hid (hTT.out.trans ht); clear ht)
            go_wp2_with fail
            refine hK.out _ _ ?_ (fun hHeld => ?_)
            · (exact ⟨hTT.out, HCy.out _ hTT.out, HCx.out _ hTT.out⟩)
            clear hK K
            try simp only [Act.put, List.setIfInBounds_toArray, List.set_cons_zero, List.set_cons_succ]
            refine wpAnyH_take (i := 6) (oi := { dst := some 44, op := Go.Op.move (Go.Operand.tmp 43), type := 4, pos := "ref.go:165", after := #[{ on := 5, ground := Go.Ground.data }, { on := 5, ground := Go.Ground.chain }], guard := none }) (v := ?_) rfl (by kernel_rfl) (by kernel_rfl) (by kernel_rfl) (fun _ _ _ h => h) (Or.inl ⟨by rfl, ?_⟩) (by assumption) ?_
            rotate_left
            · intro w hSw
              (try dsimp only at hSw)
              go_simp
              try (with_reducible rfl)
            try simp only [Act.put, List.setIfInBounds_toArray, List.set_cons_zero, List.set_cons_succ]
            refine wpAnyH_take (i := 7) (oi := { dst := some 45, op := Go.Op.move (Go.Operand.tmp 10), type := 3, pos := "ref.go:165", after := #[{ on := 6, ground := Go.Ground.guard }], guard := some (6, true) }) (v := ?_) rfl (by kernel_rfl) (by kernel_rfl) (by kernel_rfl) (fun _ _ _ h => h) (Or.inl ⟨by rfl, ?_⟩) (by assumption) ?_
            rotate_left
            · intro w hSw
              (try dsimp only at hSw)
              go_simp
              try (with_reducible rfl)
            try simp only [Act.put, List.setIfInBounds_toArray, List.set_cons_zero, List.set_cons_succ]
            refine wpAnyH_take (i := 8) (oi := { dst := some 46, op := Go.Op.binOp Go.BinOp.lss 3 (Go.Operand.tmp 45) (Go.Operand.const (Go.Value.int Go.IntKind.i64 0)) 3, type := 4, pos := "ref.go:165", after := #[{ on := 7, ground := Go.Ground.data }, { on := 6, ground := Go.Ground.guard }], guard := some (6, true) }) (v := ?_) rfl (by kernel_rfl) (by kernel_rfl) (by kernel_rfl) (fun _ _ _ h => h) (Or.inl ⟨by rfl, ?_⟩) (by assumption) ?_
            rotate_left
            · intro w hSw
              (try dsimp only at hSw)
              go_simp
              try (with_reducible rfl)
            try simp only [Act.put, List.setIfInBounds_toArray, List.set_cons_zero, List.set_cons_succ]
            refine wpAnyH_take (i := 9) (oi := { dst := some 47, op := Go.Op.move (Go.Operand.tmp 46), type := 4, pos := "ref.go:165", after := #[{ on := 8, ground := Go.Ground.data }, { on := 6, ground := Go.Ground.chain }, { on := 6, ground := Go.Ground.guard }], guard := some (6, true) }) (v := ?_) rfl (by kernel_rfl) (by kernel_rfl) (by kernel_rfl) (fun _ _ _ h => h) (Or.inl ⟨by rfl, ?_⟩) (by assumption) ?_
            rotate_left
            · intro w hSw
              (try dsimp only at hSw)
              go_simp
              try (with_reducible rfl)
            try simp only [Act.put, List.setIfInBounds_toArray, List.set_cons_zero, List.set_cons_succ]
            refine wpAnyH_take (i := 10) (oi := { dst := some 48, op := Go.Op.move (Go.Operand.tmp 9), type := 39, pos := "ref.go:165", after := #[{ on := 9, ground := Go.Ground.guard }], guard := some (9, false) }) (v := ?_) rfl (by kernel_rfl) (by kernel_rfl) (by kernel_rfl) (fun _ _ _ h => h) (Or.inl ⟨by rfl, ?_⟩) (by assumption) ?_
            rotate_left
            · intro w hSw
              (try dsimp only at hSw)
              go_simp
              try (with_reducible rfl)
            try simp only [Act.put, List.setIfInBounds_toArray, List.set_cons_zero, List.set_cons_succ]
            refine wpAnyH_take (i := 11) (oi := { dst := some 49, op := Go.Op.move (Go.Operand.tmp 11), type := 3, pos := "ref.go:165", after := #[{ on := 9, ground := Go.Ground.guard }], guard := some (9, false) }) (v := ?_) rfl (by kernel_rfl) (by kernel_rfl) (by kernel_rfl) (fun _ _ _ h => h) (Or.inl ⟨by rfl, ?_⟩) (by assumption) ?_
            rotate_left
            · intro w hSw
              (try dsimp only at hSw)
              go_simp
              try (with_reducible rfl)
            try simp only [Act.put, List.setIfInBounds_toArray, List.set_cons_zero, List.set_cons_succ]
            refine wpAnyH_take (i := 12) (oi := { dst := some 50, op := Go.Op.indexAddr 39 (Go.Operand.tmp 48) (Go.Operand.tmp 49), type := 0, pos := "ref.go:165", after := #[{ on := 10, ground := Go.Ground.data }, { on := 11, ground := Go.Ground.data }, { on := 9, ground := Go.Ground.guard }], guard := some (9, false) }) (v := ?_) rfl (by kernel_rfl) (by kernel_rfl) (by kernel_rfl) (fun _ _ _ h => h) (Or.inl ⟨by rfl, ?_⟩) (by assumption) ?_
            rotate_left
            · intro w hSw
              (try dsimp only at hSw)
              go_simp
              try (with_reducible rfl)
            try simp only [Act.put, List.setIfInBounds_toArray, List.set_cons_zero, List.set_cons_succ]
            refine wpAnyH_take (i := 13) (oi := { dst := some 51, op := Go.Op.fieldAddr 42 (Go.Operand.tmp 50) 1, type := 0, pos := "ref.go:165", after := #[{ on := 12, ground := Go.Ground.data }, { on := 9, ground := Go.Ground.guard }], guard := some (9, false) }) (v := ?_) rfl (by kernel_rfl) (by kernel_rfl) (by kernel_rfl) (fun _ _ _ h => h) (Or.inl ⟨by rfl, ?_⟩) (by assumption) ?_
            rotate_left
            · intro w hSw
              (try dsimp only at hSw)
              go_simp
              try (with_reducible rfl)
            try simp only [Act.put, List.setIfInBounds_toArray, List.set_cons_zero, List.set_cons_succ]
            refine wpAnyH_take (i := 14) (oi := { dst := some 52, op := Go.Op.load 3 (Go.Operand.tmp 51), type := 3, pos := "ref.go:165", after := #[{ on := 13, ground := Go.Ground.data }, { on := 9, ground := Go.Ground.guard }], guard := some (9, false) }) (v := ?_) rfl (by kernel_rfl) (by kernel_rfl) (by kernel_rfl) (fun _ _ _ h => h) (Or.inl ⟨by rfl, ?_⟩) (by assumption) ?_
            rotate_left
            · intro w hSw
              (try dsimp only at hSw)
              go_simp
              try (with_reducible rfl)
            try simp only [Act.put, List.setIfInBounds_toArray, List.set_cons_zero, List.set_cons_succ]
            refine wpAnyH_take (i := 15) (oi := { dst := some 53, op := Go.Op.move (Go.Operand.tmp 9), type := 39, pos := "ref.go:165", after := #[{ on := 9, ground := Go.Ground.guard }], guard := some (9, false) }) (v := ?_) rfl (by kernel_rfl) (by kernel_rfl) (by kernel_rfl) (fun _ _ _ h => h) (Or.inl ⟨by rfl, ?_⟩) (by assumption) ?_
            rotate_left
            · intro w hSw
              (try dsimp only at hSw)
              go_simp
              try (with_reducible rfl)
            try simp only [Act.put, List.setIfInBounds_toArray, List.set_cons_zero, List.set_cons_succ]
            refine wpAnyH_take (i := 16) (oi := { dst := some 54, op := Go.Op.move (Go.Operand.tmp 10), type := 3, pos := "ref.go:165", after := #[{ on := 9, ground := Go.Ground.guard }], guard := some (9, false) }) (v := ?_) rfl (by kernel_rfl) (by kernel_rfl) (by kernel_rfl) (fun _ _ _ h => h) (Or.inl ⟨by rfl, ?_⟩) (by assumption) ?_
            rotate_left
            · intro w hSw
              (try dsimp only at hSw)
              go_simp
              try (with_reducible rfl)
            try simp only [Act.put, List.setIfInBounds_toArray, List.set_cons_zero, List.set_cons_succ]
            refine wpAnyH_take (i := 17) (oi := { dst := some 55, op := Go.Op.indexAddr 39 (Go.Operand.tmp 53) (Go.Operand.tmp 54), type := 0, pos := "ref.go:165", after := #[{ on := 15, ground := Go.Ground.data }, { on := 16, ground := Go.Ground.data }, { on := 9, ground := Go.Ground.guard }], guard := some (9, false) }) (v := ?_) rfl (by kernel_rfl) (by kernel_rfl) (by kernel_rfl) (fun _ _ _ h => h) (Or.inl ⟨by rfl, ?_⟩) (by assumption) ?_
            rotate_left
            · intro w hSw
              (try dsimp only at hSw)
              go_simp
              try (with_reducible rfl)
            try simp only [Act.put, List.setIfInBounds_toArray, List.set_cons_zero, List.set_cons_succ]
            refine wpAnyH_take (i := 18) (oi := { dst := some 56, op := Go.Op.fieldAddr 42 (Go.Operand.tmp 55) 1, type := 0, pos := "ref.go:165", after := #[{ on := 17, ground := Go.Ground.data }, { on := 9, ground := Go.Ground.guard }], guard := some (9, false) }) (v := ?_) rfl (by kernel_rfl) (by kernel_rfl) (by kernel_rfl) (fun _ _ _ h => h) (Or.inl ⟨by rfl, ?_⟩) (by assumption) ?_
            rotate_left
            · intro w hSw
              (try dsimp only at hSw)
              go_simp
              try (with_reducible rfl)
            try simp only [Act.put, List.setIfInBounds_toArray, List.set_cons_zero, List.set_cons_succ]
            refine wpAnyH_take (i := 19) (oi := { dst := some 57, op := Go.Op.load 3 (Go.Operand.tmp 56), type := 3, pos := "ref.go:165", after := #[{ on := 18, ground := Go.Ground.data }, { on := 9, ground := Go.Ground.guard }], guard := some (9, false) }) (v := ?_) rfl (by kernel_rfl) (by kernel_rfl) (by kernel_rfl) (fun _ _ _ h => h) (Or.inl ⟨by rfl, ?_⟩) (by assumption) ?_
            rotate_left
            · intro w hSw
              (try dsimp only at hSw)
              go_simp
              try (with_reducible rfl)
            try simp only [Act.put, List.setIfInBounds_toArray, List.set_cons_zero, List.set_cons_succ]
            refine wpAnyH_take (i := 20) (oi := { dst := some 58, op := Go.Op.binOp Go.BinOp.gtr 3 (Go.Operand.tmp 52) (Go.Operand.tmp 57) 3, type := 4, pos := "ref.go:165", after := #[{ on := 14, ground := Go.Ground.data }, { on := 19, ground := Go.Ground.data }, { on := 9, ground := Go.Ground.guard }], guard := some (9, false) }) (v := ?_) rfl (by kernel_rfl) (by kernel_rfl) (by kernel_rfl) (fun _ _ _ h => h) (Or.inl ⟨by rfl, ?_⟩) (by assumption) ?_
            rotate_left
            · intro w hSw
              (try dsimp only at hSw)
              go_simp
              try (with_reducible rfl)
            try simp only [Act.put, List.setIfInBounds_toArray, List.set_cons_zero, List.set_cons_succ]
            refine wpAnyH_take (i := 21) (oi := { dst := some 59, op := Go.Op.pick (Go.Operand.tmp 47) (Go.Operand.const (Go.Value.bool true)) (Go.Operand.tmp 58), type := 4, pos := "ref.go:165", after := #[{ on := 9, ground := Go.Ground.data }, { on := 20, ground := Go.Ground.data }, { on := 6, ground := Go.Ground.guard }], guard := some (6, true) }) (v := ?_) rfl (by kernel_rfl) (by kernel_rfl) (by kernel_rfl) (fun _ _ _ h => h) (Or.inl ⟨by rfl, ?_⟩) (by assumption) ?_
            rotate_left
            · intro w hSw
              (try dsimp only at hSw)
              go_simp
              try (with_reducible rfl)
            try simp only [Act.put, List.setIfInBounds_toArray, List.set_cons_zero, List.set_cons_succ]
            refine wpAnyH_take (i := 22) (oi := { dst := some 60, op := Go.Op.pick (Go.Operand.tmp 44) (Go.Operand.tmp 59) (Go.Operand.const (Go.Value.bool false)), type := 4, pos := "ref.go:165", after := #[{ on := 6, ground := Go.Ground.data }, { on := 21, ground := Go.Ground.data }], guard := none }) (v := ?_) rfl (by kernel_rfl) (by kernel_rfl) (by kernel_rfl) (fun _ _ _ h => h) (Or.inl ⟨by rfl, ?_⟩) (by assumption) ?_
            rotate_left
            · intro w hSw
              (try dsimp only at hSw)
              go_simp
              try (with_reducible rfl)
            try simp only [Act.put, List.setIfInBounds_toArray, List.set_cons_zero, List.set_cons_succ]
            refine wpAnyH_done (by kernel_rfl) ?_ _
            go_wp2
            go_roundw
            case rel => exact ⟨k + 1, some j, rfl, by go_num, hkm, HN, hTT⟩
            case measure => simp [intOf]; omega
    · obtain rfl : k = m := by omega
      have kI : ¬ (k : Int) < (k : Int) := by omega
      have HBo : Hid (bestT (s, ah, al) l l.length = bo) := Lib.hid (by rw [HM.out]; exact hbo.out)
      have HTr := Lib.hid hT.out
      clear hkm hk hbo hT
      have k0 : (0 : Int) ≤ (k : Int) := by omega
      obtain ⟨wo, hwo⟩ : ∃ x, x = wr := ⟨_, rfl⟩
      subst hwo
      go_wp2
      go_loopw [10, 12] (fun bv jv wr => ∃ (j : Nat) (bq : Option Nat), bv = .int .i64 (bvI bq) ∧ jv = .int .i64 (j : Int) ∧ j ≤ k ∧ Hid (pkI s l bo bq j) ∧ Hid (Tch W0 wr [])) (fun _ jv _ => k - (intOf jv).toNat)
      case atStart => exact ⟨0, bo, rfl, rfl, Nat.zero_le _, Lib.hid (.inl ⟨rfl, fun _ j x hj => absurd hj (by omega)⟩), HTr⟩
      case round =>
        obtain ⟨j, bq, rfl, rfl, hj, hpk, hT⟩ := hrel
        have j1 : IntKind.i64.wrap ((j : Int) + 1) = (j : Int) + 1 := by rw [IntKind.wrap_i64]; omega
        have j0 : (0 : Int) ≤ (j : Int) := by omega
        obtain ⟨d1, d2, d3, d4, d5⟩ := HRd.out wr hT.out
        cases bq with
        | some b =>
          -- it is found
          have HP : Hid (pickI (s, ah, al) l = some b) := Lib.hid (by
            rcases hpk.out with ⟨h1, -⟩ | ⟨h1, j', h2, h3⟩
            · exact pickI_best (by rw [HBo.out, ← h1])
            · injection h2 with h2
              subst h2
              exact pickI_fam (by rw [HBo.out, h1]) h3)
          have hbl : b < k := by
            rcases hpk.out with ⟨h1, -⟩ | ⟨h1, j', h2, h3⟩
            · have := (bestT_some (HBo.out.trans h1.symm)).1; rw [HM.out] at this; exact this
            · injection h2 with h2
              subst h2
              have := fndI_le (fun x : Loc => decide (x.1.1 = s)) l
              unfold famI at h3
              rw [HM.out] at this
              omega
          obtain ⟨x, hx⟩ : ∃ x, l[b]? = some x := ⟨_, List.getElem?_eq_getElem (by rw [HM.out]; exact hbl)⟩
          have HE : Hid (srcI st port (s, ah, al) = some x.1) := Lib.hid (by rw [HSr.out, HP.out]; simp [hx])
          obtain ⟨gx, rfl⟩ := slice_some d3 (by omega)
          obtain ⟨⟨xs, xh, xl⟩, xbt⟩ := x
          have x0 : wr.cell? ⟨gx, b * 4, none⟩ = some (Value.bool xs) := own_cellN d3 ((flat4_at (f := lcC) (fun _ => rfl) hx (k := 0) (by decide)).trans (show _ = some (Value.bool xs) by rfl))
          have x1 := own_cellN d3 ((flat4_at (f := lcC) (fun _ => rfl) hx (k := 1) (by decide)).trans (show _ = some (Value.int .u64 (xh : Int)) by rfl))
          have x2 := own_cellN d3 ((flat4_at (f := lcC) (fun _ => rfl) hx (k := 2) (by decide)).trans (show _ = some (Value.int .u64 (xl : Int)) by rfl))
          have bI : (b : Int) < (k : Int) := by omega
          have b0 : (0 : Int) ≤ (b : Int) := by omega
          have bn : ¬ (b : Int) < 0 := by omega
          have bn2 : decide ((b : Int) < 0) = false := decide_eq_false bn
          have y0 := (d5.cell 0).trans (show _ = some (Value.bool false) by rfl)
          have y1 := (d5.cell 1).trans (show _ = some (Value.int .u64 0) by rfl)
          have y2 := (d5.cell 2).trans (show _ = some (Value.int .u64 0) by rfl)
          have z0 := d5.frozen 0
          have z1 := d5.frozen 1
          have z2 := d5.frozen 2
          have hE := ((d5.set_ 0 (.bool xs)).set_ 1 (.int .u64 (xh : Int))).set_ 2 (.int .u64 (xl : Int))
          have e0 := (hE.cell 0).trans (show _ = some (Value.bool xs) by rfl)
          have e1 := (hE.cell 1).trans (show _ = some (Value.int .u64 (xh : Int)) by rfl)
          have e2 := (hE.cell 2).trans (show _ = some (Value.int .u64 (xl : Int)) by rfl)
          have HTe := Lib.hid ((HT0.out.trans hT.out).trans_fre (tch_c3 wr (xb + 1) 0 1 2 (.bool xs) (.int .u64 (xh : Int)) (.int .u64 (xl : Int))) (by simp; have := HXB.out; omega))
          rw [show bvI (some b) = (b : Int) from rfl]
          clear d1 d2 d3 d4 d5 hpk hbl hx hE
          by_cases hjk : j < k
          · have jI : (j : Int) < (k : Int) := by omega
            go_wp2
            refine bodyPost_ret (v := .tuple #[.agg #[.bool xs, .int .u64 (xh : Int), .int .u64 (xl : Int)], .bool true]) (by simp [results, Try.results32, go_sem, e0, e1, e2]) rfl ⟨by rw [HE.out]; rfl, HTe.out⟩
          · have jI : ¬ (j : Int) < (k : Int) := by omega
            go_wp2
            refine bodyPost_ret (v := .tuple #[.agg #[.bool xs, .int .u64 (xh : Int), .int .u64 (xl : Int)], .bool true]) (by simp [results, Try.results32, go_sem, e0, e1, e2]) rfl ⟨by rw [HE.out]; rfl, HTe.out⟩
        | none =>
          have hno : bo = none ∧ nofI s l j := by
            rcases hpk.out with ⟨h1, h2⟩ | ⟨h1, j', h2, h3⟩
            · exact ⟨h1.symm, h2 h1.symm⟩
            · cases h2
          obtain ⟨hbn, hnf⟩ := hno
          rw [show bvI none = -1 from rfl]
          by_cases hjk : j < k
          · have jI : (j : Int) < (k : Int) := by omega
            obtain ⟨x, hx⟩ : ∃ x, l[j]? = some x := ⟨_, List.getElem?_eq_getElem (by rw [HM.out]; exact hjk)⟩
            obtain ⟨gx, rfl⟩ := slice_some d3 (by omega)
            obtain ⟨⟨xs, xh, xl⟩, xbt⟩ := x
            have x0 : wr.cell? ⟨gx, j * 4, none⟩ = some (Value.bool xs) := own_cellN d3 ((flat4_at (f := lcC) (fun _ => rfl) hx (k := 0) (by decide)).trans (show _ = some (Value.bool xs) by rfl))
            have u0 := (d4.cell 0).trans (show _ = some (Value.bool s) by rfl)
            have HC := Lib.hid (And.intro x0 u0)
            have Hx := Lib.hid hx
            have HNf := Lib.hid hnf
            have HBn := Lib.hid hbn
            clear d1 d2 d3 d4 d5 hpk hx hnf hbn x0 u0
            by_cases hfs : xs = s
            · have be : (xs == s) = true := by simpa using hfs
              have HPk : Hid (pkI s l bo (some j) (j + 1)) := Lib.hid (.inr ⟨HBn.out, j, rfl, famI_at HNf.out Hx.out hfs⟩)
              clear hfs
              go_wp2
              refine wp_region_held_drew (S := (fun W => W.cell? ⟨gx, j * 4, none⟩ = some (Value.bool xs) ∧ W.cell? ⟨xb, 0, none⟩ = some (Value.bool s))) (by kernel_rfl) ?_ (fun hHeld => ?_)
              · (exact HC.out)
              refine wpAnyH_take (i := 0) (oi := { dst := some 72, op := Go.Op.move (Go.Operand.tmp 9), type := 39, pos := "ref.go:170", after := #[], guard := none }) (v := ?_) rfl (by kernel_rfl) (by kernel_rfl) (by kernel_rfl) (fun _ _ _ h => h) (Or.inl ⟨by rfl, ?_⟩) (by assumption) ?_
              rotate_left
              · intro w hSw
                (try dsimp only at hSw)
                go_simp
                try (with_reducible rfl)
              try simp only [Act.put, List.setIfInBounds_toArray, List.set_cons_zero, List.set_cons_succ]
              refine wpAnyH_take (i := 1) (oi := { dst := some 73, op := Go.Op.move (Go.Operand.tmp 12), type := 3, pos := "ref.go:170", after := #[], guard := none }) (v := ?_) rfl (by kernel_rfl) (by kernel_rfl) (by kernel_rfl) (fun _ _ _ h => h) (Or.inl ⟨by rfl, ?_⟩) (by assumption) ?_
              rotate_left
              · intro w hSw
                (try dsimp only at hSw)
                go_simp
                try (with_reducible rfl)
              try simp only [Act.put, List.setIfInBounds_toArray, List.set_cons_zero, List.set_cons_succ]
              refine wpAnyH_take (i := 2) (oi := { dst := some 74, op := Go.Op.indexAddr 39 (Go.Operand.tmp 72) (Go.Operand.tmp 73), type := 0, pos := "ref.go:170", after := #[{ on := 0, ground := Go.Ground.data }, { on := 1, ground := Go.Ground.data }], guard := none }) (v := ?_) rfl (by kernel_rfl) (by kernel_rfl) (by kernel_rfl) (fun _ _ _ h => h) (Or.inl ⟨by rfl, ?_⟩) (by assumption) ?_
              rotate_left
              · intro w hSw
                (try dsimp only at hSw)
                go_simp
                try (with_reducible rfl)
              try simp only [Act.put, List.setIfInBounds_toArray, List.set_cons_zero, List.set_cons_succ]
              refine wpAnyH_take (i := 3) (oi := { dst := some 75, op := Go.Op.fieldAddr 42 (Go.Operand.tmp 74) 0, type := 0, pos := "ref.go:170", after := #[{ on := 2, ground := Go.Ground.data }], guard := none }) (v := ?_) rfl (by kernel_rfl) (by kernel_rfl) (by kernel_rfl) (fun _ _ _ h => h) (Or.inl ⟨by rfl, ?_⟩) (by assumption) ?_
              rotate_left
              · intro w hSw
                (try dsimp only at hSw)
                go_simp
                try (with_reducible rfl)
              try simp only [Act.put, List.setIfInBounds_toArray, List.set_cons_zero, List.set_cons_succ]
              refine wpAnyH_take (i := 4) (oi := { dst := some 76, op := Go.Op.fieldAddr 34 (Go.Operand.tmp 75) 0, type := 0, pos := "ref.go:170", after := #[{ on := 3, ground := Go.Ground.data }], guard := none }) (v := ?_) rfl (by kernel_rfl) (by kernel_rfl) (by kernel_rfl) (fun _ _ _ h => h) (Or.inl ⟨by rfl, ?_⟩) (by assumption) ?_
              rotate_left
              · intro w hSw
                (try dsimp only at hSw)
                go_simp
                try (with_reducible rfl)
              try simp only [Act.put, List.setIfInBounds_toArray, List.set_cons_zero, List.set_cons_succ]
              refine wpAnyH_take (i := 5) (oi := { dst := some 77, op := Go.Op.load 4 (Go.Operand.tmp 76), type := 4, pos := "ref.go:170", after := #[{ on := 4, ground := Go.Ground.data }], guard := none }) (v := ?_) rfl (by kernel_rfl) (by kernel_rfl) (by kernel_rfl) (fun _ _ _ h => h) (Or.inl ⟨by rfl, ?_⟩) (by assumption) ?_
              rotate_left
              · intro w hSw
                (try dsimp only at hSw)
                go_simp
                try (with_reducible rfl)
              try simp only [Act.put, List.setIfInBounds_toArray, List.set_cons_zero, List.set_cons_succ]
              refine wpAnyH_take (i := 6) (oi := { dst := some 78, op := Go.Op.fieldAddr 34 (Go.Operand.tmp 5) 0, type := 0, pos := "ref.go:170", after := #[], guard := none }) (v := ?_) rfl (by kernel_rfl) (by kernel_rfl) (by kernel_rfl) (fun _ _ _ h => h) (Or.inl ⟨by rfl, ?_⟩) (by assumption) ?_
              rotate_left
              · intro w hSw
                (try dsimp only at hSw)
                go_simp
                try (with_reducible rfl)
              try simp only [Act.put, List.setIfInBounds_toArray, List.set_cons_zero, List.set_cons_succ]
              refine wpAnyH_take (i := 7) (oi := { dst := some 79, op := Go.Op.load 4 (Go.Operand.tmp 78), type := 4, pos := "ref.go:170", after := #[{ on := 6, ground := Go.Ground.data }], guard := none }) (v := ?_) rfl (by kernel_rfl) (by kernel_rfl) (by kernel_rfl) (fun _ _ _ h => h) (Or.inl ⟨by rfl, ?_⟩) (by assumption) ?_
              rotate_left
              · intro w hSw
                (try dsimp only at hSw)
                go_simp
                try (with_reducible rfl)
              try simp only [Act.put, List.setIfInBounds_toArray, List.set_cons_zero, List.set_cons_succ]
              refine wpAnyH_take (i := 8) (oi := { dst := some 80, op := Go.Op.binOp Go.BinOp.eql 4 (Go.Operand.tmp 77) (Go.Operand.tmp 79) 4, type := 4, pos := "ref.go:170", after := #[{ on := 5, ground := Go.Ground.data }, { on := 7, ground := Go.Ground.data }], guard := none }) (v := ?_) rfl (by kernel_rfl) (by kernel_rfl) (by kernel_rfl) (fun _ _ _ h => h) (Or.inl ⟨by rfl, ?_⟩) (by assumption) ?_
              rotate_left
              · intro w hSw
                (try dsimp only at hSw)
                go_simp
                try (with_reducible rfl)
              try simp only [Act.put, List.setIfInBounds_toArray, List.set_cons_zero, List.set_cons_succ]
              refine wpAnyH_done (by kernel_rfl) ?_ _
              go_wp2
              go_roundw
              case rel => exact ⟨j + 1, some j, rfl, by go_num, hjk, HPk, Lib.hid hT.out.drew⟩
              case measure => simp [intOf]; omega
            · have be : (xs == s) = false := by simpa using hfs
              have HPk : Hid (pkI s l bo none (j + 1)) := Lib.hid (.inl ⟨HBn.out.symm, fun _ j' y hj' hy => by
                rcases Nat.lt_or_ge j' j with h9 | h9
                · exact HNf.out j' y h9 hy
                · obtain rfl : j' = j := by omega
                  rw [Hx.out] at hy
                  injection hy with hy
                  subst hy
                  exact hfs⟩)
              clear hfs
              go_wp2
              refine wp_region_held_drew (S := (fun W => W.cell? ⟨gx, j * 4, none⟩ = some (Value.bool xs) ∧ W.cell? ⟨xb, 0, none⟩ = some (Value.bool s))) (by kernel_rfl) ?_ (fun hHeld => ?_)
              · (exact HC.out)
              refine wpAnyH_take (i := 0) (oi := { dst := some 72, op := Go.Op.move (Go.Operand.tmp 9), type := 39, pos := "ref.go:170", after := #[], guard := none }) (v := ?_) rfl (by kernel_rfl) (by kernel_rfl) (by kernel_rfl) (fun _ _ _ h => h) (Or.inl ⟨by rfl, ?_⟩) (by assumption) ?_
              rotate_left
              · intro w hSw
                (try dsimp only at hSw)
                go_simp
                try (with_reducible rfl)
              try simp only [Act.put, List.setIfInBounds_toArray, List.set_cons_zero, List.set_cons_succ]
              refine wpAnyH_take (i := 1) (oi := { dst := some 73, op := Go.Op.move (Go.Operand.tmp 12), type := 3, pos := "ref.go:170", after := #[], guard := none }) (v := ?_) rfl (by kernel_rfl) (by kernel_rfl) (by kernel_rfl) (fun _ _ _ h => h) (Or.inl ⟨by rfl, ?_⟩) (by assumption) ?_
              rotate_left
              · intro w hSw
                (try dsimp only at hSw)
                go_simp
                try (with_reducible rfl)
              try simp only [Act.put, List.setIfInBounds_toArray, List.set_cons_zero, List.set_cons_succ]
              refine wpAnyH_take (i := 2) (oi := { dst := some 74, op := Go.Op.indexAddr 39 (Go.Operand.tmp 72) (Go.Operand.tmp 73), type := 0, pos := "ref.go:170", after := #[{ on := 0, ground := Go.Ground.data }, { on := 1, ground := Go.Ground.data }], guard := none }) (v := ?_) rfl (by kernel_rfl) (by kernel_rfl) (by kernel_rfl) (fun _ _ _ h => h) (Or.inl ⟨by rfl, ?_⟩) (by assumption) ?_
              rotate_left
              · intro w hSw
                (try dsimp only at hSw)
                go_simp
                try (with_reducible rfl)
              try simp only [Act.put, List.setIfInBounds_toArray, List.set_cons_zero, List.set_cons_succ]
              refine wpAnyH_take (i := 3) (oi := { dst := some 75, op := Go.Op.fieldAddr 42 (Go.Operand.tmp 74) 0, type := 0, pos := "ref.go:170", after := #[{ on := 2, ground := Go.Ground.data }], guard := none }) (v := ?_) rfl (by kernel_rfl) (by kernel_rfl) (by kernel_rfl) (fun _ _ _ h => h) (Or.inl ⟨by rfl, ?_⟩) (by assumption) ?_
              rotate_left
              · intro w hSw
                (try dsimp only at hSw)
                go_simp
                try (with_reducible rfl)
              try simp only [Act.put, List.setIfInBounds_toArray, List.set_cons_zero, List.set_cons_succ]
              refine wpAnyH_take (i := 4) (oi := { dst := some 76, op := Go.Op.fieldAddr 34 (Go.Operand.tmp 75) 0, type := 0, pos := "ref.go:170", after := #[{ on := 3, ground := Go.Ground.data }], guard := none }) (v := ?_) rfl (by kernel_rfl) (by kernel_rfl) (by kernel_rfl) (fun _ _ _ h => h) (Or.inl ⟨by rfl, ?_⟩) (by assumption) ?_
              rotate_left
              · intro w hSw
                (try dsimp only at hSw)
                go_simp
                try (with_reducible rfl)
              try simp only [Act.put, List.setIfInBounds_toArray, List.set_cons_zero, List.set_cons_succ]
              refine wpAnyH_take (i := 5) (oi := { dst := some 77, op := Go.Op.load 4 (Go.Operand.tmp 76), type := 4, pos := "ref.go:170", after := #[{ on := 4, ground := Go.Ground.data }], guard := none }) (v := ?_) rfl (by kernel_rfl) (by kernel_rfl) (by kernel_rfl) (fun _ _ _ h => h) (Or.inl ⟨by rfl, ?_⟩) (by assumption) ?_
              rotate_left
              · intro w hSw
                (try dsimp only at hSw)
                go_simp
                try (with_reducible rfl)
              try simp only [Act.put, List.setIfInBounds_toArray, List.set_cons_zero, List.set_cons_succ]
              refine wpAnyH_take (i := 6) (oi := { dst := some 78, op := Go.Op.fieldAddr 34 (Go.Operand.tmp 5) 0, type := 0, pos := "ref.go:170", after := #[], guard := none }) (v := ?_) rfl (by kernel_rfl) (by kernel_rfl) (by kernel_rfl) (fun _ _ _ h => h) (Or.inl ⟨by rfl, ?_⟩) (by assumption) ?_
              rotate_left
              · intro w hSw
                (try dsimp only at hSw)
                go_simp
                try (with_reducible rfl)
              try simp only [Act.put, List.setIfInBounds_toArray, List.set_cons_zero, List.set_cons_succ]
              refine wpAnyH_take (i := 7) (oi := { dst := some 79, op := Go.Op.load 4 (Go.Operand.tmp 78), type := 4, pos := "ref.go:170", after := #[{ on := 6, ground := Go.Ground.data }], guard := none }) (v := ?_) rfl (by kernel_rfl) (by kernel_rfl) (by kernel_rfl) (fun _ _ _ h => h) (Or.inl ⟨by rfl, ?_⟩) (by assumption) ?_
              rotate_left
              · intro w hSw
                (try dsimp only at hSw)
                go_simp
                try (with_reducible rfl)
              try simp only [Act.put, List.setIfInBounds_toArray, List.set_cons_zero, List.set_cons_succ]
              refine wpAnyH_take (i := 8) (oi := { dst := some 80, op := Go.Op.binOp Go.BinOp.eql 4 (Go.Operand.tmp 77) (Go.Operand.tmp 79) 4, type := 4, pos := "ref.go:170", after := #[{ on := 5, ground := Go.Ground.data }, { on := 7, ground := Go.Ground.data }], guard := none }) (v := ?_) rfl (by kernel_rfl) (by kernel_rfl) (by kernel_rfl) (fun _ _ _ h => h) (Or.inl ⟨by rfl, ?_⟩) (by assumption) ?_
              rotate_left
              · intro w hSw
                (try dsimp only at hSw)
                go_simp
                try (with_reducible rfl)
              try simp only [Act.put, List.setIfInBounds_toArray, List.set_cons_zero, List.set_cons_succ]
              refine wpAnyH_done (by kernel_rfl) ?_ _
              go_wp2
              go_roundw
              case rel => exact ⟨j + 1, none, rfl, by go_num, hjk, HPk, Lib.hid hT.out.drew⟩
              case measure => simp [intOf]; omega
          · obtain rfl : j = k := by omega
            have jI : ¬ (j : Int) < (j : Int) := by omega
            have HE : Hid (srcI st port (s, ah, al) = none) := Lib.hid (by rw [HSr.out, pickI_no (by rw [HBo.out, hbn]) (famI_none (by rw [HM.out]; exact hnf))]; rfl)
            have y0 := (d5.cell 0).trans (show _ = some (Value.bool false) by rfl)
            have y1 := (d5.cell 1).trans (show _ = some (Value.int .u64 0) by rfl)
            have y2 := (d5.cell 2).trans (show _ = some (Value.int .u64 0) by rfl)
            have z0 := d5.frozen 0
            have z1 := d5.frozen 1
            have z2 := d5.frozen 2
            have hE := ((d5.set_ 0 (.bool false)).set_ 1 (.int .u64 0)).set_ 2 (.int .u64 0)
            have e0 := (hE.cell 0).trans (show _ = some (Value.bool false) by rfl)
            have e1 := (hE.cell 1).trans (show _ = some (Value.int .u64 0) by rfl)
            have e2 := (hE.cell 2).trans (show _ = some (Value.int .u64 0) by rfl)
            have HTe := Lib.hid ((HT0.out.trans hT.out).trans_fre (tch_c3 wr (xb + 1) 0 1 2 (.bool false) (.int .u64 0) (.int .u64 0)) (by simp; have := HXB.out; omega))
            clear d1 d2 d3 d4 d5 hpk hnf hbn hE hjk hj
            go_wp2
            refine bodyPost_ret (v := .tuple #[.agg #[.bool false, .int .u64 0, .int .u64 0], .bool false]) (by simp [results, Try.results32, go_sem, e0, e1, e2]) rfl ⟨by rw [HE.out]; rfl, HTe.out⟩
/-- Source, whatever it is given. -/
theorem srcD (t : Nat) (S : List Nat) (st : StI) (port : Int) (a : AdI) (ha : N64 a.2.1 ∧ N64 a.2.2) (w : World) (h : IfD w t S st) :
    Calls Try.prog 32 #[.pointer (some ⟨t, 0, none⟩), .int .i64 port, adV a] w fun e w' => e = .returned (srV (srcI st port a)) ∧ Tch w w' [] := by
  cases h1 : thereI st port with
  | false => exact srcD_no t S st port a (.inl h1) w h
  | true =>
    cases h2 : vld a.1 (a.2.1 : Int) (a.2.2 : Int) with
    | false => exact srcD_no t S st port a (.inr h2) w h
    | true => exact srcD_ok t S st port a ha h1 h2 w h
end Go.Proofs.Ytabbclocgkhnhaa

namespace Go.Proofs.Ytabbclocgkhnhaa
open Go.RowKit
set_option linter.unusedVariables false

/-- 'append' of a whole row of elements of any size onto a row of the call's own, as a step of a region in an open order. -/
theorem step_apm (tS tE : TypeId) (zv : Value) (sz by_ : Nat) (hu : Try.prog.underlying tS = some (.slice tE)) (hinf : (Try.prog.info? tE).map (fun i => (i.zero, i.size, i.bytes)) = some (some zv, sz, by_)) (hzs : zv.cells.size = sz) (hsz : 0 < sz) (hby : by_ ≤ 1000)
    {ops : Array Oper} {o : Oper} {a : Act} {w : World} {K : Act → World → Prop} {Q : Exit → Act → World → Prop} {E : Prop}
    (hg : o.guard = none) (s x : Operand) (ho : o.op = .call { callee := .builtin .append, args := #[s, x], argTypes := #[tS, tS] })
    (base : Nat) (v : Value) (n : Nat) (xs : List Value) (hs : a.eval s = v) (hown : w.ownsRow base tE sz v n xs)
    (b2 : Nat) (x2 : Value) (m : Nat) (ys : List Value) (hx : a.eval x = x2) (hrow : w.ownsRow b2 tE sz x2 m ys) (h1 : ∀ u ∈ ys, u.oneCell' = true)
    (hn : n + m ≤ 1000000) (hbase : base ≤ w.heap.size)
    (hK : ∀ v' w', w'.ownsRow base tE sz v' (n + m) (xs ++ ys) → w.grownBy w' v.ownBlock → (v'.ownBlock = v.ownBlock ∨ v'.ownBlock = some w.heap.size) → K (a.put o.dst v') w') :
    if Region.wanted o (yielded ops a.tmps) = true then Oper.wp Try.prog o a w K Q else E := by
  have hw : Region.wanted o (yielded ops a.tmps) = true := by simp [Region.wanted, hg]
  rw [if_pos hw]
  obtain ⟨i0, hi, hz0, hz1, hz2⟩ := info_parts hinf
  have hb : (n + m) * by_ ≤ 1000000 * 1000 := Nat.mul_le_mul hn hby
  have hc := fun g hg => hrow.cells (g := g) hg
  have hl := hrow.1
  rcases hrow.2 with ⟨rfl, h0⟩ | ⟨g, cap, cur, rfl, -⟩
  · subst h0
    obtain rfl : ys = [] := List.eq_nil_of_length_eq_zero (by simpa using hl)
    have hrun := run_append_owned_none (P := Try.prog) (w := w) base tS o.type tE i0 sz hu hi v n xs hown
    unfold Oper.wp
    simp [execOp, ho, resolve, invoke, builtin, hs, hx, hrun, Result.andThen]
    exact hK v w (by simpa using hown) (World.grownBy.refl w _) (.inl rfl)
  · obtain ⟨v', w', hrun, r1, r2, -, r4⟩ := run_append_own_at (P := Try.prog) w base tS o.type tE i0 zv sz by_ hu hi hz0 hz1 hz2 hzs hsz v n xs hown ⟨g, 0, none⟩ m cap ys hl (hc g rfl) h1 (by unfold maxLen; omega) (by omega) hbase
    unfold Oper.wp
    simp [execOp, ho, resolve, invoke, builtin, hs, hx, hrun, Result.andThen]
    exact hK v' w' r1 r2 r4
theorem own_ges {w : World} {base e size n : Nat} {v : Value} {xs : List Value} (h : w.ownsRow base e size v n xs) : ∀ s ∈ obI v, base ≤ s := by
  intro s hs
  unfold obI at hs
  cases hb : v.ownBlock with
  | none => rw [hb] at hs; cases hs
  | some k => rw [hb] at hs; rw [List.mem_singleton.1 hs]; exact own_basek h k hb
/-- The row of rows grows by one that was made since. -/
theorem RepI.growN {w w5 w7 : World} {t nP nL B : Nat} {vP vL v : Value} {pr lv : List Value} {L : List (List Loc)} {o : Obj} {A : Option Addr} {c : Nat} {l : List Loc}
    (h : RepI w t vP nP pr vL nL lv L) (hl : lv.length = L.length) (hB : ∀ s ∈ t :: (obI vP ++ (obI vL ++ lv.flatMap obI)), B ≤ s) (hBs : B ≤ w.heap.size)
    (hT : Tch w w5 []) (hrow : w5.ownsRow w.heap.size 42 4 (.slice A l.length c) l.length (l.flatMap lcC))
    (ho : w7.ownsRow 0 39 1 v (nL + 1) (lv ++ [.slice A l.length c])) (hg : (w5.alloc o).grownBy w7 vL.ownBlock) (hv : v.ownBlock = vL.ownBlock ∨ v.ownBlock = some (w5.alloc o).heap.size) :
    RepI (w7.setCell ⟨t, 1, none⟩ v) t vP nP pr v (nL + 1) (lv ++ [.slice A l.length c]) (L ++ [l]) ∧ (∀ s ∈ t :: (obI vP ++ (obI v ++ (lv ++ [Value.slice A l.length c]).flatMap obI)), B ≤ s) ∧ w7.frozen? ⟨t, 1, none⟩ = false ∧ (∃ u, w7.cell? ⟨t, 1, none⟩ = some u) ∧ Tch w (w7.setCell ⟨t, 1, none⟩ v) (t :: obI vL) := by
  have hlt := h.lts hl
  have hs5 := hT.size
  have hRg := own_ges hrow
  have hRl := own_lts hrow
  have hT7 := grown_tch hg
  have hnd := h.nod
  have efl : (lv ++ [Value.slice A l.length c]).flatMap obI = lv.flatMap obI ++ obI (.slice A l.length c) := by rw [List.flatMap_append]; simp
  rw [efl]
  rw [List.nodup_cons, List.nodup_append, List.nodup_append] at hnd
  obtain ⟨n1, n2, ⟨n3, n5, n6⟩, n4⟩ := hnd
  have hob := obI_new hv
  rw [World.size_alloc] at hob
  have ht : t ∉ obI vL := fun hm => n1 (List.mem_append_right _ (List.mem_append_left _ hm))
  have hP : ∀ s ∈ obI vP, s ∉ obI vL := fun s hs hm => n4 s hs s (List.mem_append_left _ hm) rfl
  have hI : ∀ s ∈ lv.flatMap obI, s ∉ obI vL := fun s hs hm => n6 s hm s hs rfl
  have hltP : ∀ s ∈ obI vP, s < w.heap.size := fun s hs => hlt s (List.mem_cons_of_mem _ (List.mem_append_left _ hs))
  have hltL : ∀ s ∈ obI vL, s < w.heap.size := fun s hs => hlt s (List.mem_cons_of_mem _ (List.mem_append_right _ (List.mem_append_left _ hs)))
  have hltI : ∀ s ∈ lv.flatMap obI, s < w.heap.size := fun s hs => hlt s (List.mem_cons_of_mem _ (List.mem_append_right _ (List.mem_append_right _ hs)))
  have hR : ∀ s ∈ obI (.slice A l.length c), s ∉ obI vL := fun s hs hm => by have := hRg s hs; have := hltL s hm; omega
  have hB5 := hT.blk h.blk (by simp)
  have hB7 := hT7.blk hB5 ht
  have hnew : ∀ s, s < w5.heap.size → s ∉ obI vL → s ∉ obI v := fun s hs hn => by
    rcases hob with e1 | e1
    · rw [e1]; exact hn
    · rw [e1, List.mem_singleton]; omega
  have htw := h.blk.lt
  have htv := hnew t (by omega) ht
  have hTs : Tch w7 (w7.setCell ⟨t, 1, none⟩ v) [t] := (Tch.refl w7 [t]).set_ (p := ⟨t, 1, none⟩) (by simp) v
  have hPt : ∀ s ∈ obI vP, s ∉ [t] := fun s hs hm => n1 (by rw [List.mem_singleton.1 hm] at hs; exact List.mem_append_left _ hs)
  have hIt : ∀ s ∈ lv.flatMap obI, s ∉ [t] := fun s hs hm => n1 (by rw [List.mem_singleton.1 hm] at hs; exact List.mem_append_right _ (List.mem_append_right _ hs))
  have hRt : ∀ s ∈ obI (.slice A l.length c), s ∉ [t] := fun s hs hm => by have := hRg s hs; have := List.mem_singleton.1 hm; omega
  refine ⟨⟨?_, hB7.set_ 1 _, own_tch (own_tch (own_tch h.rowP hT (by simp)) hT7 hP) hTs hPt, own_tch ho hTs (fun s hs hm => htv (by rw [List.mem_singleton.1 hm] at hs; exact hs)), fun i m hl2 => ?_⟩, fun s hs => ?_, hB7.frozen 1, ⟨_, hB7.cell 1⟩, ?_⟩
  · rw [efl, List.nodup_cons, List.nodup_append, List.nodup_append, List.nodup_append]
    refine ⟨fun hm => ?_, n2, ⟨?_, ⟨n5, obI_nodup _, fun a ha b hb e => ?_⟩, fun a ha b hb e => ?_⟩, fun a ha b hb e => ?_⟩
    · rcases List.mem_append.1 hm with h1 | h1
      · exact n1 (List.mem_append_left _ h1)
      rcases List.mem_append.1 h1 with h1 | h1
      · exact htv h1
      rcases List.mem_append.1 h1 with h1 | h1
      · exact n1 (List.mem_append_right _ (List.mem_append_right _ h1))
      · have := hRg t h1; omega
    · rcases hob with e1 | e1
      · rw [e1]; exact n3
      · rw [e1]; simp
    · have := hltI a ha; have := hRg b hb; omega
    · subst e
      rcases List.mem_append.1 hb with h1 | h1
      · exact hnew a (by have := hltI a h1; omega) (hI a h1) ha
      · exact hnew a (hRl a h1) (hR a h1) ha
    · subst e
      rcases List.mem_append.1 hb with h1 | h1
      · exact hnew a (by have := hltP a ha; omega) (hP a ha) h1
      rcases List.mem_append.1 h1 with h1 | h1
      · exact n4 a ha a (List.mem_append_right _ h1) rfl
      · have := hRg a h1; have := hltP a ha; omega
  · rcases Nat.lt_or_ge i L.length with h1 | h1
    · rw [List.getElem?_append_left h1] at hl2
      obtain ⟨A', c', e2, ho2⟩ := h.inn i m hl2
      have hm : ∀ s ∈ obI (.slice A' m.length c'), s ∈ lv.flatMap obI := fun s hs => List.mem_flatMap.2 ⟨_, List.mem_of_getElem? e2, hs⟩
      exact ⟨A', c', by rw [List.getElem?_append_left (by omega)]; exact e2, own_tch (own_tch (own_tch ho2 hT (by simp)) hT7 (fun s hs => hI s (hm s hs))) hTs (fun s hs => hIt s (hm s hs))⟩
    · rw [List.getElem?_append_right h1] at hl2
      have hi : i = L.length := by have := (List.getElem?_eq_some_iff.1 hl2).1; simp at this; omega
      subst hi
      simp at hl2
      subst hl2
      exact ⟨A, c, by rw [List.getElem?_append_right (by omega), hl]; simp, own_mono (own_tch (own_tch hrow hT7 hR) hTs hRt) (Nat.zero_le _)⟩
  · rcases List.mem_cons.1 hs with h1 | h1
    · exact hB s (by rw [h1]; simp)
    rcases List.mem_append.1 h1 with h1 | h1
    · exact hB s (List.mem_cons_of_mem _ (List.mem_append_left _ h1))
    rcases List.mem_append.1 h1 with h1 | h1
    · rcases hob with e1 | e1
      · rw [e1] at h1; exact hB s (List.mem_cons_of_mem _ (List.mem_append_right _ (List.mem_append_left _ h1)))
      · rw [e1, List.mem_singleton] at h1; omega
    rcases List.mem_append.1 h1 with h1 | h1
    · exact hB s (List.mem_cons_of_mem _ (List.mem_append_right _ (List.mem_append_right _ h1)))
    · have := hRg s h1; omega
  · exact ((hT.mono (by simp)).trans (hT7.mono (fun s hs => List.mem_cons_of_mem _ hs))).set_ (p := ⟨t, 1, none⟩) (by simp) _
theorem prC_one (l : List Prt) : ∀ u ∈ l.flatMap prC, u.oneCell' = true := by
  intro u hu
  obtain ⟨x, -, hx⟩ := List.mem_flatMap.1 hu
  unfold prC at hx
  simp at hx
  rcases hx with rfl | rfl | rfl | rfl <;> rfl
end Go.Proofs.Ytabbclocgkhnhaa

namespace Go.Proofs.Ytabbclocgkhnhaa
open Go.RowKit
set_option linter.unusedVariables false

/-- What Copy has made after i ports. -/
def CpI (w wr : World) (d : Nat) (st : StI) (i : Nat) : Prop := ∃ (AP AL : Option Addr) (cP cL : Nat) (lv : List Value), RepI wr d (.slice AP st.1.length cP) st.1.length (st.1.flatMap prC) (.slice AL i cL) i lv (st.2.take i) ∧ lv.length = i ∧ (∀ s ∈ d :: (obI (.slice AP st.1.length cP) ++ (obI (.slice AL i cL) ++ lv.flatMap obI)), w.heap.size ≤ s) ∧ Tch w wr []
theorem cp_start {w W0 w1 : World} {xb n c1 : Nat} {A1 : Option Addr} {st : StI} (hX1 : Blk w1 xb 67 #[.slice none 0 0, .slice none 0 0]) (ho : w1.ownsRow W0.heap.size 46 4 (.slice A1 n c1) n (st.1.flatMap prC)) (hn : st.1.length = n) (hxW : xb < W0.heap.size) (hx : w.heap.size ≤ xb) (hT : Tch w w1 []) :
    CpI w (w1.setCell ⟨xb, 0, none⟩ (.slice A1 n c1)) xb st 0 := by
  subst hn
  have hg := own_ges ho
  have hTs : Tch w1 (w1.setCell ⟨xb, 0, none⟩ (.slice A1 st.1.length c1)) [xb] := (Tch.refl w1 [xb]).set_ (p := ⟨xb, 0, none⟩) (by simp) _
  refine ⟨A1, none, c1, 0, [], ⟨?_, hX1.set_ 0 _, own_mono (own_tch ho hTs (fun s hs hm => by have := hg s hs; have := List.mem_singleton.1 hm; omega)) (Nat.zero_le _), ⟨rfl, .inl ⟨rfl, rfl⟩⟩, fun i l hl => by simp at hl⟩, rfl, fun s hs => ?_, hT.trans_fre hTs (by simp; omega)⟩
  · rw [List.nodup_cons]
    refine ⟨fun hm => ?_, by simpa [obI, Value.ownBlock] using obI_nodup (.slice A1 st.1.length c1)⟩
    have : xb ∈ obI (.slice A1 st.1.length c1) := by simpa [obI, Value.ownBlock] using hm
    have := hg xb this
    omega
  · rcases List.mem_cons.1 hs with h1 | h1
    · omega
    · have : s ∈ obI (.slice A1 st.1.length c1) := by simpa [obI, Value.ownBlock] using h1
      have := hg s this
      omega
theorem IfD.rowAt {W : World} {t i : Nat} {S : List Nat} {st : StI} (h : IfD W t S st) (hi : i < st.1.length) : ∃ (gL cL : Nat) (A : Option Addr) (c : Nat) (l : List Loc), W.cell? ⟨t, 1, none⟩ = some (.slice (some ⟨gL, 0, none⟩) st.1.length cL) ∧ W.cell? ⟨gL, i, none⟩ = some (.slice A l.length c) ∧
    W.ownsRow 0 42 4 (.slice A l.length c) l.length (l.flatMap lcC) ∧ st.2[i]? = some l ∧ t < W.heap.size ∧ gL < W.heap.size := by
  have ht : thereI st ((i : Int) + 1) = true := by unfold thereI; rw [decide_eq_true_eq]; omega
  obtain ⟨gL, cL, A, c, n, i', l, q1, q2, q3, q4, q5, q6, q7, q8, q9, rfl, q11, q12, -⟩ := h.row ht
  have e : i' = i := by rw [← q9]; unfold idxI; omega
  subst e
  exact ⟨gL, cL, A, c, l, q1, q2, q3, q8, q11, q12⟩
set_option maxRecDepth 100000 in
set_option maxHeartbeats 4000000 in
theorem copyD (t : Nat) (S : List Nat) (st : StI) (w : World) (h : IfD w t S st) :
    Calls Try.prog 21 #[.pointer (some ⟨t, 0, none⟩)] w fun e w' => ∃ d S', e = .returned (.pointer (some ⟨d, 0, none⟩)) ∧ IfD w' d S' st ∧ Tch w w' [] ∧ ∀ s ∈ S', w.heap.size ≤ s := by
  have HS0 := Lib.hid h
  have hf := h.few
  have hlen := h.inv.len
  obtain ⟨xb, hxb⟩ : ∃ xb, w.heap.size = xb := ⟨_, rfl⟩
  obtain ⟨W0, hW0⟩ : ∃ W, w.alloc (.cells #[.slice none 0 0, .slice none 0 0] 67) = W := ⟨_, rfl⟩
  have hX : Blk W0 xb 67 #[.slice none 0 0, .slice none 0 0] := hW0 ▸ hxb ▸ Blk.new _ _ _
  have x0 := (hX.cell 0).trans (show _ = some (Value.slice none 0 0) by rfl)
  have f0 := hX.frozen 0
  have HX := Lib.hid hX
  have HT0 : Hid (Tch w W0 []) := Lib.hid (hW0 ▸ (Tch.refl w []).alloc _)
  have hD0 := h.tch HT0.out (by simp)
  have HD0 := Lib.hid hD0
  have HW0 := Lib.hid (And.intro hW0 hxb)
  obtain ⟨AP, AL, cP, cL, lv, -, hRp, -⟩ := hD0.rep
  have c0 := (hRp.blk.cell 0).trans (show _ = some (Value.slice AP st.1.length cP) by rfl)
  have HRowP := Lib.hid hRp.rowP
  have HTl : Hid (t < W0.heap.size ∧ t < w.heap.size) := Lib.hid ⟨hRp.blk.lt, h.lt t (by obtain ⟨_, _, _, _, _, e, -⟩ := h; rw [e]; simp)⟩
  obtain ⟨n, hn⟩ : ∃ n, st.1.length = n := ⟨_, rfl⟩
  have HN := Lib.hid hn
  have HN2 : Hid (st.2.length = n) := Lib.hid (by omega)
  rw [hn] at c0 HRowP hf
  have hne : t ≠ xb := by have := HTl.out.2; omega
  have HNil : Hid (W0.drew.ownsRow W0.heap.size 46 4 (.slice none 0 0) 0 []) := Lib.hid ⟨rfl, .inl ⟨rfl, rfl⟩⟩
  have HSz : Hid (0 + n ≤ 1000000) := Lib.hid (by omega)
  have HRowP2 : Hid (W0.drew.ownsRow 0 46 4 (.slice AP n cP) n (st.1.flatMap prC)) := Lib.hid HRowP.out.drew
  have HXl : Hid (xb < W0.heap.size) := Lib.hid hX.lt
  clear h hW0 hxb hX hD0 hRp hn hlen hne
  go_enter Try.func21, Try.ntmps21
  go_wp2
  rw [HW0.out.1, HW0.out.2]
  go_region_law (refine step_apm 64 46 (.agg #[.string ⟨#[]⟩, .int .u64 0, .int .i64 0, .bool false]) 4 40 Try.underlying64 infoPt rfl (by decide) (by decide) rfl (.tmp 12) (.tmp 16) rfl W0.heap.size (.slice none 0 0) 0 [] (by simp [Act.eval]) HNil.out 0 (.slice AP n cP) n (st.1.flatMap prC) (by simp [Act.eval]) HRowP2.out (prC_one st.1) HSz.out (Nat.le_refl _) ?_; intro v1 w1 hown hg hv; have hT1 : Tch W0 w1 [] := (Tch.refl W0 []).drew.trans (Tch.of_grown' hg (fun g e => by cases e)); have g0 := hT1.blk HX.out (by simp); have g1 := (g0.cell 0).trans (show _ = some (Value.slice none 0 0) by rfl); have g2 := g0.frozen 0; obtain ⟨A1, c1, e1, -, -⟩ := own_sl hown; subst e1; have HO1 := Lib.hid hown; have HT1 := Lib.hid hT1; have HG0 := Lib.hid g0; clear hown hg hv hT1 g0)
  all_goals
    have HCp : Hid (CpI w (w1.setCell ⟨xb, 0, none⟩ (.slice A1 n c1)) xb st 0) := Lib.hid (cp_start HG0.out (by have := HO1.out; rw [Nat.zero_add] at this; simpa using this) HN.out HXl.out (by have := HW0.out.2; omega) (HT0.out.trans HT1.out))
    clear g1 g2 c0 f0 x0
    go_wp2
    go_loopw [4] (fun iv wr => ∃ i : Nat, iv = .int .i64 (i : Int) ∧ i ≤ n ∧ Hid (CpI w wr xb st i)) (fun iv _ => n - (intOf iv).toNat)
    case atStart => exact ⟨0, rfl, Nat.zero_le _, HCp⟩
    case round =>
      obtain ⟨i, rfl, hi, hC⟩ := hrel
      obtain ⟨AQ, AL2, cQ, cL2, lv2, hR, hlv, hge, hT⟩ := hC.out
      have hD := HS0.out.tch hT (by simp)
      have j1 : IntKind.i64.wrap ((i : Int) + 1) = (i : Int) + 1 := by rw [IntKind.wrap_i64]; omega
      have d1 := (hR.blk.cell 1).trans (show _ = some (Value.slice AL2 i cL2) by rfl)
      have d2 := hR.blk.frozen 1
      by_cases hlt : i < n
      · have i0 : (0 : Int) ≤ (i : Int) := by omega
        have i1 : (i : Int) < (n : Int) := by omega
        obtain ⟨gL, cG, A, c, l, q1, q2, q3, q8, q11, q12⟩ := hD.rowAt (i := i) (by rw [HN.out]; exact hlt)
        rw [HN.out] at q1
        obtain ⟨m, hm⟩ : ∃ m, l.length = m := ⟨_, rfl⟩
        have hm8 : m ≤ 8 := by rw [← hm]; exact hD.inv.loc l (List.mem_of_getElem? q8)
        rw [hm] at q2 q3
        have HQ8 := Lib.hid q8
        have HM := Lib.hid hm
        have HR := Lib.hid hR
        have HLv := Lib.hid hlv
        have HGe := Lib.hid hge
        have HT := Lib.hid hT
        have HTk : Hid (st.2.take (i + 1) = st.2.take i ++ [l]) := Lib.hid (by rw [List.take_add_one, q8]; rfl)
        have HNl : Hid (wr.drew.ownsRow wr.heap.size 42 4 (.slice none 0 0) 0 []) := Lib.hid ⟨rfl, .inl ⟨rfl, rfl⟩⟩
        have HO3 : Hid (wr.drew.ownsRow 0 42 4 (.slice A m c) m (l.flatMap lcC)) := Lib.hid q3.drew
        have HSm : Hid (0 + m ≤ 1000000 ∧ i ≤ 1000000) := Lib.hid (by omega)
        have HXb : Hid (xb < wr.heap.size) := Lib.hid hR.blk.lt
        clear hC hR hlv hge hT hD q3 q8 q11 q12 hm hm8
        go_wp2
        go_region_law (first
          | (refine step_apm 39 42 (.agg #[.bool false, .int .u64 0, .int .u64 0, .int .i64 0]) 4 32 Try.underlying39 infoLc rfl (by decide) (by decide) rfl (.tmp 34) (.tmp 41) rfl wr.heap.size (.slice none 0 0) 0 [] (by simp [Act.eval]) HNl.out 0 (.slice A m c) m (l.flatMap lcC) (by simp [Act.eval]) HO3.out (lcC_one l) HSm.out.1 (Nat.le_refl _) ?_; intro v5 w5 hown hg hv; obtain ⟨A5, c5, e5, -, -⟩ := own_sl hown; subst e5; rw [Nat.zero_add] at hown ⊢; have hT5 : Tch wr w5 [] := (Tch.refl wr []).drew.trans (Tch.of_grown' hg (fun g e => by cases e)); have b1 := (hT5.cell (p := ⟨xb, 1, none⟩) HXb.out (by simp)).trans d1; have b2 : (w5.alloc (.cells #[.slice A5 m c5] 39)).cell? ⟨xb, 1, none⟩ = some (Value.slice AL2 i cL2) := Lib.cell?_alloc_some _ b1; have HO5 : Hid (w5.ownsRow wr.heap.size 42 4 (.slice A5 m c5) m (l.flatMap lcC)) := Lib.hid (by simpa using hown); have HT5 := Lib.hid hT5; have HL5 : Hid ((w5.alloc (.cells #[.slice A5 m c5] 39)).ownsRow 0 39 1 (.slice AL2 i cL2) i lv2) := Lib.hid ((own_tch HR.out.rowL hT5 (by simp)).alloc _); have HSr := Lib.hid (src_new w5 39 [Value.slice A5 m c5]); clear hown hg hv hT5)
          | (refine step_apc 65 39 (.slice none 0 0) 1 24 Try.underlying65 infoLs rfl (by decide) (by decide) rfl (.tmp 33) (.tmp 43) rfl 0 (.slice AL2 i cL2) i lv2 (by simp [Act.eval]) HL5.out ⟨w5.heap.size, 0, none⟩ 1 [Value.slice A5 m c5] (by simp [Act.eval]) rfl (fun j u hj => HSr.out j u hj) (by simp [Value.oneCell']) HSm.out.2 (Nat.zero_le _) ?_; intro v7 w7 hown hg hv; obtain ⟨k1, k2, k3, ⟨u7, k4⟩, k5⟩ := RepI.growN (l := l) (A := A5) (c := c5) HR.out (by rw [HLv.out, List.length_take, HN2.out]; omega) HGe.out HT.out.size HT5.out (by rw [HM.out]; exact HO5.out) (by rw [HM.out]; exact hown) hg hv; obtain ⟨A7, c7, e7, -, -⟩ := own_sl hown; subst e7; rw [HM.out] at k1 k2; have HR7 := Lib.hid k1; have HG7 := Lib.hid k2; have HT7 := Lib.hid k5; clear hown hg hv k1 k2 k5))
        all_goals
          have HC7 : Hid (CpI w (w7.setCell ⟨xb, 1, none⟩ (.slice A7 (i + 1) c7)) xb st (i + 1)) := Lib.hid ⟨AQ, A7, cQ, c7, lv2 ++ [Value.slice A5 m c5], by rw [HTk.out]; exact HR7.out, by simp [HLv.out], HG7.out, HT.out.trans_fre HT7.out (fun s hs => .inr (HGe.out s (by rcases List.mem_cons.1 hs with h1 | h1; (rw [h1]; simp); exact List.mem_cons_of_mem _ (List.mem_append_right _ (List.mem_append_left _ h1)))))⟩
          clear d1 d2 q1 q2 b1 b2 k3 k4
          go_wp2
          go_roundw
          case rel => exact ⟨i + 1, by go_num, hlt, HC7⟩
          case measure => simp [intOf]; omega
      · obtain rfl : i = n := by omega
        have i1 : ¬ (i : Int) < (i : Int) := by omega
        obtain ⟨gg, cg, hcell⟩ : ∃ A c, wr.cell? ⟨t, 1, none⟩ = some (.slice A i c) := by
          obtain ⟨AP', AL', cP', cL', lv', -, hR', -⟩ := hD.rep
          exact ⟨AL', cL', by rw [← HN.out]; exact (hR'.blk.cell 1).trans rfl⟩
        have HR := Lib.hid hR
        have HLv := Lib.hid hlv
        have HGe := Lib.hid hge
        have HT := Lib.hid hT
        have HI := Lib.hid hD.inv
        clear hC hR hlv hge hT hD hlt hi d1 d2
        go_wp2
        have h1 := HR.out
        rw [List.take_of_length_le (Nat.le_of_eq HN2.out)] at h1
        rw [HN.out] at h1
        have h2 := HGe.out
        rw [HN.out] at h2
        exact bodyPost_ret (v := .pointer (some ⟨xb, 0, none⟩)) (by simp [results, Try.results21, go_sem]) rfl ⟨xb, rfl, _, RepI.back HN.out h1 HLv.out HI.out, HT.out, h2⟩
end Go.Proofs.Ytabbclocgkhnhaa
