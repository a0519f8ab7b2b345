/-
  The program's own rib (layer 15): isBetter, Better; isSameWay.
-/
import Derived.Test.YtjlmgkdieffjcaaDoorRpB
import Derived.StillTailTactics
namespace Go.Proofs.YtjlmgkdieffjcaaDoor
open Go.RowKit
set_option linter.unusedVariables false

theorem Blk.p7 {w : World} {g : Nat} {t : TypeId} {a b c d e f i : Value} (h : Blk w g t #[a, b, c, d, e, f, i]) : w.cell? ⟨g, 0, none⟩ = some a ∧ w.cell? ⟨g, 1, none⟩ = some b ∧ w.cell? ⟨g, 2, none⟩ = some c ∧ w.cell? ⟨g, 3, none⟩ = some d ∧ w.cell? ⟨g, 4, none⟩ = some e ∧ w.cell? ⟨g, 5, none⟩ = some f ∧ w.cell? ⟨g, 6, none⟩ = some i :=
  ⟨by rw [h.cell]; rfl, by rw [h.cell]; rfl, by rw [h.cell]; rfl, by rw [h.cell]; rfl, by rw [h.cell]; rfl, by rw [h.cell]; rfl, by rw [h.cell]; rfl⟩
theorem bet_or (x y : PaI) : decide (orI ((keyX x).zipWith cmpI (keyX y)) < 0) = betI x y := by
  rw [Bool.eq_iff_iff, decide_eq_true_eq, betI_key, or_key (a := keyX x) (b := keyX y) rfl]
set_option maxRecDepth 100000 in
set_option maxHeartbeats 4000000 in
theorem better_m (x y : PaI) (w : World) (hE : EnvR w) : Calls Tryd.prog 24 #[paR x, paR y] w fun e w' => e = .returned (.bool (betI x y)) ∧ Tch w w' [] := by
  have HB := Lib.hid (bet_or x y)
  obtain ⟨R, hR⟩ : ∃ R, betI x y = R := ⟨_, rfl⟩
  rw [hR] at HB ⊢
  clear hR
  obtain ⟨pr, me, ⟨vs, vh, vl⟩, po, aw⟩ := x
  obtain ⟨qr, ne, ⟨us, uh, ul⟩, qo, bw⟩ := y
  obtain ⟨a0, ha0⟩ : ∃ a, cmpI (distI pr) (distI qr) = a := ⟨_, rfl⟩
  obtain ⟨a1, ha1⟩ : ∃ a, cmpI me ne = a := ⟨_, rfl⟩
  obtain ⟨a2, ha2⟩ : ∃ a, cmpI po qo = a := ⟨_, rfl⟩
  obtain ⟨a3, ha3⟩ : ∃ a, cmpI (bI vs) (bI us) = a := ⟨_, rfl⟩
  obtain ⟨a4, ha4⟩ : ∃ a, cmpI (vh : Int) (uh : Int) = a := ⟨_, rfl⟩
  obtain ⟨a5, ha5⟩ : ∃ a, cmpI (vl : Int) (ul : Int) = a := ⟨_, rfl⟩
  obtain ⟨a6, ha6⟩ : ∃ a, cmpI (bI aw) (bI bw) = a := ⟨_, rfl⟩
  have HB : Hid (decide (orI [a0, a1, a2, a3, a4, a5, a6] < 0) = R) := Lib.hid (by rw [← HB.out, ← ha0, ← ha1, ← ha2, ← ha3, ← ha4, ← ha5, ← ha6]; rfl)
  obtain ⟨d0, hd0⟩ : ∃ d, distI pr = d := ⟨_, rfl⟩
  obtain ⟨d1, hd1⟩ : ∃ d, distI qr = d := ⟨_, rfl⟩
  rw [hd0, hd1] at ha0
  obtain ⟨xb, hxb⟩ : ∃ xb, w.heap.size = xb := ⟨_, rfl⟩
  obtain ⟨W0, hW0⟩ : ∃ W, (w.alloc (.cells #[.int .i64 pr, .int .i64 me, .bool vs, .int .u64 (vh : Int), .int .u64 (vl : Int), .int .i64 po, .bool aw] 55)).alloc (.cells #[.int .i64 qr, .int .i64 ne, .bool us, .int .u64 (uh : Int), .int .u64 (ul : Int), .int .i64 qo, .bool bw] 26) = W := ⟨_, rfl⟩
  have hX : Blk W0 xb 55 #[.int .i64 pr, .int .i64 me, .bool vs, .int .u64 (vh : Int), .int .u64 (vl : Int), .int .i64 po, .bool aw] := hW0 ▸ hxb ▸ (Blk.new _ _ _).alloc _
  have hY : Blk W0 (xb + 1) 26 #[.int .i64 qr, .int .i64 ne, .bool us, .int .u64 (uh : Int), .int .u64 (ul : Int), .int .i64 qo, .bool bw] := by
    rw [← hW0, ← hxb, show w.heap.size + 1 = (w.alloc (.cells #[.int .i64 pr, .int .i64 me, .bool vs, .int .u64 (vh : Int), .int .u64 (vl : Int), .int .i64 po, .bool aw] 55)).heap.size by simp]
    exact Blk.new _ _ _
  have hT0 : Tch w W0 [] := hW0 ▸ ((Tch.refl w []).alloc _).alloc _
  have hE0 : EnvR W0 := hE.tch0 hT0
  have HT0 := Lib.hid hT0
  obtain ⟨W1, hW1⟩ : ∃ W1, W0.drew = W1 := ⟨_, rfl⟩
  have hX1 : Blk W1 xb _ _ := hW1 ▸ hX.drew
  have hY1 : Blk W1 (xb + 1) _ _ := hW1 ▸ hY.drew
  have HE1 : Hid (EnvR W1) := Lib.hid (hW1 ▸ hE0.tch0 (Tch.refl W0 []).drew)
  have HT1 : Hid (Tch w W1 []) := Lib.hid (hW1 ▸ hT0.drew)
  have HW1 := Lib.hid hW1
  have x0 := (hX1.cell 0).trans (show _ = some (Value.int .i64 pr) by rfl)
  have x1 := (hX1.cell 1).trans (show _ = some (Value.int .i64 me) by rfl)
  have x2 := (hX1.cell 2).trans (show _ = some (Value.bool vs) by rfl)
  have x3 := (hX1.cell 3).trans (show _ = some (Value.int .u64 (vh : Int)) by rfl)
  have x4 := (hX1.cell 4).trans (show _ = some (Value.int .u64 (vl : Int)) by rfl)
  have x5 := (hX1.cell 5).trans (show _ = some (Value.int .i64 po) by rfl)
  have x6 := (hX1.cell 6).trans (show _ = some (Value.bool aw) by rfl)
  have y0 := (hY1.cell 0).trans (show _ = some (Value.int .i64 qr) by rfl)
  have y1 := (hY1.cell 1).trans (show _ = some (Value.int .i64 ne) by rfl)
  have y2 := (hY1.cell 2).trans (show _ = some (Value.bool us) by rfl)
  have y3 := (hY1.cell 3).trans (show _ = some (Value.int .u64 (uh : Int)) by rfl)
  have y4 := (hY1.cell 4).trans (show _ = some (Value.int .u64 (ul : Int)) by rfl)
  have y5 := (hY1.cell 5).trans (show _ = some (Value.int .i64 qo) by rfl)
  have y6 := (hY1.cell 6).trans (show _ = some (Value.bool bw) by rfl)
  have C0 := Lib.hid (pdist_any pr W1 HE1.out)
  have C1 := Lib.hid (pdist_any qr W1 HE1.out)
  have C2 := Lib.hid (cmp_i d0 d1 W1)
  have C3 := Lib.hid (cmp_i me ne W1)
  have C4 := Lib.hid (cmp_i po qo W1)
  have C5 := Lib.hid (cmpB_any vs us W1)
  have C6 := Lib.hid (cmp_u vh uh W1)
  have C7 := Lib.hid (cmp_u vl ul W1)
  have C8 := Lib.hid (cmpB_any aw bw W1)
  rw [hd0] at C0
  rw [hd1] at C1
  rw [ha0] at C2
  rw [ha1] at C3
  rw [ha2] at C4
  rw [ha3] at C5
  rw [ha4] at C6
  rw [ha5] at C7
  rw [ha6] at C8
  have HOr : Hid (Calls Tryd.prog 43 #[.slice (some ⟨W1.heap.size, 0, none⟩) 7 7] (W1.alloc (.cells #[.int .i64 a0, .int .i64 a1, .int .i64 a2, .int .i64 a3, .int .i64 a4, .int .i64 a5, .int .i64 a6] 3)) fun e w' => e = .returned (.int .i64 (orI [a0, a1, a2, a3, a4, a5, a6])) ∧ w' = W1.alloc (.cells #[.int .i64 a0, .int .i64 a1, .int .i64 a2, .int .i64 a3, .int .i64 a4, .int .i64 a5, .int .i64 a6] 3)) := Lib.hid (or_any _ 7 7 _ rfl (by decide) _ (fun j x hj => by
    rw [(Blk.new W1 3 #[.int .i64 a0, .int .i64 a1, .int .i64 a2, .int .i64 a3, .int .i64 a4, .int .i64 a5, .int .i64 a6]).cell]
    have : j < 7 := (List.getElem?_eq_some_iff.1 hj).1
    rcases (show j = 0 ∨ j = 1 ∨ j = 2 ∨ j = 3 ∨ j = 4 ∨ j = 5 ∨ j = 6 by omega) with rfl | rfl | rfl | rfl | rfl | rfl | rfl <;> (injection hj with hj; subst hj; rfl)))
  obtain ⟨o, ho⟩ : ∃ o, orI [a0, a1, a2, a3, a4, a5, a6] = o := ⟨_, rfl⟩
  rw [ho] at HOr HB
  have HFin : Hid (∀ ob, Tch w (W1.alloc ob) []) := Lib.hid (fun ob => HT1.out.alloc ob)
  have hB := HB.out
  clear ha0 ha1 ha2 ha3 ha4 ha5 ha6 hd0 hd1 hX hY hT0 hE0 hE hX1 hY1 ho HE1 HT0 HB hW1
  go_enter Tryd.func24, Tryd.ntmps24
  go_wp2_with fail
  refine wp_region_still_tail 43 (by kernel_rfl) (by kernel_rfl) ?_
  rw [show ({ W0 with drawn := W0.drawn + 1 } : World) = W1 from HW1.out]
  simp only [List.take_succ_cons, List.take_zero, List.drop_succ_cons, List.drop_zero]
  repeat still_step
  still_call C0.out
  repeat still_step
  still_call C1.out
  repeat still_step
  still_call C2.out
  repeat still_step
  still_call C3.out
  repeat still_step
  still_call C4.out
  repeat still_step
  still_call C5.out
  repeat still_step
  still_call C6.out
  repeat still_step
  still_call C7.out
  repeat still_step
  still_call C8.out
  refine wpStill_nil ?_
  go_wp2_with fail
  refine Calls.mono HOr.out ?_
  rintro e w' ⟨rfl, rfl⟩
  subst hB
  go_wp2
  go_ret
  exact ⟨rfl, HFin.out _⟩
set_option maxRecDepth 100000 in
set_option maxHeartbeats 1000000 in
theorem betterP (x y : PaI) (hx : PaOk x) (hy : PaOk y) (w : World) (hE : EnvR w) : Calls Tryd.prog 8 #[paR x, paR y] w fun e w' => e = .returned (.bool (betI x y)) ∧ Tch w w' [] := by
  have HB := Lib.hid (fun W (hT : Tch w W []) => better_m x y W (hE.tch0 hT))
  obtain ⟨R, hR⟩ : ∃ R, betI x y = R := ⟨_, rfl⟩
  rw [hR] at HB ⊢
  clear hR hx hy hE
  obtain ⟨pr, me, ⟨vs, vh, vl⟩, po, aw⟩ := x
  obtain ⟨qr, ne, ⟨us, uh, ul⟩, qo, bw⟩ := y
  obtain ⟨xb, hxb⟩ : ∃ xb, w.heap.size = xb := ⟨_, rfl⟩
  obtain ⟨W0, hW0⟩ : ∃ W, (w.alloc (.cells #[.int .i64 pr, .int .i64 me, .bool vs, .int .u64 (vh : Int), .int .u64 (vl : Int), .int .i64 po, .bool aw] 26)).alloc (.cells #[.int .i64 qr, .int .i64 ne, .bool us, .int .u64 (uh : Int), .int .u64 (ul : Int), .int .i64 qo, .bool bw] 26) = W := ⟨_, rfl⟩
  have hX : Blk W0 xb 26 #[.int .i64 pr, .int .i64 me, .bool vs, .int .u64 (vh : Int), .int .u64 (vl : Int), .int .i64 po, .bool aw] := hW0 ▸ hxb ▸ (Blk.new _ _ _).alloc _
  have hY : Blk W0 (xb + 1) 26 #[.int .i64 qr, .int .i64 ne, .bool us, .int .u64 (uh : Int), .int .u64 (ul : Int), .int .i64 qo, .bool bw] := by
    rw [← hW0, ← hxb, show w.heap.size + 1 = (w.alloc (.cells #[.int .i64 pr, .int .i64 me, .bool vs, .int .u64 (vh : Int), .int .u64 (vl : Int), .int .i64 po, .bool aw] 26)).heap.size by simp]
    exact Blk.new _ _ _
  have hT0 : Tch w W0 [] := hW0 ▸ ((Tch.refl w []).alloc _).alloc _
  have HC := Lib.hid (HB.out W0 hT0)
  have HT0 := Lib.hid hT0
  obtain ⟨x0, x1, x2, x3, x4, x5, x6⟩ := hX.p7
  obtain ⟨y0, y1, y2, y3, y4, y5, y6⟩ := hY.p7
  clear hX hY hT0 HB
  go_enter Tryd.func8, Tryd.ntmps8
  go_wp2_with fail
  refine Calls.mono HC.out ?_
  rintro e w' ⟨rfl, hT⟩
  go_wp2
  go_ret
  exact ⟨rfl, HT0.out.trans hT⟩
end Go.Proofs.YtjlmgkdieffjcaaDoor
