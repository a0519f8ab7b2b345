/-
  crosswaylaw15.RibBetter returns true for every input, and leaves its arguments alone.
  Conditions: none of our own.
-/
import Derived.Test.YtjlmgkdieffjcaaDoorMgL
import Derived.Test.YtjlmgkdieffjcaaDoorREnv
namespace Go.Proofs.YtjlmgkdieffjcaaDoor
open Go.ChangeShapes Go.WideShapes Go.ChangeAt Go.RowKit
set_option linter.unusedVariables false
namespace RBet
set_option maxRecDepth 100000 in
set_option maxHeartbeats 8000000 in
theorem walk (w : World) (hE : EnvR w) (a0_0 : Int) (w0_0 : (Lit.int .i64 a0_0).wf = true) (a0_1 : Int) (w0_1 : (Lit.int .i64 a0_1).wf = true) (a0_2 : Bool) (a0_3 : Int) (w0_3 : (Lit.int .u64 a0_3).wf = true) (a0_4 : Int) (w0_4 : (Lit.int .u64 a0_4).wf = true) (a0_5 : Int) (w0_5 : (Lit.int .i64 a0_5).wf = true) (a0_6 : Bool) (a1_0 : Int) (w1_0 : (Lit.int .i64 a1_0).wf = true) (a1_1 : Int) (w1_1 : (Lit.int .i64 a1_1).wf = true) (a1_2 : Bool) (a1_3 : Int) (w1_3 : (Lit.int .u64 a1_3).wf = true) (a1_4 : Int) (w1_4 : (Lit.int .u64 a1_4).wf = true) (a1_5 : Int) (w1_5 : (Lit.int .i64 a1_5).wf = true) (a1_6 : Bool) (a2_0 : Int) (w2_0 : (Lit.int .i64 a2_0).wf = true) (a2_1 : Int) (w2_1 : (Lit.int .i64 a2_1).wf = true) (a2_2 : Bool) (a2_3 : Int) (w2_3 : (Lit.int .u64 a2_3).wf = true) (a2_4 : Int) (w2_4 : (Lit.int .u64 a2_4).wf = true) (a2_5 : Int) (w2_5 : (Lit.int .i64 a2_5).wf = true) (a2_6 : Bool) :
    Calls Tryd.prog 3 #[.agg #[.int .i64 a0_0, .int .i64 a0_1, .bool a0_2, .int .u64 a0_3, .int .u64 a0_4, .int .i64 a0_5, .bool a0_6], .agg #[.int .i64 a1_0, .int .i64 a1_1, .bool a1_2, .int .u64 a1_3, .int .u64 a1_4, .int .i64 a1_5, .bool a1_6], .agg #[.int .i64 a2_0, .int .i64 a2_1, .bool a2_2, .int .u64 a2_3, .int .u64 a2_4, .int .i64 a2_5, .bool a2_6]] w fun e w' => e = .returned (.bool true) ∧ Below w.heap.size w w' := by
  have HEn := Lib.hid hE
  clear hE
  obtain ⟨h0, rfl, hh0⟩ := n64R w0_3
  obtain ⟨l0, rfl, hl0⟩ := n64R w0_4
  have o0 : PaOk (a0_0, a0_1, (a0_2, h0, l0), a0_5, a0_6) := ⟨w0_0, w0_1, ⟨hh0, hl0⟩, w0_5⟩
  obtain ⟨h1, rfl, hh1⟩ := n64R w1_3
  obtain ⟨l1, rfl, hl1⟩ := n64R w1_4
  have o1 : PaOk (a1_0, a1_1, (a1_2, h1, l1), a1_5, a1_6) := ⟨w1_0, w1_1, ⟨hh1, hl1⟩, w1_5⟩
  obtain ⟨h2, rfl, hh2⟩ := n64R w2_3
  obtain ⟨l2, rfl, hl2⟩ := n64R w2_4
  have o2 : PaOk (a2_0, a2_1, (a2_2, h2, l2), a2_5, a2_6) := ⟨w2_0, w2_1, ⟨hh2, hl2⟩, w2_5⟩
  obtain ⟨a, ha⟩ : ∃ r, betI (a0_0, a0_1, (a0_2, h0, l0), a0_5, a0_6) (a1_0, a1_1, (a1_2, h1, l1), a1_5, a1_6) = r := ⟨_, rfl⟩
  obtain ⟨b, hb⟩ : ∃ r, betI (a1_0, a1_1, (a1_2, h1, l1), a1_5, a1_6) (a0_0, a0_1, (a0_2, h0, l0), a0_5, a0_6) = r := ⟨_, rfl⟩
  obtain ⟨c, hc⟩ : ∃ r, betI (a1_0, a1_1, (a1_2, h1, l1), a1_5, a1_6) (a2_0, a2_1, (a2_2, h2, l2), a2_5, a2_6) = r := ⟨_, rfl⟩
  obtain ⟨d, hd⟩ : ∃ r, betI (a0_0, a0_1, (a0_2, h0, l0), a0_5, a0_6) (a2_0, a2_1, (a2_2, h2, l2), a2_5, a2_6) = r := ⟨_, rfl⟩
  have hAs : Hid (a = true → b = false) := Lib.hid (fun e => by rw [← hb]; exact betI_asym (ha.trans e))
  have hTr : Hid (a = true → c = true → d = true) := Lib.hid (fun e f => by rw [← hd]; exact betI_trans (ha.trans e) (hc.trans f))
  have HXY : Hid (∀ W, EnvR W → Calls Tryd.prog 8 #[.agg #[.int .i64 a0_0, .int .i64 a0_1, .bool a0_2, .int .u64 (h0 : Int), .int .u64 (l0 : Int), .int .i64 a0_5, .bool a0_6], .agg #[.int .i64 a1_0, .int .i64 a1_1, .bool a1_2, .int .u64 (h1 : Int), .int .u64 (l1 : Int), .int .i64 a1_5, .bool a1_6]] W fun e w' => e = .returned (.bool a) ∧ Tch W w' []) := Lib.hid (fun W hE => by
    have h9 := betterP (a0_0, a0_1, (a0_2, h0, l0), a0_5, a0_6) (a1_0, a1_1, (a1_2, h1, l1), a1_5, a1_6) o0 o1 W hE
    rw [ha] at h9
    exact h9)
  have HYX : Hid (∀ W, EnvR W → Calls Tryd.prog 8 #[.agg #[.int .i64 a1_0, .int .i64 a1_1, .bool a1_2, .int .u64 (h1 : Int), .int .u64 (l1 : Int), .int .i64 a1_5, .bool a1_6], .agg #[.int .i64 a0_0, .int .i64 a0_1, .bool a0_2, .int .u64 (h0 : Int), .int .u64 (l0 : Int), .int .i64 a0_5, .bool a0_6]] W fun e w' => e = .returned (.bool b) ∧ Tch W w' []) := Lib.hid (fun W hE => by
    have h9 := betterP (a1_0, a1_1, (a1_2, h1, l1), a1_5, a1_6) (a0_0, a0_1, (a0_2, h0, l0), a0_5, a0_6) o1 o0 W hE
    rw [hb] at h9
    exact h9)
  have HYZ : Hid (∀ W, EnvR W → Calls Tryd.prog 8 #[.agg #[.int .i64 a1_0, .int .i64 a1_1, .bool a1_2, .int .u64 (h1 : Int), .int .u64 (l1 : Int), .int .i64 a1_5, .bool a1_6], .agg #[.int .i64 a2_0, .int .i64 a2_1, .bool a2_2, .int .u64 (h2 : Int), .int .u64 (l2 : Int), .int .i64 a2_5, .bool a2_6]] W fun e w' => e = .returned (.bool c) ∧ Tch W w' []) := Lib.hid (fun W hE => by
    have h9 := betterP (a1_0, a1_1, (a1_2, h1, l1), a1_5, a1_6) (a2_0, a2_1, (a2_2, h2, l2), a2_5, a2_6) o1 o2 W hE
    rw [hc] at h9
    exact h9)
  have HXZ : Hid (∀ W, EnvR W → Calls Tryd.prog 8 #[.agg #[.int .i64 a0_0, .int .i64 a0_1, .bool a0_2, .int .u64 (h0 : Int), .int .u64 (l0 : Int), .int .i64 a0_5, .bool a0_6], .agg #[.int .i64 a2_0, .int .i64 a2_1, .bool a2_2, .int .u64 (h2 : Int), .int .u64 (l2 : Int), .int .i64 a2_5, .bool a2_6]] W fun e w' => e = .returned (.bool d) ∧ Tch W w' []) := Lib.hid (fun W hE => by
    have h9 := betterP (a0_0, a0_1, (a0_2, h0, l0), a0_5, a0_6) (a2_0, a2_1, (a2_2, h2, l2), a2_5, a2_6) o0 o2 W hE
    rw [hd] at h9
    exact h9)
  have HXX : Hid (∀ W, EnvR W → Calls Tryd.prog 8 #[.agg #[.int .i64 a0_0, .int .i64 a0_1, .bool a0_2, .int .u64 (h0 : Int), .int .u64 (l0 : Int), .int .i64 a0_5, .bool a0_6], .agg #[.int .i64 a0_0, .int .i64 a0_1, .bool a0_2, .int .u64 (h0 : Int), .int .u64 (l0 : Int), .int .i64 a0_5, .bool a0_6]] W fun e w' => e = .returned (.bool false) ∧ Tch W w' []) := Lib.hid (fun W hE => by
    have h9 := betterP (a0_0, a0_1, (a0_2, h0, l0), a0_5, a0_6) (a0_0, a0_1, (a0_2, h0, l0), a0_5, a0_6) o0 o0 W hE
    rw [betI_irr] at h9
    exact h9)
  have HD : Hid (∀ W, Calls Tryd.prog 9 #[.agg #[.int .i64 a0_0, .int .i64 a0_1, .bool a0_2, .int .u64 (h0 : Int), .int .u64 (l0 : Int), .int .i64 a0_5, .bool a0_6], .agg #[.int .i64 a1_0, .int .i64 a1_1, .bool a1_2, .int .u64 (h1 : Int), .int .u64 (l1 : Int), .int .i64 a1_5, .bool a1_6]] W fun e w' => e = .returned (.bool a) ∧ Tch W w' []) := Lib.hid (fun W => by
    have h9 := betterD (a0_0, a0_1, (a0_2, h0, l0), a0_5, a0_6) (a1_0, a1_1, (a1_2, h1, l1), a1_5, a1_6) W
    rw [ha] at h9
    exact h9)
  obtain ⟨xb, hxb⟩ : ∃ xb, w.heap.size = xb := ⟨_, rfl⟩
  obtain ⟨yb, hyb⟩ : ∃ yb, xb + 1 = yb := ⟨_, rfl⟩
  obtain ⟨zb, hzb⟩ : ∃ zb, yb + 1 = zb := ⟨_, rfl⟩
  obtain ⟨W1, hW1⟩ : ∃ W, w.alloc (.cells #[.int .i64 a0_0, .int .i64 a0_1, .bool a0_2, .int .u64 (h0 : Int), .int .u64 (l0 : Int), .int .i64 a0_5, .bool a0_6] 26) = W := ⟨_, rfl⟩
  obtain ⟨W2, hW2⟩ : ∃ W, W1.alloc (.cells #[.int .i64 a1_0, .int .i64 a1_1, .bool a1_2, .int .u64 (h1 : Int), .int .u64 (l1 : Int), .int .i64 a1_5, .bool a1_6] 26) = W := ⟨_, rfl⟩
  obtain ⟨W3, hW3⟩ : ∃ W, W2.alloc (.cells #[.int .i64 a2_0, .int .i64 a2_1, .bool a2_2, .int .u64 (h2 : Int), .int .u64 (l2 : Int), .int .i64 a2_5, .bool a2_6] 26) = W := ⟨_, rfl⟩
  have s1 : W1.heap.size = yb := by rw [← hW1, World.size_alloc, hxb, hyb]
  have s2 : W2.heap.size = zb := by rw [← hW2, World.size_alloc, s1, hzb]
  have X1 : Blk W1 xb 26 #[.int .i64 a0_0, .int .i64 a0_1, .bool a0_2, .int .u64 (h0 : Int), .int .u64 (l0 : Int), .int .i64 a0_5, .bool a0_6] := hW1 ▸ hxb ▸ Blk.new _ _ _
  have X2 : Blk W2 xb 26 #[.int .i64 a0_0, .int .i64 a0_1, .bool a0_2, .int .u64 (h0 : Int), .int .u64 (l0 : Int), .int .i64 a0_5, .bool a0_6] := hW2 ▸ X1.alloc _
  have Y2 : Blk W2 yb 26 #[.int .i64 a1_0, .int .i64 a1_1, .bool a1_2, .int .u64 (h1 : Int), .int .u64 (l1 : Int), .int .i64 a1_5, .bool a1_6] := hW2 ▸ s1 ▸ Blk.new _ _ _
  have X3 := Lib.hid (show Blk W3 xb 26 #[.int .i64 a0_0, .int .i64 a0_1, .bool a0_2, .int .u64 (h0 : Int), .int .u64 (l0 : Int), .int .i64 a0_5, .bool a0_6] from hW3 ▸ X2.alloc _)
  have Y3 := Lib.hid (show Blk W3 yb 26 #[.int .i64 a1_0, .int .i64 a1_1, .bool a1_2, .int .u64 (h1 : Int), .int .u64 (l1 : Int), .int .i64 a1_5, .bool a1_6] from hW3 ▸ Y2.alloc _)
  have Z3 := Lib.hid (show Blk W3 zb 26 #[.int .i64 a2_0, .int .i64 a2_1, .bool a2_2, .int .u64 (h2 : Int), .int .u64 (l2 : Int), .int .i64 a2_5, .bool a2_6] from hW3 ▸ s2 ▸ Blk.new _ _ _)
  have T3 : Hid (Tch w W3 []) := Lib.hid (hW3 ▸ hW2 ▸ hW1 ▸ (((Tch.refl w []).alloc _).alloc _).alloc _)
  have HW := Lib.hid (show (((w.alloc (.cells #[.int .i64 a0_0, .int .i64 a0_1, .bool a0_2, .int .u64 (h0 : Int), .int .u64 (l0 : Int), .int .i64 a0_5, .bool a0_6] 26)).alloc (.cells #[.int .i64 a1_0, .int .i64 a1_1, .bool a1_2, .int .u64 (h1 : Int), .int .u64 (l1 : Int), .int .i64 a1_5, .bool a1_6] 26)).alloc (.cells #[.int .i64 a2_0, .int .i64 a2_1, .bool a2_2, .int .u64 (h2 : Int), .int .u64 (l2 : Int), .int .i64 a2_5, .bool a2_6] 26)) = W3 ∧ w.heap.size = xb ∧ xb + 1 = yb ∧ yb + 1 = zb from ⟨by rw [hW1, hW2, hW3], hxb, hyb, hzb⟩)
  clear hxb hyb hzb hW1 hW2 hW3 s1 s2 X1 X2 Y2 ha hb hc hd o0 o1 o2 hh0 hl0 w0_0 w0_1 w0_3 w0_4 w0_5 hh1 hl1 w1_0 w1_1 w1_3 w1_4 w1_5 hh2 hl2 w2_0 w2_1 w2_3 w2_4 w2_5
  go_enter Tryd.func3, Tryd.ntmps3
  go_wp2_with fail
  rw [HW.out.1]
  refine Calls.mono (awake_yes W3 (HEn.out.tch0 T3.out)) ?_
  rintro e v1 ⟨rfl, hb1⟩
  try rw [HW.out.2.1]
  try rw [HW.out.2.2.1]
  try rw [HW.out.2.2.2]
  have HT : Hid (Tch W3 v1 []) := Lib.hid (Tch.of_below [] hb1)
  clear hb1
  obtain ⟨x0, x1, x2, x3, x4, x5, x6⟩ := (HT.out.blk X3.out (by simp)).p7
  obtain ⟨y0, y1, y2, y3, y4, y5, y6⟩ := (HT.out.blk Y3.out (by simp)).p7
  obtain ⟨z0, z1, z2, z3, z4, z5, z6⟩ := (HT.out.blk Z3.out (by simp)).p7
  go_wp2_with fail
  refine Calls.mono (HXY.out _ (HEn.out.tch0 (T3.out.trans HT.out))) ?_
  rintro e v2 ⟨rfl, hT'⟩
  replace HT := Lib.hid (HT.out.trans hT')
  clear hT' x0 x1 x2 x3 x4 x5 x6 y0 y1 y2 y3 y4 y5 y6 z0 z1 z2 z3 z4 z5 z6
  obtain ⟨x0, x1, x2, x3, x4, x5, x6⟩ := (HT.out.blk X3.out (by simp)).p7
  obtain ⟨y0, y1, y2, y3, y4, y5, y6⟩ := (HT.out.blk Y3.out (by simp)).p7
  obtain ⟨z0, z1, z2, z3, z4, z5, z6⟩ := (HT.out.blk Z3.out (by simp)).p7
  go_wp2_with fail
  refine Calls.mono (HYX.out _ (HEn.out.tch0 (T3.out.trans HT.out))) ?_
  rintro e v3 ⟨rfl, hT'⟩
  replace HT := Lib.hid (HT.out.trans hT')
  clear hT' x0 x1 x2 x3 x4 x5 x6 y0 y1 y2 y3 y4 y5 y6 z0 z1 z2 z3 z4 z5 z6
  cases a with
  | false =>
    obtain ⟨x0, x1, x2, x3, x4, x5, x6⟩ := (HT.out.blk X3.out (by simp)).p7
    obtain ⟨y0, y1, y2, y3, y4, y5, y6⟩ := (HT.out.blk Y3.out (by simp)).p7
    obtain ⟨z0, z1, z2, z3, z4, z5, z6⟩ := (HT.out.blk Z3.out (by simp)).p7
    go_wp2_with fail
    refine Calls.mono (HD.out _) ?_
    rintro e v4 ⟨rfl, hT'⟩
    replace HT := Lib.hid (HT.out.trans hT')
    clear hT' x0 x1 x2 x3 x4 x5 x6 y0 y1 y2 y3 y4 y5 y6 z0 z1 z2 z3 z4 z5 z6
    obtain ⟨x0, x1, x2, x3, x4, x5, x6⟩ := (HT.out.blk X3.out (by simp)).p7
    obtain ⟨y0, y1, y2, y3, y4, y5, y6⟩ := (HT.out.blk Y3.out (by simp)).p7
    obtain ⟨z0, z1, z2, z3, z4, z5, z6⟩ := (HT.out.blk Z3.out (by simp)).p7
    go_wp2_with fail
    refine Calls.mono (HXX.out _ (HEn.out.tch0 (T3.out.trans HT.out))) ?_
    rintro e v5 ⟨rfl, hT'⟩
    replace HT := Lib.hid (HT.out.trans hT')
    clear hT' x0 x1 x2 x3 x4 x5 x6 y0 y1 y2 y3 y4 y5 y6 z0 z1 z2 z3 z4 z5 z6
    cases b with
    | false =>
      go_wp2
      go_ret
      exact ⟨rfl, (T3.out.trans HT.out).below (Nat.le_refl _) (by simp)⟩
    | true =>
      go_wp2
      go_ret
      exact ⟨rfl, (T3.out.trans HT.out).below (Nat.le_refl _) (by simp)⟩
  | true =>
    obtain rfl : b = false := by simpa using hAs.out
    obtain ⟨x0, x1, x2, x3, x4, x5, x6⟩ := (HT.out.blk X3.out (by simp)).p7
    obtain ⟨y0, y1, y2, y3, y4, y5, y6⟩ := (HT.out.blk Y3.out (by simp)).p7
    obtain ⟨z0, z1, z2, z3, z4, z5, z6⟩ := (HT.out.blk Z3.out (by simp)).p7
    go_wp2_with fail
    refine Calls.mono (HD.out _) ?_
    rintro e v6 ⟨rfl, hT'⟩
    replace HT := Lib.hid (HT.out.trans hT')
    clear hT' x0 x1 x2 x3 x4 x5 x6 y0 y1 y2 y3 y4 y5 y6 z0 z1 z2 z3 z4 z5 z6
    obtain ⟨x0, x1, x2, x3, x4, x5, x6⟩ := (HT.out.blk X3.out (by simp)).p7
    obtain ⟨y0, y1, y2, y3, y4, y5, y6⟩ := (HT.out.blk Y3.out (by simp)).p7
    obtain ⟨z0, z1, z2, z3, z4, z5, z6⟩ := (HT.out.blk Z3.out (by simp)).p7
    go_wp2_with fail
    refine Calls.mono (HXX.out _ (HEn.out.tch0 (T3.out.trans HT.out))) ?_
    rintro e v7 ⟨rfl, hT'⟩
    replace HT := Lib.hid (HT.out.trans hT')
    clear hT' x0 x1 x2 x3 x4 x5 x6 y0 y1 y2 y3 y4 y5 y6 z0 z1 z2 z3 z4 z5 z6
    obtain ⟨x0, x1, x2, x3, x4, x5, x6⟩ := (HT.out.blk X3.out (by simp)).p7
    obtain ⟨y0, y1, y2, y3, y4, y5, y6⟩ := (HT.out.blk Y3.out (by simp)).p7
    obtain ⟨z0, z1, z2, z3, z4, z5, z6⟩ := (HT.out.blk Z3.out (by simp)).p7
    go_wp2_with fail
    refine Calls.mono (HYZ.out _ (HEn.out.tch0 (T3.out.trans HT.out))) ?_
    rintro e v8 ⟨rfl, hT'⟩
    replace HT := Lib.hid (HT.out.trans hT')
    clear hT' x0 x1 x2 x3 x4 x5 x6 y0 y1 y2 y3 y4 y5 y6 z0 z1 z2 z3 z4 z5 z6
    cases c with
    | false =>
      go_wp2
      go_ret
      exact ⟨rfl, (T3.out.trans HT.out).below (Nat.le_refl _) (by simp)⟩
    | true =>
      obtain rfl : d = true := by simpa using hTr.out
      obtain ⟨x0, x1, x2, x3, x4, x5, x6⟩ := (HT.out.blk X3.out (by simp)).p7
      obtain ⟨y0, y1, y2, y3, y4, y5, y6⟩ := (HT.out.blk Y3.out (by simp)).p7
      obtain ⟨z0, z1, z2, z3, z4, z5, z6⟩ := (HT.out.blk Z3.out (by simp)).p7
      go_wp2_with fail
      refine Calls.mono (HXZ.out _ (HEn.out.tch0 (T3.out.trans HT.out))) ?_
      rintro e v9 ⟨rfl, hT'⟩
      replace HT := Lib.hid (HT.out.trans hT')
      clear hT' x0 x1 x2 x3 x4 x5 x6 y0 y1 y2 y3 y4 y5 y6 z0 z1 z2 z3 z4 z5 z6
      go_wp2
      go_ret
      exact ⟨rfl, (T3.out.trans HT.out).below (Nat.le_refl _) (by simp)⟩
set_option maxRecDepth 100000 in
theorem contract (H : Type) (enc : TypeId × Value → H) (W : World) (base : Nat) (args : Array Value) (ds gs : List (DataW H)) (before : List MemPlace)
    (hval0 : ∀ (j : Nat) t v, Tryd.f3.params[j]? = some t → args[j]? = some v → Value.okWide Tryd.prog W .any base t v)
    (hW : DataW.Whole enc Tryd.prog Tryd.f3.params.toList Rows.ribBetterSpec.vars false W args.toList ds gs before)
    (hsz0 : (DataW.weightsEach Tryd.prog (Tryd.f3.params.toList ++ Rows.ribBetterSpec.plain.varTypes Tryd.prog) (ds ++ gs)).all (· ≤ reachBytes) = true) (hE : EnvR W) :
    Calls Tryd.prog 3 args W fun e W' => ∃ v, e = .returned v ∧ Rows.ribBetterSpec.post enc Tryd.prog Tryd.f3 false true false false W args v W' := by
  have hsz := hsz0
  clear hsz0
  have hval := hval0
  clear hval0
  have hW' := hW
  obtain ⟨p, q, hA0, hV, rfl, hfz, hnd⟩ := hW
  have hA : DataW.TrodAll enc Tryd.prog W 0 (fun _ => true) true Tryd.f3.params.toList args.toList ds p := hA0
  rw [Tryd.params3] at hA hval hsz
  obtain ⟨v0, vs0, d0, ds0, p0, q0, hargs, rfl, rfl, h0, r0⟩ := trodAll_cons hA
  obtain ⟨v1, vs1, d1, ds1, p1, q1, rfl, rfl, rfl, h1, r1⟩ := trodAll_cons r0
  obtain ⟨v2, vs2, d2, ds2, p2, q2, rfl, rfl, rfl, h2, r2⟩ := trodAll_cons r1
  obtain ⟨rfl, rfl, rfl⟩ := trodAll_nil r2
  obtain rfl : args = #[v0, v1, v2] := by cases args; simp_all
  obtain ⟨rfl, rfl⟩ := trodVars_none hV
  have k0 := h0
  have lt0 : ∀ x ∈ p0, x.block < W.heap.size := by obtain ⟨m, hm⟩ := k0; exact DataW.trod_lt m _ _ _ hm
  obtain ⟨a0_0, a0_1, a0_2, a0_3, a0_4, a0_5, a0_6, rfl, w0_0, w0_1, w0_3, w0_4, w0_5, ep0⟩ := open_pa (hval 0 26 v0 rfl rfl) h0
  have k1 := h1
  have lt1 : ∀ x ∈ p1, x.block < W.heap.size := by obtain ⟨m, hm⟩ := k1; exact DataW.trod_lt m _ _ _ hm
  obtain ⟨a1_0, a1_1, a1_2, a1_3, a1_4, a1_5, a1_6, rfl, w1_0, w1_1, w1_3, w1_4, w1_5, ep1⟩ := open_pa (hval 1 26 v1 rfl rfl) h1
  have k2 := h2
  have lt2 : ∀ x ∈ p2, x.block < W.heap.size := by obtain ⟨m, hm⟩ := k2; exact DataW.trod_lt m _ _ _ hm
  obtain ⟨a2_0, a2_1, a2_2, a2_3, a2_4, a2_5, a2_6, rfl, w2_0, w2_1, w2_3, w2_4, w2_5, ep2⟩ := open_pa (hval 2 26 v2 rfl rfl) h2
  clear hA0
  refine (walk W hE a0_0 w0_0 a0_1 w0_1 a0_2 a0_3 w0_3 a0_4 w0_4 a0_5 w0_5 a0_6 a1_0 w1_0 a1_1 w1_1 a1_2 a1_3 w1_3 a1_4 w1_4 a1_5 w1_5 a1_6 a2_0 w2_0 a2_1 w2_1 a2_2 a2_3 w2_3 a2_4 w2_4 a2_5 w2_5 a2_6).mono fun e W' ⟨he, bel⟩ => ?_
  subst he
  exact ⟨_, rfl, _, _, _, [], _, [], hW', trodAll_mk1 (shut_bool Tryd.underlying4 _), (trodAll_cons_mk (Below.trod laidOut (by kernel_rfl) (of_decide_eq_true (by kernel_rfl)) k0 bel lt0) (trodAll_cons_mk (Below.trod laidOut (by kernel_rfl) (of_decide_eq_true (by kernel_rfl)) k1 bel lt1) (trodAll_cons_mk (Below.trod laidOut (by kernel_rfl) (of_decide_eq_true (by kernel_rfl)) k2 bel lt2) trodAll_mk0))), rfl, bel.frame _, fun h => by cases h⟩

theorem laid_met (os : Os) (args : Array Value) : laidMet Tryd.prog Rows.ribBetterRow.laid ((World.laidAll Tryd.prog os Rows.ribBetterRow.laid).forCall (fun _ _ => 0) ⟨#[], args, []⟩).memory :=
  laidMet_laidAll _ (by kernel_rfl) (by kernel_rfl)
set_option maxRecDepth 100000 in
theorem pre_row (os : Os) {H : Type} (enc : TypeId × Value → H) :
    (OpenSpec.ofChange Rows.ribBetterSpec).preRow enc Tryd.prog Tryd.f3 Rows.ribBetterRow.domain false Rows.ribBetterRow.laid ((World.laidAll Tryd.prog os Rows.ribBetterRow.laid).forCall (fun _ _ => 0) ⟨#[], #[.agg #[.int .i64 0, .int .i64 0, .bool false, .int .u64 0, .int .u64 0, .int .i64 0, .bool false], .agg #[.int .i64 0, .int .i64 0, .bool false, .int .u64 0, .int .u64 0, .int .i64 0, .bool false], .agg #[.int .i64 0, .int .i64 0, .bool false, .int .u64 0, .int .u64 0, .int .i64 0, .bool false]], []⟩).memory #[.agg #[.int .i64 0, .int .i64 0, .bool false, .int .u64 0, .int .u64 0, .int .i64 0, .bool false], .agg #[.int .i64 0, .int .i64 0, .bool false, .int .u64 0, .int .u64 0, .int .i64 0, .bool false], .agg #[.int .i64 0, .int .i64 0, .bool false, .int .u64 0, .int .u64 0, .int .i64 0, .bool false]] := by
  exact ⟨⟨ChangeSpec.pre_of_preB (fuel := 8) (by kernel_rfl), by rw [MakeChecks.laidMetH_plain _ _ _ (by kernel_rfl)]; exact laid_met os _⟩, sizedMet_of_sizedB (fuel := 8) (by kernel_rfl)⟩
set_option maxRecDepth 100000 in
theorem lifted (os : Os) (started : os.Started) (H : Type) (enc : TypeId × Value → H) (F : Stop.Interp) :
    ReturnsInHanded {} Tryd.checked os 3 .any ((OpenSpec.ofChange Rows.ribBetterSpec).preRow enc Tryd.prog Tryd.f3 Rows.ribBetterRow.domain false Rows.ribBetterRow.laid) (((OpenSpec.ofChange Rows.ribBetterSpec).at F).post enc Tryd.prog Tryd.f3 false true false false) := by
  refine returnsInHanded_of_row (C := Tryd.checked) (s := (OpenSpec.ofChange Rows.ribBetterSpec)) own started (by kernel_rfl) Tryd.func3
    ⟨World.laidAll Tryd.prog os Rows.ribBetterRow.laid, fun _ _ => 0, ⟨#[], #[.agg #[.int .i64 0, .int .i64 0, .bool false, .int .u64 0, .int .u64 0, .int .i64 0, .bool false], .agg #[.int .i64 0, .int .i64 0, .bool false, .int .u64 0, .int .u64 0, .int .i64 0, .bool false], .agg #[.int .i64 0, .int .i64 0, .bool false, .int .u64 0, .int .u64 0, .int .i64 0, .bool false]], []⟩, World.laidAll_os _ _ _, World.shaped_of_ZipB (by kernel_rfl) (by kernel_rfl), rfl, (Input.okWide_of_okWideB (by kernel_rfl)).2, pre_row os enc, (by simp only [Assume.holds]; exact ⟨by simp, by simp, fun _ => Modest.zero, by simp, by simp⟩)⟩ ?_
  intro W base args ds gs before hval hW _ hcond hsz hL hsh _
  rw [MakeChecks.laidMetH_plain _ _ _ (by kernel_rfl)] at hL
  exact contract H enc W base args ds gs before hval hW hsz (envR_of hL)

theorem over : Rows.ribBetterRow.holds Tryd.pinned (OpenSpec.ofChange Rows.ribBetterSpec) :=
  OpenClaim.holds_of_cond 3 Tryd.f3 rfl rfl rfl rfl rfl rfl rfl ⟨rfl, rfl, rfl, rfl, rfl⟩ rfl rfl rfl rfl rfl (by kernel_rfl) Tryd.func3 (by kernel_rfl)
    (of_decide_eq_true (by kernel_rfl)) (by unfold Func.isWrapper; first | (rw [if_pos (by decide +kernel)]; kernel_rfl) | (rw [if_neg (by decide +kernel)]; exact ⟨rfl, rfl⟩))
    (fun os started H enc _ F => by rw [OpenClaim.pre_eq_preRow]; exact lifted os started H enc F)

theorem proved : Rows.RibBetterCardSaid :=
  Claim7.holds_tied_plain_at .later [] Rows.ribBetterCard.laidKinds true Rows.ribBetterCard.stood.harness Rows.ribBetterCard.stood.looks over (fun _ h => by cases h) (by kernel_rfl) (fun _ h => by cases h) ribBetter_row_tie rfl ⟨rfl, rfl⟩ (by kernel_rfl) rfl
    (fun f fn hf hfn => by
      obtain rfl : f = 3 := Option.some.inj ((show Tryd.prog.funcNamed Rows.ribBetterRow.func = some 3 by kernel_rfl).symm.trans hf) |>.symm
      obtain rfl : fn = Tryd.f3 := (Option.some.inj (Tryd.func3.symm.trans hfn)).symm
      exact ⟨by kernel_rfl, fun j t ht => by
        rw [Tryd.params3] at ht
        have hm : t ∈ [26, 26, 26] := by simpa using Array.mem_of_getElem? ht
        have hall : ([26, 26, 26].all fun u => !Tryd.prog.wantsStandIn u) = true := by kernel_rfl
        exact (show Tryd.prog.wantsStandIn t = false by simpa using List.all_eq_true.1 hall t hm)⟩)
    (by kernel_rfl)
#print axioms proved
end RBet
end Go.Proofs.YtjlmgkdieffjcaaDoor
