/-
  NdBack: a piece of its walk.
-/
import Derived.Test.YtnligeelbajnpaaNLw
namespace Go.Proofs.Ytnligeelbajnpaa.Back
open Go.RowKit
set_option linter.unusedVariables false

set_option maxRecDepth 100000 in
set_option maxHeartbeats 16000000 in
theorem leaf_yn (x : Sol) (y : Adv) (A_ : Ms) (H1 : Hid (∀ W : World, Calls Try.prog 9 #[x.val] W fun e w' => e = .returned (.tuple #[A_.val, .int .i64 0]) ∧ Below W.heap.size W w')) (H2 : Hid (∀ W : World, Calls Try.prog 16 #[A_.val] W fun e w' => e = .returned (.tuple #[x.val, .int .i64 0]) ∧ Below W.heap.size W w')) (H3 : Hid (∀ W : World, Calls Try.prog 17 #[A_.val] W fun e w' => e = .returned (.tuple #[Adv.val ⟨false, 0, 0, false, false, false, false, 0⟩, .int .i64 80]) ∧ Below W.heap.size W w')) (H4 : Hid (∀ W : World, Calls Try.prog 11 #[y.val] W fun e w' => e = .returned (.tuple #[Ms.val ⟨false, 0, 0, 0, ⟨#[]⟩⟩, .int .i64 80]) ∧ Below W.heap.size W w')) (w : World) :
    Calls Try.prog 5 #[x.val, y.val] w fun e w' => e = .returned (.bool true) ∧ Below w.heap.size w w' := by
  obtain ⟨W0, hW0, kx, ky, hL0⟩ := nd_args x y w
  have X0 := Lib.hid kx
  have Y0 := Lib.hid ky
  have L0 := Lib.hid hL0
  have HA := Lib.hid (fun W => nawake_yes W)
  clear kx ky hL0
  go_enter Try.func5, Try.ntmps5
  go_wp2_with fail
  refine Calls.mono (HA.out _) ?_
  rintro e w1 ⟨rfl, hb⟩
  replace hb : Below W0.heap.size W0 w1 := by rw [hW0]; exact hb
  have X1 := Lib.hid (X0.out.below hb X0.out.lt)
  have Y1 := Lib.hid (Y0.out.below hb Y0.out.lt)
  have L1 := Lib.hid (L0.out.trans (hb.mono L0.out.size))
  clear hb hW0
  obtain ⟨f0, f1, f2, f3, f4⟩ := X1.out.so5
  go_wp2_with fail
  refine Calls.mono (H1.out _) ?_
  rintro e w2 ⟨rfl, hb⟩
  have X2 := Lib.hid ((X1.out.below hb X1.out.lt).alloc (.cells (mcs A_) 32))
  have Y2 := Lib.hid ((Y1.out.below hb Y1.out.lt).alloc (.cells (mcs A_) 32))
  have L2 := Lib.hid ((L1.out.trans (hb.mono L1.out.size)).alloc (L1.out.trans (hb.mono L1.out.size)).size (.cells (mcs A_) 32))
  have A2 := Lib.hid (Blk.new w2 32 (mcs A_))
  clear hb
  clear f0 f1 f2 f3 f4
  obtain ⟨h0, h1, h2, h3, h4⟩ := A2.out.m5
  go_wp2_with fail
  refine Calls.mono (H2.out _) ?_
  rintro e w3 ⟨rfl, hb⟩
  have X3 := Lib.hid ((X2.out.below hb X2.out.lt).alloc (.cells (solC x) 27))
  have Y3 := Lib.hid ((Y2.out.below hb Y2.out.lt).alloc (.cells (solC x) 27))
  have A3 := Lib.hid ((A2.out.below hb A2.out.lt).alloc (.cells (solC x) 27))
  have L3 := Lib.hid ((L2.out.trans (hb.mono L2.out.size)).alloc (L2.out.trans (hb.mono L2.out.size)).size (.cells (solC x) 27))
  have B3 := Lib.hid (Blk.new w3 27 (solC x))
  clear hb
  clear h0 h1 h2 h3 h4
  obtain ⟨h0, h1, h2, h3, h4⟩ := A3.out.m5
  go_wp2_with fail
  refine Calls.mono (H3.out _) ?_
  rintro e w4 ⟨rfl, hb⟩
  have X4 := Lib.hid ((X3.out.below hb X3.out.lt).alloc (.cells (advC ⟨false, 0, 0, false, false, false, false, 0⟩) 29))
  have Y4 := Lib.hid ((Y3.out.below hb Y3.out.lt).alloc (.cells (advC ⟨false, 0, 0, false, false, false, false, 0⟩) 29))
  have A4 := Lib.hid ((A3.out.below hb A3.out.lt).alloc (.cells (advC ⟨false, 0, 0, false, false, false, false, 0⟩) 29))
  have B4 := Lib.hid ((B3.out.below hb B3.out.lt).alloc (.cells (advC ⟨false, 0, 0, false, false, false, false, 0⟩) 29))
  have L4 := Lib.hid ((L3.out.trans (hb.mono L3.out.size)).alloc (L3.out.trans (hb.mono L3.out.size)).size (.cells (advC ⟨false, 0, 0, false, false, false, false, 0⟩) 29))
  have C4 := Lib.hid (Blk.new w4 29 (advC ⟨false, 0, 0, false, false, false, false, 0⟩))
  clear hb
  clear h0 h1 h2 h3 h4
  obtain ⟨f0, f1, f2, f3, f4⟩ := X4.out.so5
  obtain ⟨i0, i1, i2, i3, i4⟩ := B4.out.so5
  obtain ⟨g0, g1, g2, g3, g4, g5, g6, g7⟩ := Y4.out.ad8
  go_wp2_with fail
  refine Calls.mono (H4.out _) ?_
  rintro e w5 ⟨rfl, hb⟩
  have X5 := Lib.hid ((X4.out.below hb X4.out.lt).alloc (.cells (mcs ⟨false, 0, 0, 0, ⟨#[]⟩⟩) 32))
  have Y5 := Lib.hid ((Y4.out.below hb Y4.out.lt).alloc (.cells (mcs ⟨false, 0, 0, 0, ⟨#[]⟩⟩) 32))
  have A5 := Lib.hid ((A4.out.below hb A4.out.lt).alloc (.cells (mcs ⟨false, 0, 0, 0, ⟨#[]⟩⟩) 32))
  have B5 := Lib.hid ((B4.out.below hb B4.out.lt).alloc (.cells (mcs ⟨false, 0, 0, 0, ⟨#[]⟩⟩) 32))
  have C5 := Lib.hid ((C4.out.below hb C4.out.lt).alloc (.cells (mcs ⟨false, 0, 0, 0, ⟨#[]⟩⟩) 32))
  have L5 := Lib.hid ((L4.out.trans (hb.mono L4.out.size)).alloc (L4.out.trans (hb.mono L4.out.size)).size (.cells (mcs ⟨false, 0, 0, 0, ⟨#[]⟩⟩) 32))
  have D5 := Lib.hid (Blk.new w5 32 (mcs ⟨false, 0, 0, 0, ⟨#[]⟩⟩))
  clear hb
  clear f0 f1 f2 f3 f4 i0 i1 i2 i3 i4
  clear g0 g1 g2 g3 g4 g5 g6 g7
  obtain ⟨h0, h1, h2, h3, h4⟩ := A5.out.m5
  obtain ⟨k0, k1, k2, k3, k4⟩ := D5.out.m5
  go_wp2
  go_ret
  exact ⟨rfl, L5.out⟩
end Go.Proofs.Ytnligeelbajnpaa.Back
