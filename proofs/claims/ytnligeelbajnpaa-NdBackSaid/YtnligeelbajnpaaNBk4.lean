/-
  NdBack: a piece of its walk.
-/
import Derived.Test.YtnligeelbajnpaaNLw
namespace Go.Proofs.Ytnligeelbajnpaa.Back
open Go.RowKit
set_option linter.unusedVariables false

set_option maxRecDepth 100000 in
set_option maxHeartbeats 16000000 in
theorem leaf_nn (x : Sol) (y : Adv) (H1 : Hid (∀ W : World, Calls Try.prog 9 #[x.val] W fun e w' => e = .returned (.tuple #[Ms.val ⟨false, 0, 0, 0, ⟨#[]⟩⟩, .int .i64 80]) ∧ Below W.heap.size W w')) (H4 : Hid (∀ W : World, Calls Try.prog 11 #[y.val] W fun e w' => e = .returned (.tuple #[Ms.val ⟨false, 0, 0, 0, ⟨#[]⟩⟩, .int .i64 80]) ∧ Below W.heap.size W w')) (w : World) :
    Calls Try.prog 5 #[x.val, y.val] w fun e w' => e = .returned (.bool true) ∧ Below w.heap.size w w' := by
  obtain ⟨W0, hW0, kx, ky, hL0⟩ := nd_args x y w
  have X0 := Lib.hid kx
  have Y0 := Lib.hid ky
  have L0 := Lib.hid hL0
  have HA := Lib.hid (fun W => nawake_yes W)
  clear kx ky hL0
  go_enter Try.func5, Try.ntmps5
  go_wp2_with fail
  refine Calls.mono (HA.out _) ?_
  rintro e w1 ⟨rfl, hb⟩
  replace hb : Below W0.heap.size W0 w1 := by rw [hW0]; exact hb
  have X1 := Lib.hid (X0.out.below hb X0.out.lt)
  have Y1 := Lib.hid (Y0.out.below hb Y0.out.lt)
  have L1 := Lib.hid (L0.out.trans (hb.mono L0.out.size))
  clear hb hW0
  obtain ⟨f0, f1, f2, f3, f4⟩ := X1.out.so5
  go_wp2_with fail
  refine Calls.mono (H1.out _) ?_
  rintro e w2 ⟨rfl, hb⟩
  have X2 := Lib.hid ((X1.out.below hb X1.out.lt).alloc (.cells (mcs ⟨false, 0, 0, 0, ⟨#[]⟩⟩) 32))
  have Y2 := Lib.hid ((Y1.out.below hb Y1.out.lt).alloc (.cells (mcs ⟨false, 0, 0, 0, ⟨#[]⟩⟩) 32))
  have L2 := Lib.hid ((L1.out.trans (hb.mono L1.out.size)).alloc (L1.out.trans (hb.mono L1.out.size)).size (.cells (mcs ⟨false, 0, 0, 0, ⟨#[]⟩⟩) 32))
  have A2 := Lib.hid (Blk.new w2 32 (mcs ⟨false, 0, 0, 0, ⟨#[]⟩⟩))
  clear hb
  clear f0 f1 f2 f3 f4
  obtain ⟨g0, g1, g2, g3, g4, g5, g6, g7⟩ := Y2.out.ad8
  go_wp2_with fail
  refine Calls.mono (H4.out _) ?_
  rintro e w3 ⟨rfl, hb⟩
  have X3 := Lib.hid ((X2.out.below hb X2.out.lt).alloc (.cells (mcs ⟨false, 0, 0, 0, ⟨#[]⟩⟩) 32))
  have Y3 := Lib.hid ((Y2.out.below hb Y2.out.lt).alloc (.cells (mcs ⟨false, 0, 0, 0, ⟨#[]⟩⟩) 32))
  have A3 := Lib.hid ((A2.out.below hb A2.out.lt).alloc (.cells (mcs ⟨false, 0, 0, 0, ⟨#[]⟩⟩) 32))
  have L3 := Lib.hid ((L2.out.trans (hb.mono L2.out.size)).alloc (L2.out.trans (hb.mono L2.out.size)).size (.cells (mcs ⟨false, 0, 0, 0, ⟨#[]⟩⟩) 32))
  have D3 := Lib.hid (Blk.new w3 32 (mcs ⟨false, 0, 0, 0, ⟨#[]⟩⟩))
  clear hb
  clear g0 g1 g2 g3 g4 g5 g6 g7
  obtain ⟨h0, h1, h2, h3, h4⟩ := A3.out.m5
  obtain ⟨k0, k1, k2, k3, k4⟩ := D3.out.m5
  go_wp2
  go_ret
  exact ⟨rfl, L3.out⟩
end Go.Proofs.Ytnligeelbajnpaa.Back
