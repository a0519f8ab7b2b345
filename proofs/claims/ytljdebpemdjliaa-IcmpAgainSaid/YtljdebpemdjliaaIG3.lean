/-
  IcmpAgain: a piece of its walk.
-/
import Derived.Test.YtljdebpemdjliaaIGp
namespace Go.Proofs.Ytljdebpemdjliaa.Again
open Go.RowKit
set_option linter.unusedVariables false

set_option maxRecDepth 100000 in
set_option maxHeartbeats 16000000 in
theorem d_zz (s T : ByteArray) (six : Bool) (a b : Ad) (M : Ms) (HT : Hid (∀ W : World, Calls Try.prog 13 #[.string s, .bool six, a.val, b.val] W fun e w' => e = .returned (.tuple #[M.val, .int .i64 0]) ∧ Below W.heap.size W w')) (HL : Hid (∀ W : World, Calls Try.prog 11 #[M.val, a.val, b.val] W fun e w' => e = .returned (.tuple #[.string T, .int .i64 0]) ∧ Below W.heap.size W w')) (z8 : 8 ≤ s.size) (h2 : 2 < s.size) (h3 : 3 < s.size) (z0 : T.size = s.size) (ztwo : T.extract 0 2 = s.extract 0 2) (zfour : T.extract 4 T.size = s.extract 4 s.size) (hne : ¬ T = s) (t2 : 2 < T.size) (t3 : 3 < T.size) (s0 : (((s[2]'h2).toNat : Int) == 0) = true) (s1 : (((s[3]'h3).toNat : Int) == 0) = true) (t_0 : (((T[2]'t2).toNat : Int) == 0) = true) (t_1 : (((T[3]'t3).toNat : Int) == 0) = true) (w : World) :
    Calls Try.prog 9 #[.string s, .bool six, .agg (ecs a b)] w fun e w' => e = .returned (.bool true) ∧ Below w.heap.size w w' := by
  have E0 := Lib.hid (Blk.new w 28 (ecs a b))
  have L0 := Lib.hid ((Below.refl _ w).alloc (Nat.le_refl _) (.cells (ecs a b) 28))
  have HA := Lib.hid (fun W => iawake_yes W)
  obtain ⟨P2, hP2⟩ : ∃ P, s.extract 0 2 = P := ⟨_, rfl⟩
  obtain ⟨P4, hP4⟩ : ∃ P, s.extract 4 s.size = P := ⟨_, rfl⟩
  have i1 : (2 : Int) ≤ s.size := by omega
  have i2 : (4 : Int) ≤ s.size := by omega
  have i3 : (2 : Int) < s.size := by omega
  have i4 : (3 : Int) < s.size := by omega
  rw [hP2] at ztwo
  rw [hP4] at zfour
  have zl : (T.size : Int) = (s.size : Int) := by omega
  have i5 : (2 : Int) ≤ T.size := by omega
  have i6 : (4 : Int) ≤ T.size := by omega
  have i7 : (2 : Int) < T.size := by omega
  have i8 : (3 : Int) < T.size := by omega
  clear z8 z0
  go_enter Try.func9, Try.ntmps9
  go_wp2_with fail
  refine Calls.mono (HA.out _) ?_
  rintro e w1 ⟨rfl, hb⟩
  have E1 := Lib.hid (E0.out.below hb E0.out.lt)
  have L1 := Lib.hid (L0.out.trans (hb.mono L0.out.size))
  clear hb
  obtain ⟨g0, g1, g2, g3, g4, g5⟩ := E1.out.i6
  go_wp2_with fail
  refine Calls.mono (HT.out _) ?_
  rintro e w2 ⟨rfl, hb⟩
  have E2 := Lib.hid ((E1.out.below hb E1.out.lt).alloc (.cells (mcs M) 23))
  have N2 := Lib.hid (Blk.new w2 23 (mcs M))
  have L2 := Lib.hid ((L1.out.trans (hb.mono L1.out.size)).alloc (L1.out.trans (hb.mono L1.out.size)).size (.cells (mcs M) 23))
  clear hb g0 g1 g2 g3 g4 g5
  obtain ⟨f0, f1, f2, f3, f4⟩ := N2.out.i5
  obtain ⟨g0, g1, g2, g3, g4, g5⟩ := E2.out.i6
  go_wp2_with fail
  refine Calls.mono (HL.out _) ?_
  rintro e w3 ⟨rfl, hb⟩
  have L3 := Lib.hid (L2.out.trans (hb.mono L2.out.size))
  clear hb f0 f1 f2 f3 f4 g0 g1 g2 g3 g4 g5 E2 N2 E1 E0
  go_wp2_with fail
  go_quiet (fail)
  go_wp2
  all_goals
    go_ret
    exact ⟨rfl, below_drewN L3.out _⟩

set_option maxRecDepth 100000 in
set_option maxHeartbeats 16000000 in
theorem d_zf (s T : ByteArray) (six : Bool) (a b : Ad) (M : Ms) (HT : Hid (∀ W : World, Calls Try.prog 13 #[.string s, .bool six, a.val, b.val] W fun e w' => e = .returned (.tuple #[M.val, .int .i64 0]) ∧ Below W.heap.size W w')) (HL : Hid (∀ W : World, Calls Try.prog 11 #[M.val, a.val, b.val] W fun e w' => e = .returned (.tuple #[.string T, .int .i64 0]) ∧ Below W.heap.size W w')) (z8 : 8 ≤ s.size) (h2 : 2 < s.size) (h3 : 3 < s.size) (z0 : T.size = s.size) (ztwo : T.extract 0 2 = s.extract 0 2) (zfour : T.extract 4 T.size = s.extract 4 s.size) (hne : ¬ T = s) (t2 : 2 < T.size) (t3 : 3 < T.size) (s0 : (((s[2]'h2).toNat : Int) == 0) = true) (s1 : (((s[3]'h3).toNat : Int) == 0) = true) (t_0 : (((T[2]'t2).toNat : Int) == 0) = false) (t_1 : (((T[2]'t2).toNat : Int) == 255) = true) (t_2 : (((T[3]'t3).toNat : Int) == 255) = true) (w : World) :
    Calls Try.prog 9 #[.string s, .bool six, .agg (ecs a b)] w fun e w' => e = .returned (.bool true) ∧ Below w.heap.size w w' := by
  have E0 := Lib.hid (Blk.new w 28 (ecs a b))
  have L0 := Lib.hid ((Below.refl _ w).alloc (Nat.le_refl _) (.cells (ecs a b) 28))
  have HA := Lib.hid (fun W => iawake_yes W)
  obtain ⟨P2, hP2⟩ : ∃ P, s.extract 0 2 = P := ⟨_, rfl⟩
  obtain ⟨P4, hP4⟩ : ∃ P, s.extract 4 s.size = P := ⟨_, rfl⟩
  have i1 : (2 : Int) ≤ s.size := by omega
  have i2 : (4 : Int) ≤ s.size := by omega
  have i3 : (2 : Int) < s.size := by omega
  have i4 : (3 : Int) < s.size := by omega
  rw [hP2] at ztwo
  rw [hP4] at zfour
  have zl : (T.size : Int) = (s.size : Int) := by omega
  have i5 : (2 : Int) ≤ T.size := by omega
  have i6 : (4 : Int) ≤ T.size := by omega
  have i7 : (2 : Int) < T.size := by omega
  have i8 : (3 : Int) < T.size := by omega
  clear z8 z0
  go_enter Try.func9, Try.ntmps9
  go_wp2_with fail
  refine Calls.mono (HA.out _) ?_
  rintro e w1 ⟨rfl, hb⟩
  have E1 := Lib.hid (E0.out.below hb E0.out.lt)
  have L1 := Lib.hid (L0.out.trans (hb.mono L0.out.size))
  clear hb
  obtain ⟨g0, g1, g2, g3, g4, g5⟩ := E1.out.i6
  go_wp2_with fail
  refine Calls.mono (HT.out _) ?_
  rintro e w2 ⟨rfl, hb⟩
  have E2 := Lib.hid ((E1.out.below hb E1.out.lt).alloc (.cells (mcs M) 23))
  have N2 := Lib.hid (Blk.new w2 23 (mcs M))
  have L2 := Lib.hid ((L1.out.trans (hb.mono L1.out.size)).alloc (L1.out.trans (hb.mono L1.out.size)).size (.cells (mcs M) 23))
  clear hb g0 g1 g2 g3 g4 g5
  obtain ⟨f0, f1, f2, f3, f4⟩ := N2.out.i5
  obtain ⟨g0, g1, g2, g3, g4, g5⟩ := E2.out.i6
  go_wp2_with fail
  refine Calls.mono (HL.out _) ?_
  rintro e w3 ⟨rfl, hb⟩
  have L3 := Lib.hid (L2.out.trans (hb.mono L2.out.size))
  clear hb f0 f1 f2 f3 f4 g0 g1 g2 g3 g4 g5 E2 N2 E1 E0
  go_wp2_with fail
  go_quiet (fail)
  go_wp2
  all_goals
    go_ret
    exact ⟨rfl, below_drewN L3.out _⟩
end Go.Proofs.Ytljdebpemdjliaa.Again
