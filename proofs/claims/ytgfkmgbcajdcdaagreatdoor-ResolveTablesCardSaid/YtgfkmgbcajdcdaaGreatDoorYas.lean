/-
  Several texts in one: ERCls, PBt, PRBit, PRof, PLast.
-/
import Derived.Test.YtgfkmgbcajdcdaaGreatDoorYai
import Derived.Test.YtgfkmgbcajdcdaaGreatDoorYar
import Derived.Test.YtgfkmgbcajdcdaaGreatDoorYaj
import Derived.StillTailTactics
import Derived.Test.YtgfkmgbcajdcdaaGreatDoorYaa
set_option linter.unusedVariables false
set_option maxRecDepth 100000
set_option maxHeartbeats 16000000
namespace Go.Proofs.YtgfkmgbcajdcdaaGreatDoor
open Go.RowKit

theorem rclassSix (h l : Int) (hh : U6 h) (hl : U6 l) (w : World) :
  Calls Tryz.prog 136 #[adr true h l] w fun e w' => e = .returned (.int .i64 (clsV true h l)) ∧ Below w.heap.size w w' := by
 obtain ⟨V, hV⟩ : ∃ V, clsV true h l = V := ⟨_, rfl⟩
 have hV2 : V = (if h = 0 ∧ l = 0 then 0 else if h = 0 ∧ l = 1 then 1 else if h / 18014398509481984 = 1018 then 2 else if h / 72057594037927936 = 255 then 3 else 5) := by rw [← hV]; simp [clsV]
 rw [hV]
 have HV := lH hV2
 have H1 := lH (fun W => rvalid_at true h l W (vld_six h l))
 have HB := lH (fun W => rbytes_any true h l hh hl W)
 have eb : byts true h l = putOf 8 h ++ putOf 8 l := by unfold byts; rw [vld_six]; rfl
 rw [eb] at HB
 have e1 : putOf 8 h ++ putOf 8 l = (h / 72057594037927936 % 256) :: (h / 281474976710656 % 256) :: (putOf 6 h ++ putOf 8 l) := by rw [putOf_cons, putOf_cons]; rfl
 obtain ⟨zs, hzs⟩ : ∃ zs, putOf 8 h ++ putOf 8 l = zs := ⟨_, rfl⟩
 have hln : zs.length = 16 := by rw [← hzs]; simp [putOf_len]
 rw [hzs] at e1 HB
 obtain ⟨B0, hB0⟩ : ∃ B0, h / 72057594037927936 % 256 = B0 := ⟨_, rfl⟩
 obtain ⟨B1, hB1⟩ : ∃ B1, h / 281474976710656 % 256 = B1 := ⟨_, rfl⟩
 rw [hB0, hB1] at e1
 have HLn := lH hln
 have HZ0 := lH (show zs[0]? = some B0 by rw [e1]; rfl)
 have HZ1 := lH (show zs[1]? = some B1 by rw [e1]; rfl)
 have b0 : 0 ≤ B0 ∧ B0 ≤ 255 := by omega
 have b1 : 0 ≤ B1 ∧ B1 ≤ 255 := by omega
 have d54 : h / 18014398509481984 = B0 * 4 + B1 / 64 := by have := hh.1; have := hh.2; omega
 have d56 : h / 72057594037927936 = B0 := by have := hh.1; have := hh.2; omega
 have h00 : h = 0 → B0 = 0 := by omega
 rw [d54, d56] at HV
 have HD := lH h00
 obtain ⟨b00, b01⟩ := b0
 obtain ⟨b10, b11⟩ := b1
 clear hV hV2 hh hl eb e1 hzs hln hB0 hB1 d54 d56 h00
 by_cases c0 : h = 0
 ·subst c0
  have e0 := HD.out rfl
  subst e0
  by_cases c1 : l = 0
  ·subst c1
   have HX : Hid (V = 0) := lH (by rw [HV.out]; simp)
   clear HV HD
   go_enter Tryz.func136, Tryz.ntmps136
   go_wp2_with fail
   refine cZm (H1.out _) ?_
   rintro e w1 ⟨rfl, hb⟩
   have R1 := lH ((Blk.new w 28 #[.bool true, .int .u64 0, .int .u64 0]).below hb (by simp only [zA]; omega))
   have L1 := lH (((Below.refl _ w).alloc (Nat.le_refl _) _).trans (hb.mono (by simp only [zA]; omega)))
   obtain ⟨g1, g2, g3⟩ := R1.out.c3
   clear hb
   go_wp2_with fail
   refine cZm (HB.out _) ?_
   rintro e w2 ⟨A, c, rfl, hri, -, -, hb⟩
   have R2 := lH (R1.out.below hb R1.out.lt)
   have L2 := lH (L1.out.trans (hb.mono L1.out.size))
   have HRI := lH hri
   clear hb g1 g2 g3 hri
   obtain ⟨g1, g2, g3⟩ := R2.out.c3
   obtain ⟨b, o, rfl, -, hc⟩ := HRI.out.2.1 (by rw [HLn.out]; decide)
   have d0 := hc 0 _ HZ0.out
   rw [Nat.add_zero] at d0
   have d1 := hc 1 _ HZ1.out
   rw [HLn.out]
   clear hc
   go_wp2
   go_ret
   exact ⟨ret_k HX.out.symm, L2.out⟩
  ·by_cases c2 : l = 1
   ·subst c2
    have HX : Hid (V = 1) := lH (by rw [HV.out]; simp)
    clear HV HD
    go_enter Tryz.func136, Tryz.ntmps136
    go_wp2_with fail
    refine cZm (H1.out _) ?_
    rintro e w1 ⟨rfl, hb⟩
    have R1 := lH ((Blk.new w 28 #[.bool true, .int .u64 0, .int .u64 1]).below hb (by simp only [zA]; omega))
    have L1 := lH (((Below.refl _ w).alloc (Nat.le_refl _) _).trans (hb.mono (by simp only [zA]; omega)))
    obtain ⟨g1, g2, g3⟩ := R1.out.c3
    clear hb
    go_wp2_with fail
    refine cZm (HB.out _) ?_
    rintro e w2 ⟨A, c, rfl, hri, -, -, hb⟩
    have R2 := lH (R1.out.below hb R1.out.lt)
    have L2 := lH (L1.out.trans (hb.mono L1.out.size))
    have HRI := lH hri
    clear hb g1 g2 g3 hri
    obtain ⟨g1, g2, g3⟩ := R2.out.c3
    obtain ⟨b, o, rfl, -, hc⟩ := HRI.out.2.1 (by rw [HLn.out]; decide)
    have d0 := hc 0 _ HZ0.out
    rw [Nat.add_zero] at d0
    have d1 := hc 1 _ HZ1.out
    rw [HLn.out]
    clear hc
    go_wp2
    go_ret
    exact ⟨ret_k HX.out.symm, L2.out⟩
   ·have HX : Hid (V = 5) := lH (by rw [HV.out, if_neg (by omega), if_neg (by omega), if_neg (by omega), if_neg (by omega)])
    clear HV HD
    go_enter Tryz.func136, Tryz.ntmps136
    go_wp2_with fail
    refine cZm (H1.out _) ?_
    rintro e w1 ⟨rfl, hb⟩
    have R1 := lH ((Blk.new w 28 #[.bool true, .int .u64 0, .int .u64 l]).below hb (by simp only [zA]; omega))
    have L1 := lH (((Below.refl _ w).alloc (Nat.le_refl _) _).trans (hb.mono (by simp only [zA]; omega)))
    obtain ⟨g1, g2, g3⟩ := R1.out.c3
    clear hb
    go_wp2_with fail
    refine cZm (HB.out _) ?_
    rintro e w2 ⟨A, c, rfl, hri, -, -, hb⟩
    have R2 := lH (R1.out.below hb R1.out.lt)
    have L2 := lH (L1.out.trans (hb.mono L1.out.size))
    have HRI := lH hri
    clear hb g1 g2 g3 hri
    obtain ⟨g1, g2, g3⟩ := R2.out.c3
    obtain ⟨b, o, rfl, -, hc⟩ := HRI.out.2.1 (by rw [HLn.out]; decide)
    have d0 := hc 0 _ HZ0.out
    rw [Nat.add_zero] at d0
    have d1 := hc 1 _ HZ1.out
    rw [HLn.out]
    clear hc
    go_wp2
    go_ret
    exact ⟨ret_k HX.out.symm, L2.out⟩
 ·by_cases c1 : B0 = 254
  ·by_cases c2 : B1 / 64 = 2
   ·have HX : Hid (V = 2) := lH (by rw [HV.out, if_neg (by omega), if_neg (by omega), if_pos (by omega)])
    clear HV HD
    go_enter Tryz.func136, Tryz.ntmps136
    go_wp2_with fail
    refine cZm (H1.out _) ?_
    rintro e w1 ⟨rfl, hb⟩
    have R1 := lH ((Blk.new w 28 #[.bool true, .int .u64 h, .int .u64 l]).below hb (by simp only [zA]; omega))
    have L1 := lH (((Below.refl _ w).alloc (Nat.le_refl _) _).trans (hb.mono (by simp only [zA]; omega)))
    obtain ⟨g1, g2, g3⟩ := R1.out.c3
    clear hb
    go_wp2_with fail
    refine cZm (HB.out _) ?_
    rintro e w2 ⟨A, c, rfl, hri, -, -, hb⟩
    have R2 := lH (R1.out.below hb R1.out.lt)
    have L2 := lH (L1.out.trans (hb.mono L1.out.size))
    have HRI := lH hri
    clear hb g1 g2 g3 hri
    obtain ⟨g1, g2, g3⟩ := R2.out.c3
    obtain ⟨b, o, rfl, -, hc⟩ := HRI.out.2.1 (by rw [HLn.out]; decide)
    have d0 := hc 0 _ HZ0.out
    rw [Nat.add_zero] at d0
    have d1 := hc 1 _ HZ1.out
    rw [HLn.out]
    clear hc
    go_wp2
    go_ret
    exact ⟨ret_k HX.out.symm, L2.out⟩
   ·have HX : Hid (V = 5) := lH (by rw [HV.out, if_neg (by omega), if_neg (by omega), if_neg (by omega), if_neg (by omega)])
    clear HV HD
    go_enter Tryz.func136, Tryz.ntmps136
    go_wp2_with fail
    refine cZm (H1.out _) ?_
    rintro e w1 ⟨rfl, hb⟩
    have R1 := lH ((Blk.new w 28 #[.bool true, .int .u64 h, .int .u64 l]).below hb (by simp only [zA]; omega))
    have L1 := lH (((Below.refl _ w).alloc (Nat.le_refl _) _).trans (hb.mono (by simp only [zA]; omega)))
    obtain ⟨g1, g2, g3⟩ := R1.out.c3
    clear hb
    go_wp2_with fail
    refine cZm (HB.out _) ?_
    rintro e w2 ⟨A, c, rfl, hri, -, -, hb⟩
    have R2 := lH (R1.out.below hb R1.out.lt)
    have L2 := lH (L1.out.trans (hb.mono L1.out.size))
    have HRI := lH hri
    clear hb g1 g2 g3 hri
    obtain ⟨g1, g2, g3⟩ := R2.out.c3
    obtain ⟨b, o, rfl, -, hc⟩ := HRI.out.2.1 (by rw [HLn.out]; decide)
    have d0 := hc 0 _ HZ0.out
    rw [Nat.add_zero] at d0
    have d1 := hc 1 _ HZ1.out
    rw [HLn.out]
    clear hc
    go_wp2
    go_ret
    exact ⟨ret_k HX.out.symm, L2.out⟩
  ·by_cases c2 : B0 = 255
   ·have HX : Hid (V = 3) := lH (by rw [HV.out, if_neg (by omega), if_neg (by omega), if_neg (by omega), if_pos c2])
    clear HV HD
    go_enter Tryz.func136, Tryz.ntmps136
    go_wp2_with fail
    refine cZm (H1.out _) ?_
    rintro e w1 ⟨rfl, hb⟩
    have R1 := lH ((Blk.new w 28 #[.bool true, .int .u64 h, .int .u64 l]).below hb (by simp only [zA]; omega))
    have L1 := lH (((Below.refl _ w).alloc (Nat.le_refl _) _).trans (hb.mono (by simp only [zA]; omega)))
    obtain ⟨g1, g2, g3⟩ := R1.out.c3
    clear hb
    go_wp2_with fail
    refine cZm (HB.out _) ?_
    rintro e w2 ⟨A, c, rfl, hri, -, -, hb⟩
    have R2 := lH (R1.out.below hb R1.out.lt)
    have L2 := lH (L1.out.trans (hb.mono L1.out.size))
    have HRI := lH hri
    clear hb g1 g2 g3 hri
    obtain ⟨g1, g2, g3⟩ := R2.out.c3
    obtain ⟨b, o, rfl, -, hc⟩ := HRI.out.2.1 (by rw [HLn.out]; decide)
    have d0 := hc 0 _ HZ0.out
    rw [Nat.add_zero] at d0
    have d1 := hc 1 _ HZ1.out
    rw [HLn.out]
    clear hc
    go_wp2
    go_ret
    exact ⟨ret_k HX.out.symm, L2.out⟩
   ·have HX : Hid (V = 5) := lH (by rw [HV.out, if_neg (by omega), if_neg (by omega), if_neg (by omega), if_neg c2])
    clear HV HD
    go_enter Tryz.func136, Tryz.ntmps136
    go_wp2_with fail
    refine cZm (H1.out _) ?_
    rintro e w1 ⟨rfl, hb⟩
    have R1 := lH ((Blk.new w 28 #[.bool true, .int .u64 h, .int .u64 l]).below hb (by simp only [zA]; omega))
    have L1 := lH (((Below.refl _ w).alloc (Nat.le_refl _) _).trans (hb.mono (by simp only [zA]; omega)))
    obtain ⟨g1, g2, g3⟩ := R1.out.c3
    clear hb
    go_wp2_with fail
    refine cZm (HB.out _) ?_
    rintro e w2 ⟨A, c, rfl, hri, -, -, hb⟩
    have R2 := lH (R1.out.below hb R1.out.lt)
    have L2 := lH (L1.out.trans (hb.mono L1.out.size))
    have HRI := lH hri
    clear hb g1 g2 g3 hri
    obtain ⟨g1, g2, g3⟩ := R2.out.c3
    obtain ⟨b, o, rfl, -, hc⟩ := HRI.out.2.1 (by rw [HLn.out]; decide)
    have d0 := hc 0 _ HZ0.out
    rw [Nat.add_zero] at d0
    have d1 := hc 1 _ HZ1.out
    rw [HLn.out]
    clear hc
    go_wp2
    go_ret
    exact ⟨ret_k HX.out.symm, L2.out⟩

theorem rclassFour (l : Int) (h0 : 0 ≤ l) (h1 : l ≤ 4294967295) (w : World) :
  Calls Tryz.prog 136 #[adr false 0 l] w fun e w' => e = .returned (.int .i64 (clsV false 0 l)) ∧ Below w.heap.size w w' := by
 obtain ⟨V, hV⟩ : ∃ V, clsV false 0 l = V := ⟨_, rfl⟩
 have hV2 : V = (if l = 0 then 0 else if l / 16777216 = 127 then 1 else if l / 65536 = 43518 then 2 else if l = 4294967295 then 4 else if l / 268435456 = 14 then 3 else 5) := by rw [← hV]; simp [clsV, h1]
 rw [hV]
 have HV := lH hV2
 have hvl : vld false 0 l = true := by simp [vld, h1]
 have H1 := lH (fun W => rvalid_at false 0 l W hvl)
 have HB := lH (fun W => rbytes_any false 0 l ⟨by omega, by omega⟩ ⟨by omega, by omega⟩ W)
 have eb : byts false 0 l = putOf 4 l := by unfold byts; rw [hvl]; rfl
 rw [eb] at HB
 have e1 : putOf 4 l = (l / 16777216 % 256) :: (l / 65536 % 256) :: putOf 2 l := by rw [putOf_cons, putOf_cons]; rfl
 obtain ⟨zs, hzs⟩ : ∃ zs, putOf 4 l = zs := ⟨_, rfl⟩
 have hln : zs.length = 4 := by rw [← hzs]; simp [putOf_len]
 rw [hzs] at e1 HB
 obtain ⟨B0, hB0⟩ : ∃ B0, l / 16777216 % 256 = B0 := ⟨_, rfl⟩
 obtain ⟨B1, hB1⟩ : ∃ B1, l / 65536 % 256 = B1 := ⟨_, rfl⟩
 rw [hB0, hB1] at e1
 have HLn := lH hln
 have HZ0 := lH (show zs[0]? = some B0 by rw [e1]; rfl)
 have HZ1 := lH (show zs[1]? = some B1 by rw [e1]; rfl)
 have d24 : l / 16777216 = B0 := by omega
 have d16 : l / 65536 = B0 * 256 + B1 := by omega
 have d28 : l / 268435456 = B0 / 16 := by omega
 have hff : l = 4294967295 → B0 = 255 := by omega
 have b0 : 0 ≤ B0 ∧ B0 ≤ 255 := by omega
 have b1 : 0 ≤ B1 ∧ B1 ≤ 255 := by omega
 rw [d24, d16, d28] at HV
 have HD := lH hff
 obtain ⟨b00, b01⟩ := b0
 obtain ⟨b10, b11⟩ := b1
 clear hV hV2 hvl eb e1 hzs hln hB0 hB1 d24 d16 d28 hff
 by_cases c0 : l = 0
 ·subst c0
  have HX : Hid (V = 0) := lH (by rw [HV.out, if_pos rfl])
  clear HV HD
  go_enter Tryz.func136, Tryz.ntmps136
  go_wp2_with fail
  refine cZm (H1.out _) ?_
  rintro e w1 ⟨rfl, hb⟩
  have R1 := lH ((Blk.new w 28 #[.bool false, .int .u64 0, .int .u64 0]).below hb (by simp only [zA]; omega))
  have L1 := lH (((Below.refl _ w).alloc (Nat.le_refl _) _).trans (hb.mono (by simp only [zA]; omega)))
  obtain ⟨g1, g2, g3⟩ := R1.out.c3
  clear hb
  go_wp2_with fail
  refine cZm (HB.out _) ?_
  rintro e w2 ⟨A, c, rfl, hri, -, -, hb⟩
  have R2 := lH (R1.out.below hb R1.out.lt)
  have L2 := lH (L1.out.trans (hb.mono L1.out.size))
  have HRI := lH hri
  clear hb g1 g2 g3 hri
  obtain ⟨g1, g2, g3⟩ := R2.out.c3
  obtain ⟨b, o, rfl, -, hc⟩ := HRI.out.2.1 (by rw [HLn.out]; decide)
  have d0 := hc 0 _ HZ0.out
  rw [Nat.add_zero] at d0
  have d1 := hc 1 _ HZ1.out
  rw [HLn.out]
  clear hc
  go_wp2
  go_ret
  exact ⟨ret_k HX.out.symm, L2.out⟩
 ·by_cases c1 : B0 = 127
  ·have HX : Hid (V = 1) := lH (by rw [HV.out, if_neg c0, if_pos c1])
   clear HV HD
   go_enter Tryz.func136, Tryz.ntmps136
   go_wp2_with fail
   refine cZm (H1.out _) ?_
   rintro e w1 ⟨rfl, hb⟩
   have R1 := lH ((Blk.new w 28 #[.bool false, .int .u64 0, .int .u64 l]).below hb (by simp only [zA]; omega))
   have L1 := lH (((Below.refl _ w).alloc (Nat.le_refl _) _).trans (hb.mono (by simp only [zA]; omega)))
   obtain ⟨g1, g2, g3⟩ := R1.out.c3
   clear hb
   go_wp2_with fail
   refine cZm (HB.out _) ?_
   rintro e w2 ⟨A, c, rfl, hri, -, -, hb⟩
   have R2 := lH (R1.out.below hb R1.out.lt)
   have L2 := lH (L1.out.trans (hb.mono L1.out.size))
   have HRI := lH hri
   clear hb g1 g2 g3 hri
   obtain ⟨g1, g2, g3⟩ := R2.out.c3
   obtain ⟨b, o, rfl, -, hc⟩ := HRI.out.2.1 (by rw [HLn.out]; decide)
   have d0 := hc 0 _ HZ0.out
   rw [Nat.add_zero] at d0
   have d1 := hc 1 _ HZ1.out
   rw [HLn.out]
   clear hc
   go_wp2
   go_ret
   exact ⟨ret_k HX.out.symm, L2.out⟩
  ·by_cases c2 : B0 = 169
   ·by_cases c3 : B1 = 254
    ·have HX : Hid (V = 2) := lH (by rw [HV.out, if_neg c0, if_neg c1, if_pos (by omega)])
     clear HV HD
     go_enter Tryz.func136, Tryz.ntmps136
     go_wp2_with fail
     refine cZm (H1.out _) ?_
     rintro e w1 ⟨rfl, hb⟩
     have R1 := lH ((Blk.new w 28 #[.bool false, .int .u64 0, .int .u64 l]).below hb (by simp only [zA]; omega))
     have L1 := lH (((Below.refl _ w).alloc (Nat.le_refl _) _).trans (hb.mono (by simp only [zA]; omega)))
     obtain ⟨g1, g2, g3⟩ := R1.out.c3
     clear hb
     go_wp2_with fail
     refine cZm (HB.out _) ?_
     rintro e w2 ⟨A, c, rfl, hri, -, -, hb⟩
     have R2 := lH (R1.out.below hb R1.out.lt)
     have L2 := lH (L1.out.trans (hb.mono L1.out.size))
     have HRI := lH hri
     clear hb g1 g2 g3 hri
     obtain ⟨g1, g2, g3⟩ := R2.out.c3
     obtain ⟨b, o, rfl, -, hc⟩ := HRI.out.2.1 (by rw [HLn.out]; decide)
     have d0 := hc 0 _ HZ0.out
     rw [Nat.add_zero] at d0
     have d1 := hc 1 _ HZ1.out
     rw [HLn.out]
     clear hc
     go_wp2
     go_ret
     exact ⟨ret_k HX.out.symm, L2.out⟩
    ·have n1 : ¬ l = 4294967295 := fun e => by have := HD.out e; omega
     have HX : Hid (V = 5) := lH (by rw [HV.out, if_neg c0, if_neg c1, if_neg (by omega), if_neg n1, if_neg (by omega)])
     clear HV HD
     go_enter Tryz.func136, Tryz.ntmps136
     go_wp2_with fail
     refine cZm (H1.out _) ?_
     rintro e w1 ⟨rfl, hb⟩
     have R1 := lH ((Blk.new w 28 #[.bool false, .int .u64 0, .int .u64 l]).below hb (by simp only [zA]; omega))
     have L1 := lH (((Below.refl _ w).alloc (Nat.le_refl _) _).trans (hb.mono (by simp only [zA]; omega)))
     obtain ⟨g1, g2, g3⟩ := R1.out.c3
     clear hb
     go_wp2_with fail
     refine cZm (HB.out _) ?_
     rintro e w2 ⟨A, c, rfl, hri, -, -, hb⟩
     have R2 := lH (R1.out.below hb R1.out.lt)
     have L2 := lH (L1.out.trans (hb.mono L1.out.size))
     have HRI := lH hri
     clear hb g1 g2 g3 hri
     obtain ⟨g1, g2, g3⟩ := R2.out.c3
     obtain ⟨b, o, rfl, -, hc⟩ := HRI.out.2.1 (by rw [HLn.out]; decide)
     have d0 := hc 0 _ HZ0.out
     rw [Nat.add_zero] at d0
     have d1 := hc 1 _ HZ1.out
     rw [HLn.out]
     clear hc
     go_wp2
     go_ret
     exact ⟨ret_k HX.out.symm, L2.out⟩
   ·by_cases c3 : l = 4294967295
    ·have e255 := HD.out c3
     subst c3
     have HX : Hid (V = 4) := lH (by rw [HV.out, if_neg c0, if_neg c1, if_neg (by omega), if_pos rfl])
     clear HV HD
     go_enter Tryz.func136, Tryz.ntmps136
     go_wp2_with fail
     refine cZm (H1.out _) ?_
     rintro e w1 ⟨rfl, hb⟩
     have R1 := lH ((Blk.new w 28 #[.bool false, .int .u64 0, .int .u64 4294967295]).below hb (by simp only [zA]; omega))
     have L1 := lH (((Below.refl _ w).alloc (Nat.le_refl _) _).trans (hb.mono (by simp only [zA]; omega)))
     obtain ⟨g1, g2, g3⟩ := R1.out.c3
     clear hb
     go_wp2_with fail
     refine cZm (HB.out _) ?_
     rintro e w2 ⟨A, c, rfl, hri, -, -, hb⟩
     have R2 := lH (R1.out.below hb R1.out.lt)
     have L2 := lH (L1.out.trans (hb.mono L1.out.size))
     have HRI := lH hri
     clear hb g1 g2 g3 hri
     obtain ⟨g1, g2, g3⟩ := R2.out.c3
     obtain ⟨b, o, rfl, -, hc⟩ := HRI.out.2.1 (by rw [HLn.out]; decide)
     have d0 := hc 0 _ HZ0.out
     rw [Nat.add_zero] at d0
     have d1 := hc 1 _ HZ1.out
     rw [HLn.out]
     clear hc
     go_wp2
     go_ret
     exact ⟨ret_k HX.out.symm, L2.out⟩
    ·by_cases c4 : B0 / 16 = 14
     ·have HX : Hid (V = 3) := lH (by rw [HV.out, if_neg c0, if_neg c1, if_neg (by omega), if_neg c3, if_pos c4])
      clear HV HD
      go_enter Tryz.func136, Tryz.ntmps136
      go_wp2_with fail
      refine cZm (H1.out _) ?_
      rintro e w1 ⟨rfl, hb⟩
      have R1 := lH ((Blk.new w 28 #[.bool false, .int .u64 0, .int .u64 l]).below hb (by simp only [zA]; omega))
      have L1 := lH (((Below.refl _ w).alloc (Nat.le_refl _) _).trans (hb.mono (by simp only [zA]; omega)))
      obtain ⟨g1, g2, g3⟩ := R1.out.c3
      clear hb
      go_wp2_with fail
      refine cZm (HB.out _) ?_
      rintro e w2 ⟨A, c, rfl, hri, -, -, hb⟩
      have R2 := lH (R1.out.below hb R1.out.lt)
      have L2 := lH (L1.out.trans (hb.mono L1.out.size))
      have HRI := lH hri
      clear hb g1 g2 g3 hri
      obtain ⟨g1, g2, g3⟩ := R2.out.c3
      obtain ⟨b, o, rfl, -, hc⟩ := HRI.out.2.1 (by rw [HLn.out]; decide)
      have d0 := hc 0 _ HZ0.out
      rw [Nat.add_zero] at d0
      have d1 := hc 1 _ HZ1.out
      rw [HLn.out]
      clear hc
      go_wp2
      go_ret
      exact ⟨ret_k HX.out.symm, L2.out⟩
     ·have HX : Hid (V = 5) := lH (by rw [HV.out, if_neg c0, if_neg c1, if_neg (by omega), if_neg c3, if_neg c4])
      clear HV HD
      go_enter Tryz.func136, Tryz.ntmps136
      go_wp2_with fail
      refine cZm (H1.out _) ?_
      rintro e w1 ⟨rfl, hb⟩
      have R1 := lH ((Blk.new w 28 #[.bool false, .int .u64 0, .int .u64 l]).below hb (by simp only [zA]; omega))
      have L1 := lH (((Below.refl _ w).alloc (Nat.le_refl _) _).trans (hb.mono (by simp only [zA]; omega)))
      obtain ⟨g1, g2, g3⟩ := R1.out.c3
      clear hb
      go_wp2_with fail
      refine cZm (HB.out _) ?_
      rintro e w2 ⟨A, c, rfl, hri, -, -, hb⟩
      have R2 := lH (R1.out.below hb R1.out.lt)
      have L2 := lH (L1.out.trans (hb.mono L1.out.size))
      have HRI := lH hri
      clear hb g1 g2 g3 hri
      obtain ⟨g1, g2, g3⟩ := R2.out.c3
      obtain ⟨b, o, rfl, -, hc⟩ := HRI.out.2.1 (by rw [HLn.out]; decide)
      have d0 := hc 0 _ HZ0.out
      rw [Nat.add_zero] at d0
      have d1 := hc 1 _ HZ1.out
      rw [HLn.out]
      clear hc
      go_wp2
      go_ret
      exact ⟨ret_k HX.out.symm, L2.out⟩

theorem rclass_any (s : Bool) (h l : Int) (hh : U6 h) (hl : U6 l) (w : World) :
  Calls Tryz.prog 136 #[adr s h l] w fun e w' => e = .returned (.int .i64 (clsV s h l)) ∧ Below w.heap.size w w' := by
 obtain ⟨V, hV⟩ : ∃ V, vld s h l = V := ⟨_, rfl⟩
 cases V
 ·have H1 := lH (fun W => rvalid_at s h l W hV)
  have HX := lH (cls_no hV)
  clear hV
  go_enter Tryz.func136, Tryz.ntmps136
  go_wp2_with fail
  refine cZm (H1.out _) ?_
  rintro e w1 ⟨rfl, hb⟩
  have L1 := ((Below.refl _ w).alloc (Nat.le_refl _) _).trans (hb.mono (by simp only [zA]; omega))
  clear hb
  go_wp2
  go_ret
  exact ⟨ret_k (by rw [HX.out]), L1⟩
 ·cases s
  ·obtain ⟨rfl, h4⟩ := vld_four hV
   exact rclassFour l hl.1 h4 w
  ·exact rclassSix h l hh hl w
theorem rclass_at (s : Bool) (h l : Int) (hh : U6 h) (hl : U6 l) {v : Int} (hv : clsV s h l = v) (w : World) :
  Calls Tryz.prog 136 #[adr s h l] w fun e w' => e = .returned (.int .i64 v) ∧ Below w.heap.size w w' := by
 subst hv; exact rclass_any s h l hh hl w
end Go.Proofs.YtgfkmgbcajdcdaaGreatDoor

namespace Go.Proofs.YtgfkmgbcajdcdaaGreatDoor
open Go.RowKit

theorem ret_i64 {a b : Int} (h : a = b) : Ending.returned (.int .i64 a) = .returned (.int .i64 b) := by rw [h]
end Go.Proofs.YtgfkmgbcajdcdaaGreatDoor

namespace Go.Proofs.YtgfkmgbcajdcdaaGreatDoor
open Go.RowKit

theorem rwidth_at (s : Bool) (h l W : Int) (hW : (wd s : Int) = W) (w : World) :
  Calls Tryz.prog 103 #[adr s h l] w fun e w' => e = .returned (.int .i64 W) ∧ Below w.heap.size w w' := by
 subst hW
 cases s
 all_goals
  go_enter Tryz.func103, Tryz.ntmps103
  go_wp2
  go_ret
  exact ⟨rfl, (Below.refl _ _).alloc (Nat.le_refl _) _⟩
theorem bit_of_byte (x m r : Nat) (hr : r < 8) : x / 256 ^ m % 256 / 2 ^ r % 2 = x / 2 ^ (8 * m + r) % 2 := by
 have e : (256 : Nat) ^ m = 2 ^ (8 * m) := by rw [show (256 : Nat) = 2 ^ 8 from rfl, ← Nat.pow_mul]
 rw [div_pow_add, e]
 generalize x / 2 ^ (8 * m) = y
 have h : r = 0 ∨ r = 1 ∨ r = 2 ∨ r = 3 ∨ r = 4 ∨ r = 5 ∨ r = 6 ∨ r = 7 := by omega
 rcases h with rfl | rfl | rfl | rfl | rfl | rfl | rfl | rfl <;> simp <;> omega
theorem putOf_at (k : Nat) (v j : Nat) (hj : j < k) : (putOf k (v : Int))[j]? = some (((v / 256 ^ (k - 1 - j) % 256 : Nat)) : Int) := by
 have h := putOf_get k (v : Int) (k - 1 - j) (by omega)
 rw [show k - 1 - (k - 1 - j) = j by omega] at h
 rw [h]
 congr 1
theorem byts_at {s : Bool} {h l : Nat} (hh : N64 h) (hl : N64 l) (v : vld s h l = true) (i : Nat) (hi : i < wd s) :
  ∃ c : Nat, c < 256 ∧ (byts s h l)[i / 8]? = some (c : Int) ∧ c / 2 ^ (7 - i % 8) % 2 = bt (nm h l) (wd s) i := by
 unfold byts
 rw [if_pos v]
 cases s
 ·have w32 : wd false = 32 := rfl
  rw [w32] at hi ⊢
  rw [if_neg (by decide)]
  refine ⟨l / 256 ^ (4 - 1 - i / 8) % 256, Nat.mod_lt _ (by decide), putOf_at 4 l (i / 8) (by omega), ?_⟩
  rw [bit_of_byte _ _ _ (by omega)]
  unfold bt
  rw [show 8 * (4 - 1 - i / 8) + (7 - i % 8) = 32 - 1 - i by omega, nm_bit_lo h l _ (by omega)]
 ·have w128 : wd true = 128 := rfl
  rw [w128] at hi ⊢
  rw [if_pos rfl]
  by_cases h64 : i < 64
  ·refine ⟨h / 256 ^ (8 - 1 - i / 8) % 256, Nat.mod_lt _ (by decide), ?_, ?_⟩
   ·rw [List.getElem?_append_left (by rw [putOf_len]; omega)]
    exact putOf_at 8 h (i / 8) (by omega)
   ·rw [bit_of_byte _ _ _ (by omega)]
    unfold bt
    rw [show 8 * (8 - 1 - i / 8) + (7 - i % 8) = 63 - i by omega, show 128 - 1 - i = 64 + (63 - i) by omega, nm_bit_hi h l _ hl.lt]
  ·refine ⟨l / 256 ^ (8 - 1 - (i / 8 - 8)) % 256, Nat.mod_lt _ (by decide), ?_, ?_⟩
   ·rw [List.getElem?_append_right (by rw [putOf_len]; omega), putOf_len]
    exact putOf_at 8 l (i / 8 - 8) (by omega)
   ·rw [bit_of_byte _ _ _ (by omega)]
    unfold bt
    rw [show 8 * (8 - 1 - (i / 8 - 8)) + (7 - i % 8) = 128 - 1 - i by omega, nm_bit_lo h l _ (by omega)]

theorem rbit_in (s : Bool) (h l i : Nat) (hh : N64 h) (hl : N64 l) (v : vld s h l = true) (hi : i < wd s) (w : World) :
  Calls Tryz.prog 141 #[adr s h l, .int .i64 i] w fun e w' => e = .returned (.int .i64 ((bt (nm h l) (wd s) i : Nat) : Int)) ∧ Below w.heap.size w w' := by
 obtain ⟨c, hc, hcb, hct⟩ := byts_at hh hl v i hi
 obtain ⟨W, hW⟩ : ∃ W, (wd s : Int) = W := ⟨_, rfl⟩
 have iW : (i : Int) < W := by rw [← hW]; omega
 have i0 : (0 : Int) ≤ i := by omega
 have W1 : W ≤ 128 := by rw [← hW]; unfold wd; split <;> omega
 have HV := lH (fun w => rvalid_at s h l w v)
 have HW := lH (fun w => rwidth_at s h l W hW w)
 have HB := lH (fun w => rbytes_any s h l (show U6 h by unfold N64 at hh; unfold U6; omega) (show U6 l by unfold N64 at hl; unfold U6; omega) w)
 obtain ⟨q, hq⟩ : ∃ q, q = i / 8 := ⟨_, rfl⟩
 obtain ⟨r, hr⟩ : ∃ r, r = i % 8 := ⟨_, rfl⟩
 have eq1 : (i : Int) / 8 = (q : Int) := by omega
 have er1 : (i : Int) % 8 = (r : Int) := by omega
 have r8 : r < 8 := by omega
 rw [← hq] at hcb
 rw [← hr] at hct
 obtain ⟨n, hn⟩ : ∃ n, n = (byts s h l).length := ⟨_, rfl⟩
 have qn : q < n := by rw [hn]; exact (List.getElem?_eq_some_iff.1 hcb).1
 have HCB := lH hcb
 have HCT := lH hct
 have HN := lH hn
 have EQ := lH eq1
 have ER := lH er1
 clear hW v hcb hct hi hn hq hr eq1 er1
 go_enter Tryz.func141, Tryz.ntmps141
 go_wp2_with fail
 refine cZm (HV.out _) ?_
 rintro e w1 ⟨rfl, hb⟩
 have K1 := lH ((Blk.new w 28 #[.bool s, .int .u64 h, .int .u64 l]).below hb (by simp only [zA]; omega))
 have L1 := lH (((Below.refl _ w).alloc (Nat.le_refl _) _).trans (hb.mono (by simp only [zA]; omega)))
 have s1 : w.heap.size < w1.heap.size := by have := hb.size; simp only [zA] at this; omega
 clear hb
 obtain ⟨f0, f1, f2⟩ := K1.out.c3
 go_wp2_with fail
 refine cZm (HW.out _) ?_
 rintro e w2 ⟨rfl, hb⟩
 clear f0 f1 f2
 have K2 := lH (K1.out.below hb s1)
 have L2 := lH (L1.out.trans (hb.mono L1.out.size))
 have s2 : w.heap.size < w2.heap.size := by have := hb.size; omega
 clear hb
 obtain ⟨f0, f1, f2⟩ := K2.out.c3
 go_wp2_with fail
 refine cZm (HB.out _) ?_
 rintro e w3 ⟨A, cp, rfl, hri, -, -, hb⟩
 clear f0 f1 f2
 have L3 := lH (L2.out.trans (hb.mono L2.out.size))
 rw [← HN.out] at hri
 obtain ⟨b, o, rfl, hbk, hcell⟩ := hri.2.1 (by omega)
 have d0 := hcell _ _ HCB.out
 have qn' : (q : Int) < n := by omega
 have q0 : (0 : Int) ≤ q := by omega
 have eq1 := EQ.out
 have er1 := ER.out
 rw [← HN.out]
 clear hb hri hcell hbk
 go_wp2
 clear eq1 er1 d0
 go_loop [7, 8] (fun x k => ∃ t y : Nat, r + t ≤ 7 ∧ y < 256 ∧ x = .int .i64 y ∧ k = .int .i64 ((r + t : Nat) : Int) ∧ Hid (y = c / 2 ^ t)) (fun _ k => (7 - intOf k).toNat)
 case atStart => exact ⟨0, c, by omega, hc, rfl, by rw [ER.out]; rfl, lH (by simp)⟩
 case round =>
  obtain ⟨t, y, ht, hy, rfl, rfl, he⟩ := hrel
  obtain ⟨k, hk⟩ : ∃ k : Nat, k = r + t := ⟨_, rfl⟩
  rw [← hk]
  have HK := lH hk
  have k7 : k ≤ 7 := by omega
  clear hk ht
  by_cases hlt : k < 7
  ·go_wp2
   go_round
   case rel => exact ⟨t + 1, y / 2, by have := HK.out; omega, by omega, by go_num, by have := HK.out; rw [show r + (t + 1) = k + 1 by omega]; go_num, lH (by rw [he.out, Nat.pow_succ, Nat.div_div_eq_div_mul])⟩
   case measure => simp [intOf]; omega
  ·go_wp2
   go_ret
   refine ⟨ret_i64 ?_, L3.out⟩
   rw [← HCT.out, show 7 - r = t by have := HK.out; omega, ← he.out]
   omega

theorem rbit_any (s : Bool) (h l i : Nat) (hh : N64 h) (hl : N64 l) (v : vld s h l = true) (hi : i < wd s) {b : Nat} (e : bt (nm h l) (wd s) i = b) (w : World) :
  Calls Tryz.prog 141 #[adr s h l, .int .i64 i] w fun e w' => e = .returned (.int .i64 b) ∧ Below w.heap.size w w' := by
 subst e; exact rbit_in s h l i hh hl v hi w
end Go.Proofs.YtgfkmgbcajdcdaaGreatDoor

namespace Go.Proofs.YtgfkmgbcajdcdaaGreatDoor
open Go.RowKit

def Bin (zs : List Int) : Prop := ∀ z ∈ zs, 0 ≤ z ∧ z ≤ 1
theorem f2_bd : ∀ (k : Nat) (zs : List Int), Bin zs → 0 ≤ f2 (zs.take k) ∧ f2 (zs.take k) < ((2 ^ k : Nat) : Int)
 | 0, zs, h => by rw [List.take_zero]; exact ⟨Int.le_refl _, by decide⟩
 | k + 1, zs, h => by
  obtain ⟨a, b⟩ := f2_bd k zs h
  rw [Nat.pow_succ]
  cases hz : zs[k]? with
  | none =>
   rw [List.take_add_one, hz]
   simp only [Option.toList_none, List.append_nil]
   omega
  | some z =>
   have hb := h z (List.mem_of_getElem? hz)
   rw [List.take_add_one, hz]
   show 0 ≤ f2 (_ ++ [z]) ∧ _
   rw [Option.toList_some, f2_snoc]
   omega
theorem f2_next {zs : List Int} {k : Nat} {z : Int} (h : zs[k]? = some z) : f2 (zs.take (k + 1)) = f2 (zs.take k) * 2 + z := by
 rw [List.take_add_one, h, Option.toList_some, f2_snoc]
theorem Bin.drop {zs : List Int} (h : Bin zs) (k : Nat) : Bin (zs.drop k) := fun z hz => h z (List.mem_of_mem_drop hz)
theorem two63 {j : Nat} (h : j ≤ 63) : ((2 ^ j : Nat) : Int) ≤ 9223372036854775808 := by
 have : (2 : Nat) ^ j ≤ 2 ^ 63 := Nat.pow_le_pow_right (by decide) h
 omega

theorem rof_four (w : World) (B c : Nat) (A : Option Addr) (zs : List Int) (hz : RI .i64 w B A 32 zs) (hB : B ≤ w.heap.size) (hb : Bin zs) :
  Calls Tryz.prog 142 #[.bool false, .slice A 32 c] w fun e w' => e = .returned (adr false 0 (f2 zs)) ∧ Below w.heap.size w w' := by
 obtain ⟨b, o, rfl, hbk, hcell⟩ := hz.2.1 (by decide)
 have hlen := hz.1
 have HC := lH hcell
 have HL := lH hlen
 have HBn := lH hb
 have hbw : b < w.heap.size := by omega
 clear hz hcell hlen hb
 go_enter Tryz.func142, Tryz.ntmps142
 go_wp2
 go_loopw [6] (fun i wr => ∃ (k : Nat) (X Y : Int), k ≤ 32 ∧ i = .int .i64 (k : Int) ∧ Blk wr (w.heap.size + 1) 28 #[.bool false, .int .u64 X, .int .u64 Y] ∧ Blk wr w.heap.size 28 #[.bool false, .int .u64 0, .int .u64 0] ∧ Below w.heap.size w wr ∧ Hid (X = 0 ∧ Y = f2 (zs.take k))) (fun i wr => (32 - intOf i).toNat)
 case atStart =>
  have h1 := Blk.new (w.alloc (.cells #[.bool false, .int .u64 0, .int .u64 0] 28)) 28 #[.bool false, .int .u64 0, .int .u64 0]
  rw [zA] at h1
  exact ⟨0, 0, 0, by decide, rfl, h1, (Blk.new w _ _).alloc _, ((Below.refl _ w).alloc (Nat.le_refl _) _).alloc (by simp) _, lH (by simp [f2])⟩
 case round =>
  obtain ⟨k, X, Y, hk, rfl, hg, hr, hbel, hxy⟩ := hrel
  have HG := lH hg
  have HR := lH hr
  have HBl := lH hbel
  have sw := hbel.size
  by_cases hlt : k < 32
  ·obtain ⟨z, hzk⟩ : ∃ z, zs[k]? = some z := ⟨_, List.getElem?_eq_getElem (by rw [HL.out]; exact hlt)⟩
   have hzb := HBn.out z (List.mem_of_getElem? hzk)
   have d0 := HC.out _ _ hzk
   have d1 := (hbel.cell (p := ⟨b, o + k, none⟩) hbw).trans d0
   have HZ := lH hzk
   clear d0 hzk hg hr hbel
   have hklt : (k : Int) < 32 := by omega
   have hk0 : (0 : Int) ≤ k := by omega
   have hwz : IntKind.u64.wrap z = z := by rw [IntKind.wrap_u64]; omega
   obtain ⟨c0, c1, c2⟩ := HG.out.c3
   have hb2 : 0 ≤ Y ∧ Y < 9223372036854775808 := by
    obtain ⟨e1, e2⟩ := hxy.out
    rw [e2]
    have h1 := f2_bd k zs HBn.out
    have h2 := two63 (j := k) (by omega)
    exact ⟨h1.1, Int.lt_of_lt_of_le h1.2 h2⟩
   have hw2 : IntKind.u64.wrap (Y * 2) = Y * 2 := by rw [IntKind.wrap_u64]; omega
   have hw3 : IntKind.u64.wrap (Y * 2 + z) = Y * 2 + z := by rw [IntKind.wrap_u64]; omega
   have y1 := HG.out.frozen 2
   go_wp2
   go_still_tail 10, (by kernel_rfl)
   go_wp2
   have HG2 := lH (HG.out.set_ 2 (.int .u64 (Y * 2 + z)))
   have HR2 := lH (HR.out.far (p := ⟨w.heap.size + 1, 2, none⟩) (by simp) (.int .u64 (Y * 2 + z)))
   have HL2 := lH (HBl.out.setCell (p := ⟨w.heap.size + 1, 2, none⟩) (by simp) (.int .u64 (Y * 2 + z)))
   go_roundw
   case rel => exact ⟨k + 1, X, (Y * 2 + z), by omega, by go_num, HG2.out, HR2.out, HL2.out.drew, lH (by
    obtain ⟨e1, e2⟩ := hxy.out
    exact ⟨e1, by rw [f2_next HZ.out, ← e2]⟩)⟩
   case measure => simp [intOf]; omega
  ·obtain rfl : k = 32 := by omega
   obtain ⟨c0, c1, c2⟩ := HG.out.c3
   obtain ⟨r0, r1, r2⟩ := HR.out.c3
   have z0 := HR.out.frozen 0
   have z1 := HR.out.frozen 1
   have z2 := HR.out.frozen 2
   clear hg hr hbel
   go_wp2
   refine bodyPost_ret (v := adr false X Y) (by simp [results, Tryz.results142, go_sem, r0, r1, r2]) rfl ⟨?_, ?_⟩
   ·obtain ⟨e1, e2⟩ := hxy.out
    rw [List.take_of_length_le (by rw [HL.out]; exact Nat.le_refl _)] at e2
    rw [e1, e2]
   ·iterate 3 refine Below.setCell ?_ (by simp) _
    exact HBl.out

theorem rof_six (w : World) (B c : Nat) (A : Option Addr) (zs : List Int) (hz : RI .i64 w B A 128 zs) (hB : B ≤ w.heap.size) (hb : Bin zs) :
  Calls Tryz.prog 142 #[.bool true, .slice A 128 c] w fun e w' => e = .returned (adr true (f2 (zs.take 64)) (f2 (zs.drop 64))) ∧ Below w.heap.size w w' := by
 obtain ⟨b, o, rfl, hbk, hcell⟩ := hz.2.1 (by decide)
 have hlen := hz.1
 have HC := lH hcell
 have HL := lH hlen
 have HBn := lH hb
 have hbw : b < w.heap.size := by omega
 clear hz hcell hlen hb
 go_enter Tryz.func142, Tryz.ntmps142
 go_wp2
 go_loopw [6] (fun i wr => ∃ (k : Nat) (X Y : Int), k ≤ 128 ∧ i = .int .i64 (k : Int) ∧ Blk wr (w.heap.size + 1) 28 #[.bool true, .int .u64 X, .int .u64 Y] ∧ Blk wr w.heap.size 28 #[.bool false, .int .u64 0, .int .u64 0] ∧ Below w.heap.size w wr ∧ Hid (X = f2 (zs.take (min k 64)) ∧ Y = f2 ((zs.take k).drop 64))) (fun i wr => (128 - intOf i).toNat)
 case atStart =>
  have h1 := Blk.new (w.alloc (.cells #[.bool false, .int .u64 0, .int .u64 0] 28)) 28 #[.bool true, .int .u64 0, .int .u64 0]
  rw [zA] at h1
  exact ⟨0, 0, 0, by decide, rfl, h1, (Blk.new w _ _).alloc _, ((Below.refl _ w).alloc (Nat.le_refl _) _).alloc (by simp) _, lH (by simp [f2])⟩
 case round =>
  obtain ⟨k, X, Y, hk, rfl, hg, hr, hbel, hxy⟩ := hrel
  have HG := lH hg
  have HR := lH hr
  have HBl := lH hbel
  have sw := hbel.size
  by_cases hlt : k < 128
  ·obtain ⟨z, hzk⟩ : ∃ z, zs[k]? = some z := ⟨_, List.getElem?_eq_getElem (by rw [HL.out]; exact hlt)⟩
   have hzb := HBn.out z (List.mem_of_getElem? hzk)
   have d0 := HC.out _ _ hzk
   have d1 := (hbel.cell (p := ⟨b, o + k, none⟩) hbw).trans d0
   have HZ := lH hzk
   clear d0 hzk hg hr hbel
   have hklt : (k : Int) < 128 := by omega
   have hk0 : (0 : Int) ≤ k := by omega
   have hwz : IntKind.u64.wrap z = z := by rw [IntKind.wrap_u64]; omega
   obtain ⟨c0, c1, c2⟩ := HG.out.c3
   by_cases hk64 : k < 64
   ·skip
    have hb2 : 0 ≤ X ∧ X < 9223372036854775808 := by
     obtain ⟨e1, e2⟩ := hxy.out
     rw [show min k 64 = k by omega] at e1
     rw [e1]
     have h1 := f2_bd k zs HBn.out
     have h2 := two63 (j := k) (by omega)
     exact ⟨h1.1, Int.lt_of_lt_of_le h1.2 h2⟩
    have hw2 : IntKind.u64.wrap (X * 2) = X * 2 := by rw [IntKind.wrap_u64]; omega
    have hw3 : IntKind.u64.wrap (X * 2 + z) = X * 2 + z := by rw [IntKind.wrap_u64]; omega
    have h64 : (k : Int) < 64 := by omega
    have y1 := HG.out.frozen 1
    go_wp2
    go_still_tail 10, (by kernel_rfl)
    go_wp2
    have HG2 := lH (HG.out.set_ 1 (.int .u64 (X * 2 + z)))
    have HR2 := lH (HR.out.far (p := ⟨w.heap.size + 1, 1, none⟩) (by simp) (.int .u64 (X * 2 + z)))
    have HL2 := lH (HBl.out.setCell (p := ⟨w.heap.size + 1, 1, none⟩) (by simp) (.int .u64 (X * 2 + z)))
    go_roundw
    case rel => exact ⟨k + 1, (X * 2 + z), Y, by omega, by go_num, HG2.out, HR2.out, HL2.out.drew, lH (by
     obtain ⟨e1, e2⟩ := hxy.out
     refine ⟨?_, ?_⟩
     ·rw [show min (k + 1) 64 = k + 1 by omega, f2_next HZ.out]
      rw [show min k 64 = k by omega] at e1
      rw [← e1]
     ·rw [e2, List.drop_eq_nil_of_le (by rw [List.length_take]; omega), List.drop_eq_nil_of_le (by rw [List.length_take]; omega)])⟩
    case measure => simp [intOf]; omega
   ·skip
    have hb2 : 0 ≤ Y ∧ Y < 9223372036854775808 := by
     obtain ⟨e1, e2⟩ := hxy.out
     rw [List.drop_take] at e2
     rw [e2]
     have h1 := f2_bd (k - 64) (zs.drop 64) (HBn.out.drop 64)
     have h2 := two63 (j := k - 64) (by omega)
     exact ⟨h1.1, Int.lt_of_lt_of_le h1.2 h2⟩
    have hw2 : IntKind.u64.wrap (Y * 2) = Y * 2 := by rw [IntKind.wrap_u64]; omega
    have hw3 : IntKind.u64.wrap (Y * 2 + z) = Y * 2 + z := by rw [IntKind.wrap_u64]; omega
    have h64 : ¬ (k : Int) < 64 := by omega
    have y1 := HG.out.frozen 2
    go_wp2
    go_still_tail 10, (by kernel_rfl)
    go_wp2
    have HG2 := lH (HG.out.set_ 2 (.int .u64 (Y * 2 + z)))
    have HR2 := lH (HR.out.far (p := ⟨w.heap.size + 1, 2, none⟩) (by simp) (.int .u64 (Y * 2 + z)))
    have HL2 := lH (HBl.out.setCell (p := ⟨w.heap.size + 1, 2, none⟩) (by simp) (.int .u64 (Y * 2 + z)))
    go_roundw
    case rel => exact ⟨k + 1, X, (Y * 2 + z), by omega, by go_num, HG2.out, HR2.out, HL2.out.drew, lH (by
     obtain ⟨e1, e2⟩ := hxy.out
     refine ⟨?_, ?_⟩
     ·rw [show min (k + 1) 64 = 64 by omega]
      rw [show min k 64 = 64 by omega] at e1
      exact e1
     ·rw [List.drop_take] at e2 ⊢
      rw [show k + 1 - 64 = (k - 64) + 1 by omega, f2_next (z := z) (by rw [List.getElem?_drop, show 64 + (k - 64) = k by omega]; exact HZ.out), ← e2])⟩
    case measure => simp [intOf]; omega
  ·obtain rfl : k = 128 := by omega
   obtain ⟨c0, c1, c2⟩ := HG.out.c3
   obtain ⟨r0, r1, r2⟩ := HR.out.c3
   have z0 := HR.out.frozen 0
   have z1 := HR.out.frozen 1
   have z2 := HR.out.frozen 2
   clear hg hr hbel
   go_wp2
   refine bodyPost_ret (v := adr true X Y) (by simp [results, Tryz.results142, go_sem, r0, r1, r2]) rfl ⟨?_, ?_⟩
   ·obtain ⟨e1, e2⟩ := hxy.out
    rw [List.take_of_length_le (by rw [HL.out]; exact Nat.le_refl _)] at e2
    rw [e1, e2, show min 128 64 = 64 from rfl]
   ·iterate 3 refine Below.setCell ?_ (by simp) _
    exact HBl.out

theorem rof_any (s : Bool) (h l : Nat) (hh : N64 h) (hl : N64 l) (hv : nm h l < 2 ^ wd s) (w : World) (B c : Nat) (A : Option Addr) (zs : List Int) (hz : RI .i64 w B A (wd s) zs) (hB : B ≤ w.heap.size) (hb : IsBits (nm h l) (wd s) zs) :
  Calls Tryz.prog 142 #[.bool s, .slice A (wd s) c] w fun e w' => e = .returned (adr s h l) ∧ Below w.heap.size w w' := by
 have hbin : Bin zs := by
  intro z hz
  obtain ⟨i, hi, e⟩ := List.getElem_of_mem hz
  have h1 := hb.2 i (by rw [← hb.1]; exact hi)
  rw [List.getElem?_eq_getElem hi, e] at h1
  injection h1 with h1
  have := bt_le (nm h l) (wd s) i
  omega
 cases s
 ·have H := rof_four w B c A zs hz hB hbin
  have e0 : h = 0 := by
   have : wd false = 32 := rfl
   rw [this] at hv
   unfold nm at hv
   omega
  rw [f2_all hb hv] at H
  subst e0
  have e1 : nm 0 l = l := by unfold nm; omega
  rw [e1] at H
  exact H
 ·have H := rof_six w B c A zs hz hB hbin
  rw [f2_hi hb hh.lt hl.lt, f2_lo hb hl.lt] at H
  exact H
end Go.Proofs.YtgfkmgbcajdcdaaGreatDoor

namespace Go.Proofs.YtgfkmgbcajdcdaaGreatDoor
open Go.RowKit

end Go.Proofs.YtgfkmgbcajdcdaaGreatDoor
