/-
  The document's own Class of any address.
-/
import Derived.Test.YtlbkphnbpenbcaaECls
import Derived.Test.YtlbkphnbpenbcaaRBytes
namespace Go.Proofs.Ytlbkphnbpenbcaa
open Go.RowKit
set_option linter.unusedVariables false

set_option maxRecDepth 100000 in
set_option maxHeartbeats 4000000 in
theorem rclassSix (h l : Int) (hh : U6 h) (hl : U6 l) (w : World) :
    Calls Try.prog 36 #[adr true h l] w fun e w' => e = .returned (.int .i64 (clsV true h l)) ∧ Below w.heap.size w w' := by
  obtain ⟨V, hV⟩ : ∃ V, clsV true h l = V := ⟨_, rfl⟩
  have hV2 : V = (if h = 0 ∧ l = 0 then 0 else if h = 0 ∧ l = 1 then 1 else if h / 18014398509481984 = 1018 then 2 else if h / 72057594037927936 = 255 then 3 else 5) := by rw [← hV]; simp [clsV]
  rw [hV]
  have HV := Lib.hid hV2
  have H1 := Lib.hid (fun W => rvalid_at true h l W (vld_six h l))
  have HB := Lib.hid (fun W => rbytes_any true h l hh hl W)
  have eb : byts true h l = putOf 8 h ++ putOf 8 l := by unfold byts; rw [vld_six]; rfl
  rw [eb] at HB
  have e1 : putOf 8 h ++ putOf 8 l = (h / 72057594037927936 % 256) :: (h / 281474976710656 % 256) :: (putOf 6 h ++ putOf 8 l) := by rw [putOf_cons, putOf_cons]; rfl
  obtain ⟨zs, hzs⟩ : ∃ zs, putOf 8 h ++ putOf 8 l = zs := ⟨_, rfl⟩
  have hln : zs.length = 16 := by rw [← hzs]; simp [putOf_len]
  rw [hzs] at e1 HB
  obtain ⟨B0, hB0⟩ : ∃ B0, h / 72057594037927936 % 256 = B0 := ⟨_, rfl⟩
  obtain ⟨B1, hB1⟩ : ∃ B1, h / 281474976710656 % 256 = B1 := ⟨_, rfl⟩
  rw [hB0, hB1] at e1
  have HLn := Lib.hid hln
  have HZ0 := Lib.hid (show zs[0]? = some B0 by rw [e1]; rfl)
  have HZ1 := Lib.hid (show zs[1]? = some B1 by rw [e1]; rfl)
  have b0 : 0 ≤ B0 ∧ B0 ≤ 255 := by omega
  have b1 : 0 ≤ B1 ∧ B1 ≤ 255 := by omega
  have d54 : h / 18014398509481984 = B0 * 4 + B1 / 64 := by have := hh.1; have := hh.2; omega
  have d56 : h / 72057594037927936 = B0 := by have := hh.1; have := hh.2; omega
  have h00 : h = 0 → B0 = 0 := by omega
  rw [d54, d56] at HV
  have HD := Lib.hid h00
  obtain ⟨b00, b01⟩ := b0
  obtain ⟨b10, b11⟩ := b1
  clear hV hV2 hh hl eb e1 hzs hln hB0 hB1 d54 d56 h00
  by_cases c0 : h = 0
  · subst c0
    have e0 := HD.out rfl
    subst e0
    by_cases c1 : l = 0
    · subst c1
      have HX : Hid (V = 0) := Lib.hid (by rw [HV.out]; simp)
      clear HV HD
      go_enter Try.func36, Try.ntmps36
      go_wp2_with fail
      refine Calls.mono (H1.out _) ?_
      rintro e w1 ⟨rfl, hb⟩
      have R1 := Lib.hid ((Blk.new w 30 #[.bool true, .int .u64 0, .int .u64 0]).below hb (by simp only [World.size_alloc]; omega))
      have L1 := Lib.hid (((Below.refl _ w).alloc (Nat.le_refl _) _).trans (hb.mono (by simp only [World.size_alloc]; omega)))
      obtain ⟨g1, g2, g3⟩ := R1.out.c3
      clear hb
      go_wp2_with fail
      refine Calls.mono (HB.out _) ?_
      rintro e w2 ⟨A, c, rfl, hri, -, -, hb⟩
      have R2 := Lib.hid (R1.out.below hb R1.out.lt)
      have L2 := Lib.hid (L1.out.trans (hb.mono L1.out.size))
      have HRI := Lib.hid hri
      clear hb g1 g2 g3 hri
      obtain ⟨g1, g2, g3⟩ := R2.out.c3
      obtain ⟨b, o, rfl, -, hc⟩ := HRI.out.2.1 (by rw [HLn.out]; decide)
      have d0 := hc 0 _ HZ0.out
      rw [Nat.add_zero] at d0
      have d1 := hc 1 _ HZ1.out
      rw [HLn.out]
      clear hc
      go_wp2
      go_ret
      exact ⟨ret_k HX.out.symm, L2.out⟩
    · by_cases c2 : l = 1
      · subst c2
        have HX : Hid (V = 1) := Lib.hid (by rw [HV.out]; simp)
        clear HV HD
        go_enter Try.func36, Try.ntmps36
        go_wp2_with fail
        refine Calls.mono (H1.out _) ?_
        rintro e w1 ⟨rfl, hb⟩
        have R1 := Lib.hid ((Blk.new w 30 #[.bool true, .int .u64 0, .int .u64 1]).below hb (by simp only [World.size_alloc]; omega))
        have L1 := Lib.hid (((Below.refl _ w).alloc (Nat.le_refl _) _).trans (hb.mono (by simp only [World.size_alloc]; omega)))
        obtain ⟨g1, g2, g3⟩ := R1.out.c3
        clear hb
        go_wp2_with fail
        refine Calls.mono (HB.out _) ?_
        rintro e w2 ⟨A, c, rfl, hri, -, -, hb⟩
        have R2 := Lib.hid (R1.out.below hb R1.out.lt)
        have L2 := Lib.hid (L1.out.trans (hb.mono L1.out.size))
        have HRI := Lib.hid hri
        clear hb g1 g2 g3 hri
        obtain ⟨g1, g2, g3⟩ := R2.out.c3
        obtain ⟨b, o, rfl, -, hc⟩ := HRI.out.2.1 (by rw [HLn.out]; decide)
        have d0 := hc 0 _ HZ0.out
        rw [Nat.add_zero] at d0
        have d1 := hc 1 _ HZ1.out
        rw [HLn.out]
        clear hc
        go_wp2
        go_ret
        exact ⟨ret_k HX.out.symm, L2.out⟩
      · have HX : Hid (V = 5) := Lib.hid (by rw [HV.out, if_neg (by omega), if_neg (by omega), if_neg (by omega), if_neg (by omega)])
        clear HV HD
        go_enter Try.func36, Try.ntmps36
        go_wp2_with fail
        refine Calls.mono (H1.out _) ?_
        rintro e w1 ⟨rfl, hb⟩
        have R1 := Lib.hid ((Blk.new w 30 #[.bool true, .int .u64 0, .int .u64 l]).below hb (by simp only [World.size_alloc]; omega))
        have L1 := Lib.hid (((Below.refl _ w).alloc (Nat.le_refl _) _).trans (hb.mono (by simp only [World.size_alloc]; omega)))
        obtain ⟨g1, g2, g3⟩ := R1.out.c3
        clear hb
        go_wp2_with fail
        refine Calls.mono (HB.out _) ?_
        rintro e w2 ⟨A, c, rfl, hri, -, -, hb⟩
        have R2 := Lib.hid (R1.out.below hb R1.out.lt)
        have L2 := Lib.hid (L1.out.trans (hb.mono L1.out.size))
        have HRI := Lib.hid hri
        clear hb g1 g2 g3 hri
        obtain ⟨g1, g2, g3⟩ := R2.out.c3
        obtain ⟨b, o, rfl, -, hc⟩ := HRI.out.2.1 (by rw [HLn.out]; decide)
        have d0 := hc 0 _ HZ0.out
        rw [Nat.add_zero] at d0
        have d1 := hc 1 _ HZ1.out
        rw [HLn.out]
        clear hc
        go_wp2
        go_ret
        exact ⟨ret_k HX.out.symm, L2.out⟩
  · by_cases c1 : B0 = 254
    · by_cases c2 : B1 / 64 = 2
      · have HX : Hid (V = 2) := Lib.hid (by rw [HV.out, if_neg (by omega), if_neg (by omega), if_pos (by omega)])
        clear HV HD
        go_enter Try.func36, Try.ntmps36
        go_wp2_with fail
        refine Calls.mono (H1.out _) ?_
        rintro e w1 ⟨rfl, hb⟩
        have R1 := Lib.hid ((Blk.new w 30 #[.bool true, .int .u64 h, .int .u64 l]).below hb (by simp only [World.size_alloc]; omega))
        have L1 := Lib.hid (((Below.refl _ w).alloc (Nat.le_refl _) _).trans (hb.mono (by simp only [World.size_alloc]; omega)))
        obtain ⟨g1, g2, g3⟩ := R1.out.c3
        clear hb
        go_wp2_with fail
        refine Calls.mono (HB.out _) ?_
        rintro e w2 ⟨A, c, rfl, hri, -, -, hb⟩
        have R2 := Lib.hid (R1.out.below hb R1.out.lt)
        have L2 := Lib.hid (L1.out.trans (hb.mono L1.out.size))
        have HRI := Lib.hid hri
        clear hb g1 g2 g3 hri
        obtain ⟨g1, g2, g3⟩ := R2.out.c3
        obtain ⟨b, o, rfl, -, hc⟩ := HRI.out.2.1 (by rw [HLn.out]; decide)
        have d0 := hc 0 _ HZ0.out
        rw [Nat.add_zero] at d0
        have d1 := hc 1 _ HZ1.out
        rw [HLn.out]
        clear hc
        go_wp2
        go_ret
        exact ⟨ret_k HX.out.symm, L2.out⟩
      · have HX : Hid (V = 5) := Lib.hid (by rw [HV.out, if_neg (by omega), if_neg (by omega), if_neg (by omega), if_neg (by omega)])
        clear HV HD
        go_enter Try.func36, Try.ntmps36
        go_wp2_with fail
        refine Calls.mono (H1.out _) ?_
        rintro e w1 ⟨rfl, hb⟩
        have R1 := Lib.hid ((Blk.new w 30 #[.bool true, .int .u64 h, .int .u64 l]).below hb (by simp only [World.size_alloc]; omega))
        have L1 := Lib.hid (((Below.refl _ w).alloc (Nat.le_refl _) _).trans (hb.mono (by simp only [World.size_alloc]; omega)))
        obtain ⟨g1, g2, g3⟩ := R1.out.c3
        clear hb
        go_wp2_with fail
        refine Calls.mono (HB.out _) ?_
        rintro e w2 ⟨A, c, rfl, hri, -, -, hb⟩
        have R2 := Lib.hid (R1.out.below hb R1.out.lt)
        have L2 := Lib.hid (L1.out.trans (hb.mono L1.out.size))
        have HRI := Lib.hid hri
        clear hb g1 g2 g3 hri
        obtain ⟨g1, g2, g3⟩ := R2.out.c3
        obtain ⟨b, o, rfl, -, hc⟩ := HRI.out.2.1 (by rw [HLn.out]; decide)
        have d0 := hc 0 _ HZ0.out
        rw [Nat.add_zero] at d0
        have d1 := hc 1 _ HZ1.out
        rw [HLn.out]
        clear hc
        go_wp2
        go_ret
        exact ⟨ret_k HX.out.symm, L2.out⟩
    · by_cases c2 : B0 = 255
      · have HX : Hid (V = 3) := Lib.hid (by rw [HV.out, if_neg (by omega), if_neg (by omega), if_neg (by omega), if_pos c2])
        clear HV HD
        go_enter Try.func36, Try.ntmps36
        go_wp2_with fail
        refine Calls.mono (H1.out _) ?_
        rintro e w1 ⟨rfl, hb⟩
        have R1 := Lib.hid ((Blk.new w 30 #[.bool true, .int .u64 h, .int .u64 l]).below hb (by simp only [World.size_alloc]; omega))
        have L1 := Lib.hid (((Below.refl _ w).alloc (Nat.le_refl _) _).trans (hb.mono (by simp only [World.size_alloc]; omega)))
        obtain ⟨g1, g2, g3⟩ := R1.out.c3
        clear hb
        go_wp2_with fail
        refine Calls.mono (HB.out _) ?_
        rintro e w2 ⟨A, c, rfl, hri, -, -, hb⟩
        have R2 := Lib.hid (R1.out.below hb R1.out.lt)
        have L2 := Lib.hid (L1.out.trans (hb.mono L1.out.size))
        have HRI := Lib.hid hri
        clear hb g1 g2 g3 hri
        obtain ⟨g1, g2, g3⟩ := R2.out.c3
        obtain ⟨b, o, rfl, -, hc⟩ := HRI.out.2.1 (by rw [HLn.out]; decide)
        have d0 := hc 0 _ HZ0.out
        rw [Nat.add_zero] at d0
        have d1 := hc 1 _ HZ1.out
        rw [HLn.out]
        clear hc
        go_wp2
        go_ret
        exact ⟨ret_k HX.out.symm, L2.out⟩
      · have HX : Hid (V = 5) := Lib.hid (by rw [HV.out, if_neg (by omega), if_neg (by omega), if_neg (by omega), if_neg c2])
        clear HV HD
        go_enter Try.func36, Try.ntmps36
        go_wp2_with fail
        refine Calls.mono (H1.out _) ?_
        rintro e w1 ⟨rfl, hb⟩
        have R1 := Lib.hid ((Blk.new w 30 #[.bool true, .int .u64 h, .int .u64 l]).below hb (by simp only [World.size_alloc]; omega))
        have L1 := Lib.hid (((Below.refl _ w).alloc (Nat.le_refl _) _).trans (hb.mono (by simp only [World.size_alloc]; omega)))
        obtain ⟨g1, g2, g3⟩ := R1.out.c3
        clear hb
        go_wp2_with fail
        refine Calls.mono (HB.out _) ?_
        rintro e w2 ⟨A, c, rfl, hri, -, -, hb⟩
        have R2 := Lib.hid (R1.out.below hb R1.out.lt)
        have L2 := Lib.hid (L1.out.trans (hb.mono L1.out.size))
        have HRI := Lib.hid hri
        clear hb g1 g2 g3 hri
        obtain ⟨g1, g2, g3⟩ := R2.out.c3
        obtain ⟨b, o, rfl, -, hc⟩ := HRI.out.2.1 (by rw [HLn.out]; decide)
        have d0 := hc 0 _ HZ0.out
        rw [Nat.add_zero] at d0
        have d1 := hc 1 _ HZ1.out
        rw [HLn.out]
        clear hc
        go_wp2
        go_ret
        exact ⟨ret_k HX.out.symm, L2.out⟩

set_option maxRecDepth 100000 in
set_option maxHeartbeats 4000000 in
theorem rclassFour (l : Int) (h0 : 0 ≤ l) (h1 : l ≤ 4294967295) (w : World) :
    Calls Try.prog 36 #[adr false 0 l] w fun e w' => e = .returned (.int .i64 (clsV false 0 l)) ∧ Below w.heap.size w w' := by
  obtain ⟨V, hV⟩ : ∃ V, clsV false 0 l = V := ⟨_, rfl⟩
  have hV2 : V = (if l = 0 then 0 else if l / 16777216 = 127 then 1 else if l / 65536 = 43518 then 2 else if l = 4294967295 then 4 else if l / 268435456 = 14 then 3 else 5) := by rw [← hV]; simp [clsV, h1]
  rw [hV]
  have HV := Lib.hid hV2
  have hvl : vld false 0 l = true := by simp [vld, h1]
  have H1 := Lib.hid (fun W => rvalid_at false 0 l W hvl)
  have HB := Lib.hid (fun W => rbytes_any false 0 l ⟨by omega, by omega⟩ ⟨by omega, by omega⟩ W)
  have eb : byts false 0 l = putOf 4 l := by unfold byts; rw [hvl]; rfl
  rw [eb] at HB
  have e1 : putOf 4 l = (l / 16777216 % 256) :: (l / 65536 % 256) :: putOf 2 l := by rw [putOf_cons, putOf_cons]; rfl
  obtain ⟨zs, hzs⟩ : ∃ zs, putOf 4 l = zs := ⟨_, rfl⟩
  have hln : zs.length = 4 := by rw [← hzs]; simp [putOf_len]
  rw [hzs] at e1 HB
  obtain ⟨B0, hB0⟩ : ∃ B0, l / 16777216 % 256 = B0 := ⟨_, rfl⟩
  obtain ⟨B1, hB1⟩ : ∃ B1, l / 65536 % 256 = B1 := ⟨_, rfl⟩
  rw [hB0, hB1] at e1
  have HLn := Lib.hid hln
  have HZ0 := Lib.hid (show zs[0]? = some B0 by rw [e1]; rfl)
  have HZ1 := Lib.hid (show zs[1]? = some B1 by rw [e1]; rfl)
  have d24 : l / 16777216 = B0 := by omega
  have d16 : l / 65536 = B0 * 256 + B1 := by omega
  have d28 : l / 268435456 = B0 / 16 := by omega
  have hff : l = 4294967295 → B0 = 255 := by omega
  have b0 : 0 ≤ B0 ∧ B0 ≤ 255 := by omega
  have b1 : 0 ≤ B1 ∧ B1 ≤ 255 := by omega
  rw [d24, d16, d28] at HV
  have HD := Lib.hid hff
  obtain ⟨b00, b01⟩ := b0
  obtain ⟨b10, b11⟩ := b1
  clear hV hV2 hvl eb e1 hzs hln hB0 hB1 d24 d16 d28 hff
  by_cases c0 : l = 0
  · subst c0
    have HX : Hid (V = 0) := Lib.hid (by rw [HV.out, if_pos rfl])
    clear HV HD
    go_enter Try.func36, Try.ntmps36
    go_wp2_with fail
    refine Calls.mono (H1.out _) ?_
    rintro e w1 ⟨rfl, hb⟩
    have R1 := Lib.hid ((Blk.new w 30 #[.bool false, .int .u64 0, .int .u64 0]).below hb (by simp only [World.size_alloc]; omega))
    have L1 := Lib.hid (((Below.refl _ w).alloc (Nat.le_refl _) _).trans (hb.mono (by simp only [World.size_alloc]; omega)))
    obtain ⟨g1, g2, g3⟩ := R1.out.c3
    clear hb
    go_wp2_with fail
    refine Calls.mono (HB.out _) ?_
    rintro e w2 ⟨A, c, rfl, hri, -, -, hb⟩
    have R2 := Lib.hid (R1.out.below hb R1.out.lt)
    have L2 := Lib.hid (L1.out.trans (hb.mono L1.out.size))
    have HRI := Lib.hid hri
    clear hb g1 g2 g3 hri
    obtain ⟨g1, g2, g3⟩ := R2.out.c3
    obtain ⟨b, o, rfl, -, hc⟩ := HRI.out.2.1 (by rw [HLn.out]; decide)
    have d0 := hc 0 _ HZ0.out
    rw [Nat.add_zero] at d0
    have d1 := hc 1 _ HZ1.out
    rw [HLn.out]
    clear hc
    go_wp2
    go_ret
    exact ⟨ret_k HX.out.symm, L2.out⟩
  · by_cases c1 : B0 = 127
    · have HX : Hid (V = 1) := Lib.hid (by rw [HV.out, if_neg c0, if_pos c1])
      clear HV HD
      go_enter Try.func36, Try.ntmps36
      go_wp2_with fail
      refine Calls.mono (H1.out _) ?_
      rintro e w1 ⟨rfl, hb⟩
      have R1 := Lib.hid ((Blk.new w 30 #[.bool false, .int .u64 0, .int .u64 l]).below hb (by simp only [World.size_alloc]; omega))
      have L1 := Lib.hid (((Below.refl _ w).alloc (Nat.le_refl _) _).trans (hb.mono (by simp only [World.size_alloc]; omega)))
      obtain ⟨g1, g2, g3⟩ := R1.out.c3
      clear hb
      go_wp2_with fail
      refine Calls.mono (HB.out _) ?_
      rintro e w2 ⟨A, c, rfl, hri, -, -, hb⟩
      have R2 := Lib.hid (R1.out.below hb R1.out.lt)
      have L2 := Lib.hid (L1.out.trans (hb.mono L1.out.size))
      have HRI := Lib.hid hri
      clear hb g1 g2 g3 hri
      obtain ⟨g1, g2, g3⟩ := R2.out.c3
      obtain ⟨b, o, rfl, -, hc⟩ := HRI.out.2.1 (by rw [HLn.out]; decide)
      have d0 := hc 0 _ HZ0.out
      rw [Nat.add_zero] at d0
      have d1 := hc 1 _ HZ1.out
      rw [HLn.out]
      clear hc
      go_wp2
      go_ret
      exact ⟨ret_k HX.out.symm, L2.out⟩
    · by_cases c2 : B0 = 169
      · by_cases c3 : B1 = 254
        · have HX : Hid (V = 2) := Lib.hid (by rw [HV.out, if_neg c0, if_neg c1, if_pos (by omega)])
          clear HV HD
          go_enter Try.func36, Try.ntmps36
          go_wp2_with fail
          refine Calls.mono (H1.out _) ?_
          rintro e w1 ⟨rfl, hb⟩
          have R1 := Lib.hid ((Blk.new w 30 #[.bool false, .int .u64 0, .int .u64 l]).below hb (by simp only [World.size_alloc]; omega))
          have L1 := Lib.hid (((Below.refl _ w).alloc (Nat.le_refl _) _).trans (hb.mono (by simp only [World.size_alloc]; omega)))
          obtain ⟨g1, g2, g3⟩ := R1.out.c3
          clear hb
          go_wp2_with fail
          refine Calls.mono (HB.out _) ?_
          rintro e w2 ⟨A, c, rfl, hri, -, -, hb⟩
          have R2 := Lib.hid (R1.out.below hb R1.out.lt)
          have L2 := Lib.hid (L1.out.trans (hb.mono L1.out.size))
          have HRI := Lib.hid hri
          clear hb g1 g2 g3 hri
          obtain ⟨g1, g2, g3⟩ := R2.out.c3
          obtain ⟨b, o, rfl, -, hc⟩ := HRI.out.2.1 (by rw [HLn.out]; decide)
          have d0 := hc 0 _ HZ0.out
          rw [Nat.add_zero] at d0
          have d1 := hc 1 _ HZ1.out
          rw [HLn.out]
          clear hc
          go_wp2
          go_ret
          exact ⟨ret_k HX.out.symm, L2.out⟩
        · have n1 : ¬ l = 4294967295 := fun e => by have := HD.out e; omega
          have HX : Hid (V = 5) := Lib.hid (by rw [HV.out, if_neg c0, if_neg c1, if_neg (by omega), if_neg n1, if_neg (by omega)])
          clear HV HD
          go_enter Try.func36, Try.ntmps36
          go_wp2_with fail
          refine Calls.mono (H1.out _) ?_
          rintro e w1 ⟨rfl, hb⟩
          have R1 := Lib.hid ((Blk.new w 30 #[.bool false, .int .u64 0, .int .u64 l]).below hb (by simp only [World.size_alloc]; omega))
          have L1 := Lib.hid (((Below.refl _ w).alloc (Nat.le_refl _) _).trans (hb.mono (by simp only [World.size_alloc]; omega)))
          obtain ⟨g1, g2, g3⟩ := R1.out.c3
          clear hb
          go_wp2_with fail
          refine Calls.mono (HB.out _) ?_
          rintro e w2 ⟨A, c, rfl, hri, -, -, hb⟩
          have R2 := Lib.hid (R1.out.below hb R1.out.lt)
          have L2 := Lib.hid (L1.out.trans (hb.mono L1.out.size))
          have HRI := Lib.hid hri
          clear hb g1 g2 g3 hri
          obtain ⟨g1, g2, g3⟩ := R2.out.c3
          obtain ⟨b, o, rfl, -, hc⟩ := HRI.out.2.1 (by rw [HLn.out]; decide)
          have d0 := hc 0 _ HZ0.out
          rw [Nat.add_zero] at d0
          have d1 := hc 1 _ HZ1.out
          rw [HLn.out]
          clear hc
          go_wp2
          go_ret
          exact ⟨ret_k HX.out.symm, L2.out⟩
      · by_cases c3 : l = 4294967295
        · have e255 := HD.out c3
          subst c3
          have HX : Hid (V = 4) := Lib.hid (by rw [HV.out, if_neg c0, if_neg c1, if_neg (by omega), if_pos rfl])
          clear HV HD
          go_enter Try.func36, Try.ntmps36
          go_wp2_with fail
          refine Calls.mono (H1.out _) ?_
          rintro e w1 ⟨rfl, hb⟩
          have R1 := Lib.hid ((Blk.new w 30 #[.bool false, .int .u64 0, .int .u64 4294967295]).below hb (by simp only [World.size_alloc]; omega))
          have L1 := Lib.hid (((Below.refl _ w).alloc (Nat.le_refl _) _).trans (hb.mono (by simp only [World.size_alloc]; omega)))
          obtain ⟨g1, g2, g3⟩ := R1.out.c3
          clear hb
          go_wp2_with fail
          refine Calls.mono (HB.out _) ?_
          rintro e w2 ⟨A, c, rfl, hri, -, -, hb⟩
          have R2 := Lib.hid (R1.out.below hb R1.out.lt)
          have L2 := Lib.hid (L1.out.trans (hb.mono L1.out.size))
          have HRI := Lib.hid hri
          clear hb g1 g2 g3 hri
          obtain ⟨g1, g2, g3⟩ := R2.out.c3
          obtain ⟨b, o, rfl, -, hc⟩ := HRI.out.2.1 (by rw [HLn.out]; decide)
          have d0 := hc 0 _ HZ0.out
          rw [Nat.add_zero] at d0
          have d1 := hc 1 _ HZ1.out
          rw [HLn.out]
          clear hc
          go_wp2
          go_ret
          exact ⟨ret_k HX.out.symm, L2.out⟩
        · by_cases c4 : B0 / 16 = 14
          · have HX : Hid (V = 3) := Lib.hid (by rw [HV.out, if_neg c0, if_neg c1, if_neg (by omega), if_neg c3, if_pos c4])
            clear HV HD
            go_enter Try.func36, Try.ntmps36
            go_wp2_with fail
            refine Calls.mono (H1.out _) ?_
            rintro e w1 ⟨rfl, hb⟩
            have R1 := Lib.hid ((Blk.new w 30 #[.bool false, .int .u64 0, .int .u64 l]).below hb (by simp only [World.size_alloc]; omega))
            have L1 := Lib.hid (((Below.refl _ w).alloc (Nat.le_refl _) _).trans (hb.mono (by simp only [World.size_alloc]; omega)))
            obtain ⟨g1, g2, g3⟩ := R1.out.c3
            clear hb
            go_wp2_with fail
            refine Calls.mono (HB.out _) ?_
            rintro e w2 ⟨A, c, rfl, hri, -, -, hb⟩
            have R2 := Lib.hid (R1.out.below hb R1.out.lt)
            have L2 := Lib.hid (L1.out.trans (hb.mono L1.out.size))
            have HRI := Lib.hid hri
            clear hb g1 g2 g3 hri
            obtain ⟨g1, g2, g3⟩ := R2.out.c3
            obtain ⟨b, o, rfl, -, hc⟩ := HRI.out.2.1 (by rw [HLn.out]; decide)
            have d0 := hc 0 _ HZ0.out
            rw [Nat.add_zero] at d0
            have d1 := hc 1 _ HZ1.out
            rw [HLn.out]
            clear hc
            go_wp2
            go_ret
            exact ⟨ret_k HX.out.symm, L2.out⟩
          · have HX : Hid (V = 5) := Lib.hid (by rw [HV.out, if_neg c0, if_neg c1, if_neg (by omega), if_neg c3, if_neg c4])
            clear HV HD
            go_enter Try.func36, Try.ntmps36
            go_wp2_with fail
            refine Calls.mono (H1.out _) ?_
            rintro e w1 ⟨rfl, hb⟩
            have R1 := Lib.hid ((Blk.new w 30 #[.bool false, .int .u64 0, .int .u64 l]).below hb (by simp only [World.size_alloc]; omega))
            have L1 := Lib.hid (((Below.refl _ w).alloc (Nat.le_refl _) _).trans (hb.mono (by simp only [World.size_alloc]; omega)))
            obtain ⟨g1, g2, g3⟩ := R1.out.c3
            clear hb
            go_wp2_with fail
            refine Calls.mono (HB.out _) ?_
            rintro e w2 ⟨A, c, rfl, hri, -, -, hb⟩
            have R2 := Lib.hid (R1.out.below hb R1.out.lt)
            have L2 := Lib.hid (L1.out.trans (hb.mono L1.out.size))
            have HRI := Lib.hid hri
            clear hb g1 g2 g3 hri
            obtain ⟨g1, g2, g3⟩ := R2.out.c3
            obtain ⟨b, o, rfl, -, hc⟩ := HRI.out.2.1 (by rw [HLn.out]; decide)
            have d0 := hc 0 _ HZ0.out
            rw [Nat.add_zero] at d0
            have d1 := hc 1 _ HZ1.out
            rw [HLn.out]
            clear hc
            go_wp2
            go_ret
            exact ⟨ret_k HX.out.symm, L2.out⟩

set_option maxRecDepth 100000 in
set_option maxHeartbeats 1000000 in
theorem rclass_any (s : Bool) (h l : Int) (hh : U6 h) (hl : U6 l) (w : World) :
    Calls Try.prog 36 #[adr s h l] w fun e w' => e = .returned (.int .i64 (clsV s h l)) ∧ Below w.heap.size w w' := by
  obtain ⟨V, hV⟩ : ∃ V, vld s h l = V := ⟨_, rfl⟩
  cases V
  · have H1 := Lib.hid (fun W => rvalid_at s h l W hV)
    have HX := Lib.hid (cls_no hV)
    clear hV
    go_enter Try.func36, Try.ntmps36
    go_wp2_with fail
    refine Calls.mono (H1.out _) ?_
    rintro e w1 ⟨rfl, hb⟩
    have L1 := ((Below.refl _ w).alloc (Nat.le_refl _) _).trans (hb.mono (by simp only [World.size_alloc]; omega))
    clear hb
    go_wp2
    go_ret
    exact ⟨ret_k (by rw [HX.out]), L1⟩
  · cases s
    · obtain ⟨rfl, h4⟩ := vld_four hV
      exact rclassFour l hl.1 h4 w
    · exact rclassSix h l hh hl w
theorem rclass_at (s : Bool) (h l : Int) (hh : U6 h) (hl : U6 l) {v : Int} (hv : clsV s h l = v) (w : World) :
    Calls Try.prog 36 #[adr s h l] w fun e w' => e = .returned (.int .i64 v) ∧ Below w.heap.size w w' := by
  subst hv; exact rclass_any s h l hh hl w
end Go.Proofs.Ytlbkphnbpenbcaa
