/-
  The program's encoder of layer 9, Ask and Tell.
-/
import Derived.Test.YtnligeelbajnpaaNPa
namespace Go.Proofs.Ytnligeelbajnpaa
open Go.RowKit
set_option linter.unusedVariables false

theorem nbytes16 (h l : Int) (hh : U6 h) (hl : U6 l) (w : World) :
    Calls Try.prog 30 #[adr true h l] w fun e w' => ∃ A c, e = .returned (.slice A 16 c) ∧ RI .u8 w' w'.heap.size A 16 (putOf 8 h ++ putOf 8 l) ∧ Below w.heap.size w w' := by
  refine Calls.mono (bytes_any true h l hh hl w) ?_
  rintro e w' ⟨A, c, rfl, h1, h2, hri, hA, hg, hb, -⟩
  have e2 : byts true h l = putOf 8 h ++ putOf 8 l := by unfold byts; rw [vld_six]; rfl
  rw [e2] at hri ⊢
  have e3 : (putOf 8 h ++ putOf 8 l).length = 16 := by simp [putOf_len]
  rw [e3] at hri ⊢
  exact ⟨A, c, rfl, hri, hb⟩
theorem nput16 (h l kd m : Int) (hk : 0 ≤ kd ∧ kd ≤ 255) (hm : U6 m) (w : World) (A : Option Addr) (c : Nat) (hz : RI .u8 w w.heap.size A 16 (putOf 8 h ++ putOf 8 l)) :
    Calls Try.prog 31 #[.slice A 16 c, .int .i64 kd, .int .u64 m] w fun e w' => ∃ g, e = .returned (.slice (some ⟨g, 0, none⟩) 24 24) ∧ Blk w' g 5 (((datN h l true kd m).map (Value.int .u8)).toArray) ∧ Below w.heap.size w w' := by
  refine Calls.mono (nput_mac kd m hk hm w A 16 c _ (by decide) hz) ?_
  rintro e w' ⟨g, rfl, hb, hl⟩
  exact ⟨g, rfl, by unfold datN; exact hb, hl⟩
set_option maxRecDepth 100000 in
set_option maxHeartbeats 8000000 in
theorem nlay_sol (x : Sol) (hw : U6 x.h ∧ U6 x.l ∧ U6 x.m) (w : World) :
    Calls Try.prog 19 #[.iface 54 x.val] w fun e w' => e = .returned (askV x) ∧ Below w.heap.size w w' := by
  have HS := Lib.hid (fun W => nsubj_sol x W)
  have HN := Lib.hid (fun W => nnum_sol x W)
  have HV : Hid (∀ W, Calls Try.prog 28 #[Sol.val ⟨x.s, x.h, x.l, x.y, x.m⟩] W fun e w' => e = .returned (.bool (rgtB x.s x.h x.l x.y x.m)) ∧ Below W.heap.size W w') := Lib.hid (fun W => nvalid_at x.s x.h x.l hw.1 hw.2.1 x.y x.m W)
  have R0 := Lib.hid (Blk.new w 32 (mcs ⟨false, 0, 0, 0, ⟨#[]⟩⟩))
  have L0 := Lib.hid ((Below.refl _ w).alloc (Nat.le_refl _) (.cells (mcs ⟨false, 0, 0, 0, ⟨#[]⟩⟩) 32))
  rcases Bool.eq_false_or_eq_true (rgtB x.s x.h x.l x.y x.m) with hr | hr
  · obtain ⟨hs, -, -, -⟩ := rgt_parts hr
    have HX : Hid (askR x = (⟨true, 135, 0, 0, strOfNums (datN x.h x.l x.y 1 x.m)⟩, 0)) := Lib.hid (by unfold askR; rw [if_pos hr])
    have HBy := Lib.hid (fun W => nbytes16 x.h x.l hw.1 hw.2.1 W)
    have HP := Lib.hid (fun W A c hz => nput16 x.h x.l 1 x.m (by decide) hw.2.2 W A c hz)
    have HD := Lib.hid (datN_by (h := x.h) (l := x.l) (y := true) (kd := 1) (m := x.m) (by decide))
    have HE : Hid (datN x.h x.l false 1 x.m = putOf 8 x.h ++ putOf 8 x.l) := Lib.hid (by unfold datN; simp)
    rw [hr] at HV
    clear hr hw
    obtain ⟨s, h, l, y, m⟩ := x
    dsimp only at hs
    subst hs
    replace HS : Hid (∀ W, Calls Try.prog 66 #[Sol.val ⟨true, h, l, y, m⟩] W fun e w' => e = .returned (Sol.val ⟨true, h, l, y, m⟩) ∧ Below W.heap.size W w') := HS
    go_enter Try.func19, Try.ntmps19
    go_wp2_with fail
    refine Calls.mono (HS.out _) ?_
    rintro e w1 ⟨rfl, hb⟩
    have R1 := Lib.hid ((R0.out.below hb R0.out.lt).alloc (.cells (solC ⟨true, h, l, y, m⟩) 64))
    have S1 := Lib.hid (Blk.new w1 64 (solC ⟨true, h, l, y, m⟩))
    have L1 := Lib.hid ((L0.out.trans (hb.mono L0.out.size)).alloc (L0.out.trans (hb.mono L0.out.size)).size (.cells (solC ⟨true, h, l, y, m⟩) 64))
    obtain ⟨b, hB⟩ : ∃ b, w1.heap.size = b := ⟨_, rfl⟩
    rw [hB] at S1
    clear hb
    obtain ⟨f0, f1, f2, f3, f4⟩ := S1.out.so3
    go_wp2_with fail
    refine Calls.mono (HV.out _) ?_
    rintro e w2 ⟨rfl, hb⟩
    have R2 := Lib.hid (R1.out.below hb R1.out.lt)
    have S2 := Lib.hid (S1.out.below hb S1.out.lt)
    have L2 := Lib.hid (L1.out.trans (hb.mono L1.out.size))
    clear hb f0 f1 f2 f3 f4
    go_wp2_with fail
    refine Calls.mono (HN.out _) ?_
    rintro e w3 ⟨rfl, hb⟩
    have R3 := Lib.hid (R2.out.below hb R2.out.lt)
    have S3 := Lib.hid (S2.out.below hb S2.out.lt)
    have L3 := Lib.hid (L2.out.trans (hb.mono L2.out.size))
    clear hb
    obtain ⟨f0, f1, f2, f3, f4⟩ := S3.out.so3
    go_wp2_with fail
    refine Calls.mono (HBy.out _) ?_
    rintro e w4 ⟨A, c, rfl, hri, hb⟩
    have R4 := Lib.hid (R3.out.below hb R3.out.lt)
    have S4 := Lib.hid (S3.out.below hb S3.out.lt)
    have L4 := Lib.hid (L3.out.trans (hb.mono L3.out.size))
    have Z4 := Lib.hid hri
    clear hb hri f0 f1 f2 f3 f4
    obtain ⟨f0, f1, f2, f3, f4⟩ := S4.out.so3
    cases y with
    | false =>
      have hcv := conv_str (c := c) Z4.out
      have HX2 := HX
      rw [HE.out] at HX
      obtain ⟨D, hD⟩ : ∃ D, strOfNums (putOf 8 h ++ putOf 8 l) = D := ⟨_, rfl⟩
      rw [hD] at hcv HX
      clear hD HX2
      go_wp2_with (refine wpList_stm rfl (.tmp 2) (.tmp 35) rfl w.heap.size ⟨true, 135, 0, 0, D⟩ ⟨false, 0, 0, 0, ⟨#[]⟩⟩ rfl rfl R4.out ?_; intro w9 hk9 hb9; have K9 := Lib.hid hk9; have L9 := Lib.hid (L4.out.trans hb9); clear hk9 hb9)
      obtain ⟨q0, q1, q2, q3, q4⟩ := K9.out.m5
      exact bodyPost_ret (v := .tuple #[Ms.val ⟨true, 135, 0, 0, D⟩, .int .i64 0]) (by simp [results, Try.results19, go_sem, q0, q1, q2, q3, q4]) rfl ⟨by unfold askV; rw [HX.out], L9.out⟩
    | true =>
      go_wp2_with fail
      refine Calls.mono (HP.out _ _ _ Z4.out) ?_
      rintro e w5 ⟨g, rfl, hk5, hb⟩
      have R5 := Lib.hid (R4.out.below hb R4.out.lt)
      have L5 := Lib.hid (L4.out.trans (hb.mono L4.out.size))
      have hcv : (convert 49 9 (.slice (some ⟨g, 0, none⟩) 24 24)).run Try.prog w5 = .ok (.string (strOfNums (datN h l true 1 m))) w5 := by
        have h1 := hk5.reads (fun z hz => wf_u8 (HD.out z hz)) hk5.lt
        rw [datN_len] at h1
        exact conv_str (c := 24) h1
      obtain ⟨D, hD⟩ : ∃ D, strOfNums (datN h l true 1 m) = D := ⟨_, rfl⟩
      rw [hD] at hcv HX
      clear hD hk5 hb f0 f1 f2 f3 f4
      go_wp2_with (refine wpList_stm rfl (.tmp 2) (.tmp 35) rfl w.heap.size ⟨true, 135, 0, 0, D⟩ ⟨false, 0, 0, 0, ⟨#[]⟩⟩ rfl rfl R5.out ?_; intro w9 hk9 hb9; have K9 := Lib.hid hk9; have L9 := Lib.hid (L5.out.trans hb9); clear hk9 hb9)
      obtain ⟨q0, q1, q2, q3, q4⟩ := K9.out.m5
      exact bodyPost_ret (v := .tuple #[Ms.val ⟨true, 135, 0, 0, D⟩, .int .i64 0]) (by simp [results, Try.results19, go_sem, q0, q1, q2, q3, q4]) rfl ⟨by unfold askV; rw [HX.out], L9.out⟩
  · have HX : Hid (askR x = (⟨false, 0, 0, 0, ⟨#[]⟩⟩, 80)) := Lib.hid (by unfold askR; rw [if_neg (by rw [hr]; decide)]; rfl)
    rw [hr] at HV
    clear hr hw
    obtain ⟨s, h, l, y, m⟩ := x
    replace HS : Hid (∀ W, Calls Try.prog 66 #[Sol.val ⟨s, h, l, y, m⟩] W fun e w' => e = .returned (Sol.val ⟨s, h, l, y, m⟩) ∧ Below W.heap.size W w') := HS
    go_enter Try.func19, Try.ntmps19
    go_wp2_with fail
    refine Calls.mono (HS.out _) ?_
    rintro e w1 ⟨rfl, hb⟩
    have R1 := Lib.hid ((R0.out.below hb R0.out.lt).alloc (.cells (solC ⟨s, h, l, y, m⟩) 64))
    have S1 := Lib.hid (Blk.new w1 64 (solC ⟨s, h, l, y, m⟩))
    have L1 := Lib.hid ((L0.out.trans (hb.mono L0.out.size)).alloc (L0.out.trans (hb.mono L0.out.size)).size (.cells (solC ⟨s, h, l, y, m⟩) 64))
    clear hb
    obtain ⟨f0, f1, f2, f3, f4⟩ := S1.out.so3
    go_wp2_with fail
    refine Calls.mono (HV.out _) ?_
    rintro e w2 ⟨rfl, hb⟩
    have R2 := Lib.hid (R1.out.below hb R1.out.lt)
    have L2 := Lib.hid (L1.out.trans (hb.mono L1.out.size))
    clear hb f0 f1 f2 f3 f4
    go_wp2_with (refine wpList_stm rfl (.tmp 2) (.tmp 14) rfl w.heap.size ⟨false, 0, 0, 0, ⟨#[]⟩⟩ ⟨false, 0, 0, 0, ⟨#[]⟩⟩ rfl rfl R2.out ?_; intro w9 hk9 hb9; have K9 := Lib.hid hk9; have L9 := Lib.hid (L2.out.trans hb9); clear hk9 hb9)
    obtain ⟨q0, q1, q2, q3, q4⟩ := K9.out.m5
    exact bodyPost_ret (v := .tuple #[Ms.val ⟨false, 0, 0, 0, ⟨#[]⟩⟩, .int .i64 80]) (by simp [results, Try.results19, go_sem, q0, q1, q2, q3, q4]) rfl ⟨by unfold askV; rw [HX.out], L9.out⟩
set_option maxRecDepth 100000 in
set_option maxHeartbeats 8000000 in
theorem nlay_adv (x : Adv) (hw : U6 x.h ∧ U6 x.l ∧ U6 x.m) (w : World) :
    Calls Try.prog 19 #[.iface 57 x.val] w fun e w' => e = .returned (telV x) ∧ Below w.heap.size w w' := by
  have HS := Lib.hid (fun W => nsubj_adv x W)
  have HN := Lib.hid (fun W => nnum_adv x W)
  have HV : Hid (∀ W, Calls Try.prog 28 #[Sol.val ⟨x.s, x.h, x.l, x.y, x.m⟩] W fun e w' => e = .returned (.bool (rgtB x.s x.h x.l x.y x.m)) ∧ Below W.heap.size W w') := Lib.hid (fun W => nvalid_at x.s x.h x.l hw.1 hw.2.1 x.y x.m W)
  have R0 := Lib.hid (Blk.new w 32 (mcs ⟨false, 0, 0, 0, ⟨#[]⟩⟩))
  have L0 := Lib.hid ((Below.refl _ w).alloc (Nat.le_refl _) (.cells (mcs ⟨false, 0, 0, 0, ⟨#[]⟩⟩) 32))
  rcases Bool.eq_false_or_eq_true (rgtB x.s x.h x.l x.y x.m) with hr | hr
  · obtain ⟨hs, -, -, -⟩ := rgt_parts hr
    have HX : Hid (telR x = (⟨true, 136, 0, rstA x.r x.a x.o, strOfNums (datN x.h x.l x.y 2 x.m)⟩, 0)) := Lib.hid (by unfold telR; rw [if_pos hr])
    have HBy := Lib.hid (fun W => nbytes16 x.h x.l hw.1 hw.2.1 W)
    have HP := Lib.hid (fun W A c hz => nput16 x.h x.l 2 x.m (by decide) hw.2.2 W A c hz)
    have HD := Lib.hid (datN_by (h := x.h) (l := x.l) (y := true) (kd := 2) (m := x.m) (by decide))
    have HE : Hid (datN x.h x.l false 2 x.m = putOf 8 x.h ++ putOf 8 x.l) := Lib.hid (by unfold datN; simp)
    rw [hr] at HV
    clear hr hw
    obtain ⟨s, h, l, r, a, o, y, m⟩ := x
    dsimp only at hs
    subst hs
    replace HS : Hid (∀ W, Calls Try.prog 67 #[Adv.val ⟨true, h, l, r, a, o, y, m⟩] W fun e w' => e = .returned (Sol.val ⟨true, h, l, y, m⟩) ∧ Below W.heap.size W w') := HS
    go_enter Try.func19, Try.ntmps19
    go_wp2_with fail
    refine Calls.mono (HS.out _) ?_
    rintro e w1 ⟨rfl, hb⟩
    have R1 := Lib.hid ((R0.out.below hb R0.out.lt).alloc (.cells (solC ⟨true, h, l, y, m⟩) 64))
    have S1 := Lib.hid (Blk.new w1 64 (solC ⟨true, h, l, y, m⟩))
    have L1 := Lib.hid ((L0.out.trans (hb.mono L0.out.size)).alloc (L0.out.trans (hb.mono L0.out.size)).size (.cells (solC ⟨true, h, l, y, m⟩) 64))
    obtain ⟨b, hB⟩ : ∃ b, w1.heap.size = b := ⟨_, rfl⟩
    rw [hB] at S1
    clear hb
    obtain ⟨f0, f1, f2, f3, f4⟩ := S1.out.so3
    go_wp2_with fail
    refine Calls.mono (HV.out _) ?_
    rintro e w2 ⟨rfl, hb⟩
    have R2 := Lib.hid (R1.out.below hb R1.out.lt)
    have S2 := Lib.hid (S1.out.below hb S1.out.lt)
    have L2 := Lib.hid (L1.out.trans (hb.mono L1.out.size))
    clear hb f0 f1 f2 f3 f4
    go_wp2_with fail
    refine Calls.mono (HN.out _) ?_
    rintro e w3 ⟨rfl, hb⟩
    have R3 := Lib.hid (R2.out.below hb R2.out.lt)
    have S3 := Lib.hid (S2.out.below hb S2.out.lt)
    have L3 := Lib.hid (L2.out.trans (hb.mono L2.out.size))
    clear hb
    obtain ⟨f0, f1, f2, f3, f4⟩ := S3.out.so3
    go_wp2_with fail
    refine Calls.mono (HBy.out _) ?_
    rintro e w4 ⟨A, c, rfl, hri, hb⟩
    have R4 := Lib.hid (R3.out.below hb R3.out.lt)
    have S4 := Lib.hid (S3.out.below hb S3.out.lt)
    have L4 := Lib.hid (L3.out.trans (hb.mono L3.out.size))
    have Z4 := Lib.hid hri
    clear hb hri f0 f1 f2 f3 f4
    obtain ⟨f0, f1, f2, f3, f4⟩ := S4.out.so3
    cases y with
    | false =>
      have hcv := conv_str (c := c) Z4.out
      have HX2 := HX
      rw [HE.out] at HX
      obtain ⟨D, hD⟩ : ∃ D, strOfNums (putOf 8 h ++ putOf 8 l) = D := ⟨_, rfl⟩
      rw [hD] at hcv HX
      clear hD HX2
      go_wp2_with (refine wpList_stm rfl (.tmp 2) (.tmp 35) rfl w.heap.size ⟨true, 136, 0, rstA r a o, D⟩ ⟨false, 0, 0, 0, ⟨#[]⟩⟩ rfl rfl R4.out ?_; intro w9 hk9 hb9; have K9 := Lib.hid hk9; have L9 := Lib.hid (L4.out.trans hb9); clear hk9 hb9)
      obtain ⟨q0, q1, q2, q3, q4⟩ := K9.out.m5
      exact bodyPost_ret (v := .tuple #[Ms.val ⟨true, 136, 0, rstA r a o, D⟩, .int .i64 0]) (by simp [results, Try.results19, go_sem, q0, q1, q2, q3, q4]) rfl ⟨by unfold telV; rw [HX.out], L9.out⟩
    | true =>
      go_wp2_with fail
      refine Calls.mono (HP.out _ _ _ Z4.out) ?_
      rintro e w5 ⟨g, rfl, hk5, hb⟩
      have R5 := Lib.hid (R4.out.below hb R4.out.lt)
      have L5 := Lib.hid (L4.out.trans (hb.mono L4.out.size))
      have hcv : (convert 49 9 (.slice (some ⟨g, 0, none⟩) 24 24)).run Try.prog w5 = .ok (.string (strOfNums (datN h l true 2 m))) w5 := by
        have h1 := hk5.reads (fun z hz => wf_u8 (HD.out z hz)) hk5.lt
        rw [datN_len] at h1
        exact conv_str (c := 24) h1
      obtain ⟨D, hD⟩ : ∃ D, strOfNums (datN h l true 2 m) = D := ⟨_, rfl⟩
      rw [hD] at hcv HX
      clear hD hk5 hb f0 f1 f2 f3 f4
      go_wp2_with (refine wpList_stm rfl (.tmp 2) (.tmp 35) rfl w.heap.size ⟨true, 136, 0, rstA r a o, D⟩ ⟨false, 0, 0, 0, ⟨#[]⟩⟩ rfl rfl R5.out ?_; intro w9 hk9 hb9; have K9 := Lib.hid hk9; have L9 := Lib.hid (L5.out.trans hb9); clear hk9 hb9)
      obtain ⟨q0, q1, q2, q3, q4⟩ := K9.out.m5
      exact bodyPost_ret (v := .tuple #[Ms.val ⟨true, 136, 0, rstA r a o, D⟩, .int .i64 0]) (by simp [results, Try.results19, go_sem, q0, q1, q2, q3, q4]) rfl ⟨by unfold telV; rw [HX.out], L9.out⟩
  · have HX : Hid (telR x = (⟨false, 0, 0, 0, ⟨#[]⟩⟩, 80)) := Lib.hid (by unfold telR; rw [if_neg (by rw [hr]; decide)]; rfl)
    rw [hr] at HV
    clear hr hw
    obtain ⟨s, h, l, r, a, o, y, m⟩ := x
    replace HS : Hid (∀ W, Calls Try.prog 67 #[Adv.val ⟨s, h, l, r, a, o, y, m⟩] W fun e w' => e = .returned (Sol.val ⟨s, h, l, y, m⟩) ∧ Below W.heap.size W w') := HS
    go_enter Try.func19, Try.ntmps19
    go_wp2_with fail
    refine Calls.mono (HS.out _) ?_
    rintro e w1 ⟨rfl, hb⟩
    have R1 := Lib.hid ((R0.out.below hb R0.out.lt).alloc (.cells (solC ⟨s, h, l, y, m⟩) 64))
    have S1 := Lib.hid (Blk.new w1 64 (solC ⟨s, h, l, y, m⟩))
    have L1 := Lib.hid ((L0.out.trans (hb.mono L0.out.size)).alloc (L0.out.trans (hb.mono L0.out.size)).size (.cells (solC ⟨s, h, l, y, m⟩) 64))
    clear hb
    obtain ⟨f0, f1, f2, f3, f4⟩ := S1.out.so3
    go_wp2_with fail
    refine Calls.mono (HV.out _) ?_
    rintro e w2 ⟨rfl, hb⟩
    have R2 := Lib.hid (R1.out.below hb R1.out.lt)
    have L2 := Lib.hid (L1.out.trans (hb.mono L1.out.size))
    clear hb f0 f1 f2 f3 f4
    go_wp2_with (refine wpList_stm rfl (.tmp 2) (.tmp 14) rfl w.heap.size ⟨false, 0, 0, 0, ⟨#[]⟩⟩ ⟨false, 0, 0, 0, ⟨#[]⟩⟩ rfl rfl R2.out ?_; intro w9 hk9 hb9; have K9 := Lib.hid hk9; have L9 := Lib.hid (L2.out.trans hb9); clear hk9 hb9)
    obtain ⟨q0, q1, q2, q3, q4⟩ := K9.out.m5
    exact bodyPost_ret (v := .tuple #[Ms.val ⟨false, 0, 0, 0, ⟨#[]⟩⟩, .int .i64 80]) (by simp [results, Try.results19, go_sem, q0, q1, q2, q3, q4]) rfl ⟨by unfold telV; rw [HX.out], L9.out⟩
set_option maxRecDepth 100000 in
set_option maxHeartbeats 4000000 in
theorem nask_any (x : Sol) (hw : U6 x.h ∧ U6 x.l ∧ U6 x.m) (w : World) : Calls Try.prog 9 #[x.val] w fun e w' => e = .returned (askV x) ∧ Below w.heap.size w w' := by
  obtain ⟨W0, hW0, km, kr, hL0⟩ := ask_args (solC x) 27 w
  have KR := Lib.hid kr
  have L0 := Lib.hid hL0
  have HL := Lib.hid (fun W => nlay_sol x hw W)
  unfold askV at HL
  obtain ⟨M1, hM1⟩ : ∃ M, (askR x).1 = M := ⟨_, rfl⟩
  obtain ⟨E1, hE1⟩ : ∃ E, (askR x).2 = E := ⟨_, rfl⟩
  have HX : Hid (askV x = .tuple #[M1.val, .int .i64 E1]) := Lib.hid (by unfold askV; rw [hM1, hE1])
  rw [hM1, hE1] at HL
  obtain ⟨f0, f1, f2, f3, f4⟩ := km.so5
  rw [hW0] at f0 f1 f2 f3 f4
  clear km kr hL0 hM1 hE1 hw
  go_enter Try.func9, Try.ntmps9
  go_wp2_with fail
  refine Calls.mono (HL.out _) ?_
  rintro e w1 ⟨rfl, hb⟩
  replace hb : Below W0.heap.size W0 w1 := by rw [hW0]; exact hb
  have KR1 := Lib.hid (KR.out.below hb KR.out.lt)
  have L1 := Lib.hid (L0.out.trans (hb.mono L0.out.size))
  clear hb f0 f1 f2 f3 f4 hW0
  go_wp2_with (refine wpList_stm rfl (.tmp 2) (.tmp 7) rfl (w.heap.size + 1) M1 ⟨false, 0, 0, 0, ⟨#[]⟩⟩ rfl rfl KR1.out ?_; intro w6 hk6 hb6; have K6 := Lib.hid hk6; have L6 := Lib.hid (L1.out.trans (hb6.mono (by omega))); clear hk6 hb6)
  obtain ⟨q0, q1, q2, q3, q4⟩ := K6.out.m5
  exact bodyPost_ret (v := .tuple #[M1.val, .int .i64 E1]) (by simp [results, Try.results9, go_sem, q0, q1, q2, q3, q4]) rfl ⟨by rw [HX.out], L6.out⟩
set_option maxRecDepth 100000 in
set_option maxHeartbeats 4000000 in
theorem ntell_any (x : Adv) (hw : U6 x.h ∧ U6 x.l ∧ U6 x.m) (w : World) : Calls Try.prog 11 #[x.val] w fun e w' => e = .returned (telV x) ∧ Below w.heap.size w w' := by
  obtain ⟨W0, hW0, km, kr, hL0⟩ := ask_args (advC x) 29 w
  have KR := Lib.hid kr
  have L0 := Lib.hid hL0
  have HL := Lib.hid (fun W => nlay_adv x hw W)
  unfold telV at HL
  obtain ⟨M1, hM1⟩ : ∃ M, (telR x).1 = M := ⟨_, rfl⟩
  obtain ⟨E1, hE1⟩ : ∃ E, (telR x).2 = E := ⟨_, rfl⟩
  have HX : Hid (telV x = .tuple #[M1.val, .int .i64 E1]) := Lib.hid (by unfold telV; rw [hM1, hE1])
  rw [hM1, hE1] at HL
  obtain ⟨f0, f1, f2, f3, f4, f5, f6, f7⟩ := km.ad8
  rw [hW0] at f0 f1 f2 f3 f4 f5 f6 f7
  clear km kr hL0 hM1 hE1 hw
  go_enter Try.func11, Try.ntmps11
  go_wp2_with fail
  refine Calls.mono (HL.out _) ?_
  rintro e w1 ⟨rfl, hb⟩
  replace hb : Below W0.heap.size W0 w1 := by rw [hW0]; exact hb
  have KR1 := Lib.hid (KR.out.below hb KR.out.lt)
  have L1 := Lib.hid (L0.out.trans (hb.mono L0.out.size))
  clear hb f0 f1 f2 f3 f4 f5 f6 f7 hW0
  go_wp2_with (refine wpList_stm rfl (.tmp 2) (.tmp 7) rfl (w.heap.size + 1) M1 ⟨false, 0, 0, 0, ⟨#[]⟩⟩ rfl rfl KR1.out ?_; intro w6 hk6 hb6; have K6 := Lib.hid hk6; have L6 := Lib.hid (L1.out.trans (hb6.mono (by omega))); clear hk6 hb6)
  obtain ⟨q0, q1, q2, q3, q4⟩ := K6.out.m5
  exact bodyPost_ret (v := .tuple #[M1.val, .int .i64 E1]) (by simp [results, Try.results11, go_sem, q0, q1, q2, q3, q4]) rfl ⟨by rw [HX.out], L6.out⟩
end Go.Proofs.Ytnligeelbajnpaa
