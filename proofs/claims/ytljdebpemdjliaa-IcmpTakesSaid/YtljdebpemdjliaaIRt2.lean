/-
  The document's own Take of any text between any two.
-/
import Derived.Test.YtljdebpemdjliaaITk
import Derived.Test.YtljdebpemdjliaaIRf
import Derived.StillTailTactics
namespace Go.Proofs.Ytljdebpemdjliaa
open Go.RowKit
set_option linter.unusedVariables false

set_option maxRecDepth 100000 in
set_option maxHeartbeats 8000000 in
theorem rtk_sum4 (s : ByteArray) (hs : s.size ≤ 140737488351232) (a b : Ad) (ha : WfA a) (hb : WfA b) (h : 8 ≤ s.size) (hne : SumI false a b s.size (byt s) ≠ 65535) (w : World) :
    Calls Try.prog 14 #[.string s, .bool false, Ad.val a, Ad.val b] w fun e w' => e = .returned (tkIV s false a b) ∧ Below w.heap.size w w' := by
  have H5 := Lib.hid (fun W A c (hz : RI .u8 W W.heap.size A s.size (byt s)) => rsum_any false a b ha hb (fun h => by cases h) W A s.size c (byt s) (by omega) hz)
  have HCV := Lib.hid (fun W => conv_bytes W s)
  have HRI := Lib.hid (fun W => bytesWorld_ri W s)
  have HBW := Lib.hid (fun W => bytesWorld_below W s)
  have HX := Lib.hid (tkI_sum (s := s) (six := false) (a := a) (b := b) (fun h => by cases h) h hne)
  have hI : ¬ (s.size : Int) < 8 := by omega
  obtain ⟨SV, hSV⟩ : ∃ x, SumI false a b s.size (byt s) = x := ⟨_, rfl⟩
  rw [hSV] at H5 hne
  clear h hs hSV ha hb
  obtain ⟨W0, hW0, ka, kb, kr, hL0, hsz⟩ := t_args a b w
  have KA := Lib.hid ka
  have KB := Lib.hid kb
  have KR := Lib.hid kr
  have L0 := Lib.hid hL0
  obtain ⟨f0, f1, f2⟩ := KA.out.i3
  obtain ⟨g0, g1, g2⟩ := KB.out.i3
  clear ka kb hsz hL0
  have hcw := HCV.out W0
  have HZ := Lib.hid (HRI.out W0)
  have hbw := HBW.out W0
  obtain ⟨V, hV⟩ : ∃ V, V = Lib.bytesWorld W0 5 s := ⟨_, rfl⟩
  rw [← hV] at hcw HZ hbw
  have KA1 := Lib.hid (KA.out.below hbw KA.out.lt)
  have KB1 := Lib.hid (KB.out.below hbw KB.out.lt)
  have KR1 := Lib.hid (KR.out.below hbw KR.out.lt)
  have L1 := Lib.hid (L0.out.trans (hbw.mono L0.out.size))
  have hsz0 : W0.heap.size = w.heap.size + 3 := by rw [hW0]; simp
  clear hbw hV kr
  rw [hsz0] at hcw HZ
  rw [hW0, noM] at f0 f1 f2 g0 g1 g2 hcw
  obtain ⟨p0, p1, p2⟩ := KA1.out.i3
  obtain ⟨r0, r1, r2⟩ := KB1.out.i3
  go_enter Try.func14, Try.ntmps14
  go_wp2_with fail
  refine Calls.mono (H5.out V _ _ HZ.out) ?_
  rintro e w2 ⟨rfl, hb⟩
  have KR2 := Lib.hid (KR1.out.below hb KR1.out.lt)
  have L2 := Lib.hid (L1.out.trans (hb.mono L1.out.size))
  have hl2 : w.heap.size + 2 < w2.heap.size := KR2.out.lt
  clear hb f0 f1 f2 g0 g1 g2 p0 p1 p2 r0 r1 r2 hcw HZ hW0 KA KB KR L0 KA1 KB1 KR1 L1 hsz0
  go_wp2_with (refine wpList_st5 rfl (.tmp 8) (.tmp 35) rfl (w.heap.size + 2) noM noM rfl rfl KR2.out ?_; intro w6 hk6 hb6; have K6 := Lib.hid hk6; have L6 := Lib.hid (L2.out.trans (hb6.mono (by omega))); clear hk6 hb6)
  obtain ⟨q0, q1, q2, q3, q4⟩ := K6.out.i5
  exact bodyPost_ret (v := .tuple #[noM.val, .int .i64 72]) (by simp [results, Try.results14, go_sem, noM, q0, q1, q2, q3, q4]) rfl ⟨by unfold tkIV; rw [HX.out], L6.out⟩

set_option maxRecDepth 100000 in
set_option maxHeartbeats 8000000 in
theorem rtk_sum6 (s : ByteArray) (hs : s.size ≤ 140737488351232) (ah al bh bl : Int) (ha : WfA ⟨true, ah, al⟩) (hb : WfA ⟨true, bh, bl⟩) (h : 8 ≤ s.size) (hne : SumI true ⟨true, ah, al⟩ ⟨true, bh, bl⟩ s.size (byt s) ≠ 65535) (w : World) :
    Calls Try.prog 14 #[.string s, .bool true, Ad.val ⟨true, ah, al⟩, Ad.val ⟨true, bh, bl⟩] w fun e w' => e = .returned (tkIV s true ⟨true, ah, al⟩ ⟨true, bh, bl⟩) ∧ Below w.heap.size w w' := by
  have H5 := Lib.hid (fun W A c (hz : RI .u8 W W.heap.size A s.size (byt s)) => rsum_any true ⟨true, ah, al⟩ ⟨true, bh, bl⟩ ha hb (fun _ => rfl) W A s.size c (byt s) (by omega) hz)
  have HCV := Lib.hid (fun W => conv_bytes W s)
  have HRI := Lib.hid (fun W => bytesWorld_ri W s)
  have HBW := Lib.hid (fun W => bytesWorld_below W s)
  have HX := Lib.hid (tkI_sum (s := s) (six := true) (a := ⟨true, ah, al⟩) (b := ⟨true, bh, bl⟩) (fun _ => rfl) h hne)
  have hI : ¬ (s.size : Int) < 8 := by omega
  obtain ⟨SV, hSV⟩ : ∃ x, SumI true ⟨true, ah, al⟩ ⟨true, bh, bl⟩ s.size (byt s) = x := ⟨_, rfl⟩
  rw [hSV] at H5 hne
  clear h hs hSV ha hb
  obtain ⟨W0, hW0, ka, kb, kr, hL0, hsz⟩ := t_args ⟨true, ah, al⟩ ⟨true, bh, bl⟩ w
  have KA := Lib.hid ka
  have KB := Lib.hid kb
  have KR := Lib.hid kr
  have L0 := Lib.hid hL0
  obtain ⟨f0, f1, f2⟩ := KA.out.i3
  obtain ⟨g0, g1, g2⟩ := KB.out.i3
  clear ka kb hsz hL0
  have hcw := HCV.out W0
  have HZ := Lib.hid (HRI.out W0)
  have hbw := HBW.out W0
  obtain ⟨V, hV⟩ : ∃ V, V = Lib.bytesWorld W0 5 s := ⟨_, rfl⟩
  rw [← hV] at hcw HZ hbw
  have KA1 := Lib.hid (KA.out.below hbw KA.out.lt)
  have KB1 := Lib.hid (KB.out.below hbw KB.out.lt)
  have KR1 := Lib.hid (KR.out.below hbw KR.out.lt)
  have L1 := Lib.hid (L0.out.trans (hbw.mono L0.out.size))
  have hsz0 : W0.heap.size = w.heap.size + 3 := by rw [hW0]; simp
  clear hbw hV kr
  rw [hsz0] at hcw HZ
  rw [hW0, noM] at f0 f1 f2 g0 g1 g2 hcw
  obtain ⟨p0, p1, p2⟩ := KA1.out.i3
  obtain ⟨r0, r1, r2⟩ := KB1.out.i3
  go_enter Try.func14, Try.ntmps14
  go_wp2_with fail
  refine Calls.mono (H5.out V _ _ HZ.out) ?_
  rintro e w2 ⟨rfl, hb⟩
  have KR2 := Lib.hid (KR1.out.below hb KR1.out.lt)
  have L2 := Lib.hid (L1.out.trans (hb.mono L1.out.size))
  have hl2 : w.heap.size + 2 < w2.heap.size := KR2.out.lt
  clear hb f0 f1 f2 g0 g1 g2 p0 p1 p2 r0 r1 r2 hcw HZ hW0 KA KB KR L0 KA1 KB1 KR1 L1 hsz0
  go_wp2_with (refine wpList_st5 rfl (.tmp 8) (.tmp 35) rfl (w.heap.size + 2) noM noM rfl rfl KR2.out ?_; intro w6 hk6 hb6; have K6 := Lib.hid hk6; have L6 := Lib.hid (L2.out.trans (hb6.mono (by omega))); clear hk6 hb6)
  obtain ⟨q0, q1, q2, q3, q4⟩ := K6.out.i5
  exact bodyPost_ret (v := .tuple #[noM.val, .int .i64 72]) (by simp [results, Try.results14, go_sem, noM, q0, q1, q2, q3, q4]) rfl ⟨by unfold tkIV; rw [HX.out], L6.out⟩

set_option maxRecDepth 100000 in
set_option maxHeartbeats 8000000 in
theorem rtk_long4 (s : ByteArray) (hs : s.size ≤ 140737488351232) (a b : Ad) (ha : WfA a) (hb : WfA b) (h : 65008 < s.size) (heq : SumI false a b s.size (byt s) = 65535) (w : World) :
    Calls Try.prog 14 #[.string s, .bool false, Ad.val a, Ad.val b] w fun e w' => e = .returned (tkIV s false a b) ∧ Below w.heap.size w w' := by
  have H5 := Lib.hid (fun W A c (hz : RI .u8 W W.heap.size A s.size (byt s)) => rsum_any false a b ha hb (fun h => by cases h) W A s.size c (byt s) (by omega) hz)
  have HCV := Lib.hid (fun W => conv_bytes W s)
  have HRI := Lib.hid (fun W => bytesWorld_ri W s)
  have HBW := Lib.hid (fun W => bytesWorld_below W s)
  have HX := Lib.hid (tkI_long (s := s) (six := false) (a := a) (b := b) (fun h => by cases h) h heq)
  have hI : ¬ (s.size : Int) < 8 := by omega
  have hgt : (65008 : Int) < s.size := by omega
  rw [heq] at H5
  clear h hs heq ha hb
  obtain ⟨W0, hW0, ka, kb, kr, hL0, hsz⟩ := t_args a b w
  have KA := Lib.hid ka
  have KB := Lib.hid kb
  have KR := Lib.hid kr
  have L0 := Lib.hid hL0
  obtain ⟨f0, f1, f2⟩ := KA.out.i3
  obtain ⟨g0, g1, g2⟩ := KB.out.i3
  clear ka kb hsz hL0
  have hcw := HCV.out W0
  have HZ := Lib.hid (HRI.out W0)
  have hbw := HBW.out W0
  obtain ⟨V, hV⟩ : ∃ V, V = Lib.bytesWorld W0 5 s := ⟨_, rfl⟩
  rw [← hV] at hcw HZ hbw
  have KA1 := Lib.hid (KA.out.below hbw KA.out.lt)
  have KB1 := Lib.hid (KB.out.below hbw KB.out.lt)
  have KR1 := Lib.hid (KR.out.below hbw KR.out.lt)
  have L1 := Lib.hid (L0.out.trans (hbw.mono L0.out.size))
  have hsz0 : W0.heap.size = w.heap.size + 3 := by rw [hW0]; simp
  clear hbw hV kr
  rw [hsz0] at hcw HZ
  rw [hW0, noM] at f0 f1 f2 g0 g1 g2 hcw
  obtain ⟨p0, p1, p2⟩ := KA1.out.i3
  obtain ⟨r0, r1, r2⟩ := KB1.out.i3
  go_enter Try.func14, Try.ntmps14
  go_wp2_with fail
  refine Calls.mono (H5.out V _ _ HZ.out) ?_
  rintro e w2 ⟨rfl, hb⟩
  have KR2 := Lib.hid (KR1.out.below hb KR1.out.lt)
  have L2 := Lib.hid (L1.out.trans (hb.mono L1.out.size))
  have hl2 : w.heap.size + 2 < w2.heap.size := KR2.out.lt
  clear hb f0 f1 f2 g0 g1 g2 p0 p1 p2 r0 r1 r2 hcw HZ hW0 KA KB KR L0 KA1 KB1 KR1 L1 hsz0
  go_wp2_with (refine wpList_st5 rfl (.tmp 8) (.tmp 39) rfl (w.heap.size + 2) noM noM rfl rfl KR2.out ?_; intro w6 hk6 hb6; have K6 := Lib.hid hk6; have L6 := Lib.hid (L2.out.trans (hb6.mono (by omega))); clear hk6 hb6)
  obtain ⟨q0, q1, q2, q3, q4⟩ := K6.out.i5
  exact bodyPost_ret (v := .tuple #[noM.val, .int .i64 70]) (by simp [results, Try.results14, go_sem, noM, q0, q1, q2, q3, q4]) rfl ⟨by unfold tkIV; rw [HX.out], L6.out⟩

set_option maxRecDepth 100000 in
set_option maxHeartbeats 8000000 in
theorem rtk_long6 (s : ByteArray) (hs : s.size ≤ 140737488351232) (ah al bh bl : Int) (ha : WfA ⟨true, ah, al⟩) (hb : WfA ⟨true, bh, bl⟩) (h : 65008 < s.size) (heq : SumI true ⟨true, ah, al⟩ ⟨true, bh, bl⟩ s.size (byt s) = 65535) (w : World) :
    Calls Try.prog 14 #[.string s, .bool true, Ad.val ⟨true, ah, al⟩, Ad.val ⟨true, bh, bl⟩] w fun e w' => e = .returned (tkIV s true ⟨true, ah, al⟩ ⟨true, bh, bl⟩) ∧ Below w.heap.size w w' := by
  have H5 := Lib.hid (fun W A c (hz : RI .u8 W W.heap.size A s.size (byt s)) => rsum_any true ⟨true, ah, al⟩ ⟨true, bh, bl⟩ ha hb (fun _ => rfl) W A s.size c (byt s) (by omega) hz)
  have HCV := Lib.hid (fun W => conv_bytes W s)
  have HRI := Lib.hid (fun W => bytesWorld_ri W s)
  have HBW := Lib.hid (fun W => bytesWorld_below W s)
  have HX := Lib.hid (tkI_long (s := s) (six := true) (a := ⟨true, ah, al⟩) (b := ⟨true, bh, bl⟩) (fun _ => rfl) h heq)
  have hI : ¬ (s.size : Int) < 8 := by omega
  have hgt : (65008 : Int) < s.size := by omega
  rw [heq] at H5
  clear h hs heq ha hb
  obtain ⟨W0, hW0, ka, kb, kr, hL0, hsz⟩ := t_args ⟨true, ah, al⟩ ⟨true, bh, bl⟩ w
  have KA := Lib.hid ka
  have KB := Lib.hid kb
  have KR := Lib.hid kr
  have L0 := Lib.hid hL0
  obtain ⟨f0, f1, f2⟩ := KA.out.i3
  obtain ⟨g0, g1, g2⟩ := KB.out.i3
  clear ka kb hsz hL0
  have hcw := HCV.out W0
  have HZ := Lib.hid (HRI.out W0)
  have hbw := HBW.out W0
  obtain ⟨V, hV⟩ : ∃ V, V = Lib.bytesWorld W0 5 s := ⟨_, rfl⟩
  rw [← hV] at hcw HZ hbw
  have KA1 := Lib.hid (KA.out.below hbw KA.out.lt)
  have KB1 := Lib.hid (KB.out.below hbw KB.out.lt)
  have KR1 := Lib.hid (KR.out.below hbw KR.out.lt)
  have L1 := Lib.hid (L0.out.trans (hbw.mono L0.out.size))
  have hsz0 : W0.heap.size = w.heap.size + 3 := by rw [hW0]; simp
  clear hbw hV kr
  rw [hsz0] at hcw HZ
  rw [hW0, noM] at f0 f1 f2 g0 g1 g2 hcw
  obtain ⟨p0, p1, p2⟩ := KA1.out.i3
  obtain ⟨r0, r1, r2⟩ := KB1.out.i3
  go_enter Try.func14, Try.ntmps14
  go_wp2_with fail
  refine Calls.mono (H5.out V _ _ HZ.out) ?_
  rintro e w2 ⟨rfl, hb⟩
  have KR2 := Lib.hid (KR1.out.below hb KR1.out.lt)
  have L2 := Lib.hid (L1.out.trans (hb.mono L1.out.size))
  have hl2 : w.heap.size + 2 < w2.heap.size := KR2.out.lt
  clear hb f0 f1 f2 g0 g1 g2 p0 p1 p2 r0 r1 r2 hcw HZ hW0 KA KB KR L0 KA1 KB1 KR1 L1 hsz0
  go_wp2_with (refine wpList_st5 rfl (.tmp 8) (.tmp 39) rfl (w.heap.size + 2) noM noM rfl rfl KR2.out ?_; intro w6 hk6 hb6; have K6 := Lib.hid hk6; have L6 := Lib.hid (L2.out.trans (hb6.mono (by omega))); clear hk6 hb6)
  obtain ⟨q0, q1, q2, q3, q4⟩ := K6.out.i5
  exact bodyPost_ret (v := .tuple #[noM.val, .int .i64 70]) (by simp [results, Try.results14, go_sem, noM, q0, q1, q2, q3, q4]) rfl ⟨by unfold tkIV; rw [HX.out], L6.out⟩
end Go.Proofs.Ytljdebpemdjliaa
