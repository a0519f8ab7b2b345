/-
  icmp.Take of any text between any two.
-/
import Derived.Test.YtljdebpemdjliaaILay
import Derived.Test.YtljdebpemdjliaaINm
import Derived.Test.YtljdebpemdjliaaSCl
namespace Go.Proofs.Ytljdebpemdjliaa
open Go.RowKit
set_option linter.unusedVariables false

/-- What Take answers between two. -/
def tkIR (s : ByteArray) (six : Bool) (a b : Ad) : Ms × Int := tkI s six (a.s && b.s) (psI six a b (s.size : Int))
def tkIV (s : ByteArray) (six : Bool) (a b : Ad) : Value := .tuple #[(tkIR s six a b).1.val, .int .i64 (tkIR s six a b).2]
theorem tkI_far {s : ByteArray} {a b : Ad} (h : (a.s && b.s) = false) : tkIR s true a b = (noM, 70) := by unfold tkIR tkI; rw [if_pos ⟨rfl, h⟩]
theorem tkI_short {s : ByteArray} {six : Bool} {a b : Ad} (ho : six = true → (a.s && b.s) = true) (h : s.size < 8) : tkIR s six a b = (noM, 71) := by
  unfold tkIR tkI
  rw [if_neg (fun ⟨x, y⟩ => by rw [ho x] at y; cases y), if_pos h]
theorem tkI_sum {s : ByteArray} {six : Bool} {a b : Ad} (ho : six = true → (a.s && b.s) = true) (h : 8 ≤ s.size) (hs : SumI six a b s.size (byt s) ≠ 65535) : tkIR s six a b = (noM, 72) := by
  unfold tkIR tkI
  rw [if_neg (fun ⟨x, y⟩ => by rw [ho x] at y; cases y), if_neg (by omega), if_pos (show fo (tot 0 (byt s) + psI six a b (s.size : Int)) ≠ 65535 from hs)]
theorem tkI_long {s : ByteArray} {six : Bool} {a b : Ad} (ho : six = true → (a.s && b.s) = true) (h : 65008 < s.size) (hs : SumI six a b s.size (byt s) = 65535) : tkIR s six a b = (noM, 70) := by
  unfold tkIR tkI
  rw [if_neg (fun ⟨x, y⟩ => by rw [ho x] at y; cases y), if_neg (by omega), if_neg (fun k => k (show fo (tot 0 (byt s) + psI six a b (s.size : Int)) = 65535 from hs)), if_pos h]
theorem tkI_ok {s : ByteArray} {six : Bool} {a b : Ad} (ho : six = true → (a.s && b.s) = true) (h : 8 ≤ s.size) (h2 : s.size ≤ 65008) (hs : SumI six a b s.size (byt s) = 65535) : tkIR s six a b = (pkI s six, 0) := by
  unfold tkIR tkI
  rw [if_neg (fun ⟨x, y⟩ => by rw [ho x] at y; cases y), if_neg (by omega), if_neg (fun k => k (show fo (tot 0 (byt s) + psI six a b (s.size : Int)) = 65535 from hs)), if_neg (by omega)]
theorem byt_extI (s : ByteArray) (i k : Nat) : byt (s.extract i k) = ((byt s).take k).drop i := by
  unfold byt
  rw [ByteArray.data_extract, Array.toList_extract, List.extract_eq_take_drop, List.map_take, List.map_drop, List.drop_take]
/-- The three variables that Take begins with. -/
theorem t_args (a b : Ad) (w : World) : ∃ W0, W0 = ((w.alloc (.cells (acs a) 26)).alloc (.cells (acs b) 26)).alloc (.cells (mcs noM) 23) ∧ Blk W0 w.heap.size 26 (acs a) ∧ Blk W0 (w.heap.size + 1) 26 (acs b) ∧ Blk W0 (w.heap.size + 2) 23 (mcs noM) ∧ Below w.heap.size w W0 ∧ W0.heap.size = w.heap.size + 3 := by
  refine ⟨_, rfl, ((Blk.new w _ _).alloc _).alloc _, ?_, ?_, (((Below.refl _ w).alloc (Nat.le_refl _) _).alloc (by simp) _).alloc (by simp; omega) _, by simp⟩
  · have := (Blk.new (w.alloc (.cells (acs a) 26)) 26 (acs b)).alloc (.cells (mcs noM) 23)
    simpa using this
  · have := Blk.new ((w.alloc (.cells (acs a) 26)).alloc (.cells (acs b) 26)) 23 (mcs noM)
    simpa using this

set_option maxRecDepth 100000 in
set_option maxHeartbeats 8000000 in
theorem itk_far (s : ByteArray) (a b : Ad) (hf : (a.s && b.s) = false) (w : World) :
    Calls Try.prog 13 #[.string s, .bool true, a.val, b.val] w fun e w' => e = .returned (tkIV s true a b) ∧ Below w.heap.size w w' := by
  have H1 := Lib.hid (fun W => fam6 ⟨true, 0, 0, 0, ⟨#[]⟩⟩ rfl W)
  have H3 := Lib.hid (fun W => may6 ⟨true, 0, 0, 0, ⟨#[]⟩⟩ a b W)
  rw [hf] at H3
  have HX := Lib.hid (tkI_far (s := s) hf)
  clear hf
  obtain ⟨W0, hW0, ka, kb, kr, hL0, hsz⟩ := t_args a b w
  have KA := Lib.hid ka
  have KB := Lib.hid kb
  have KR := Lib.hid kr
  have L0 := Lib.hid hL0
  clear ka kb kr hL0 hsz
  go_enter Try.func13, Try.ntmps13
  go_wp2_with fail
  refine Calls.mono (H1.out _) ?_
  rintro e w1 ⟨rfl, hb⟩
  replace hb : Below W0.heap.size W0 w1 := by rw [hW0]; exact hb
  have KA1 := Lib.hid (KA.out.below hb KA.out.lt)
  have KB1 := Lib.hid (KB.out.below hb KB.out.lt)
  have KR1 := Lib.hid (KR.out.below hb KR.out.lt)
  have L1 := Lib.hid (L0.out.trans (hb.mono L0.out.size))
  clear hb hW0 L0 KA KB KR
  obtain ⟨f0, f1, f2⟩ := KA1.out.i3
  obtain ⟨g0, g1, g2⟩ := KB1.out.i3
  go_wp2_with fail
  refine Calls.mono (H3.out _) ?_
  rintro e w3 ⟨rfl, hb⟩
  have KA3 := Lib.hid (KA1.out.below hb KA1.out.lt)
  have KB3 := Lib.hid (KB1.out.below hb KB1.out.lt)
  have KR3 := Lib.hid (KR1.out.below hb KR1.out.lt)
  have L3 := Lib.hid (L1.out.trans (hb.mono L1.out.size))
  clear hb f0 f1 f2 g0 g1 g2 KA1 KB1 KR1 L1
  go_wp2_with (refine wpList_st5 rfl (.tmp 8) (.tmp 21) rfl (w.heap.size + 2) noM noM rfl rfl KR3.out ?_; intro w6 hk6 hb6; have K6 := Lib.hid hk6; have L6 := Lib.hid (L3.out.trans (hb6.mono (by omega))); clear hk6 hb6)
  obtain ⟨q0, q1, q2, q3, q4⟩ := K6.out.i5
  exact bodyPost_ret (v := .tuple #[noM.val, .int .i64 70]) (by simp [results, Try.results13, go_sem, noM, q0, q1, q2, q3, q4]) rfl ⟨by unfold tkIV; rw [HX.out], L6.out⟩

set_option maxRecDepth 100000 in
set_option maxHeartbeats 8000000 in
theorem itk_short4 (s : ByteArray) (hs : s.size ≤ 140737488355328) (a b : Ad) (h : s.size < 8) (w : World) :
    Calls Try.prog 13 #[.string s, .bool false, a.val, b.val] w fun e w' => e = .returned (tkIV s false a b) ∧ Below w.heap.size w w' := by
  have H1 := Lib.hid (fun W => fam4 ⟨false, 0, 0, 0, ⟨#[]⟩⟩ rfl W)
  have H3 := Lib.hid (fun W => may4 ⟨false, 0, 0, 0, ⟨#[]⟩⟩ a b W)
  have HX := Lib.hid (tkI_short (six := false) (a := a) (b := b) (fun h => by cases h) h)
  have hI : (s.size : Int) < 8 := by omega
  clear h hs
  obtain ⟨W0, hW0, ka, kb, kr, hL0, hsz⟩ := t_args a b w
  have KA := Lib.hid ka
  have KB := Lib.hid kb
  have KR := Lib.hid kr
  have L0 := Lib.hid hL0
  clear ka kb kr hL0 hsz
  go_enter Try.func13, Try.ntmps13
  go_wp2_with fail
  refine Calls.mono (H1.out _) ?_
  rintro e w1 ⟨rfl, hb⟩
  replace hb : Below W0.heap.size W0 w1 := by rw [hW0]; exact hb
  have KA1 := Lib.hid (KA.out.below hb KA.out.lt)
  have KB1 := Lib.hid (KB.out.below hb KB.out.lt)
  have KR1 := Lib.hid (KR.out.below hb KR.out.lt)
  have L1 := Lib.hid (L0.out.trans (hb.mono L0.out.size))
  clear hb hW0 L0 KA KB KR
  obtain ⟨f0, f1, f2⟩ := KA1.out.i3
  obtain ⟨g0, g1, g2⟩ := KB1.out.i3
  go_wp2_with fail
  refine Calls.mono (H3.out _) ?_
  rintro e w3 ⟨rfl, hb⟩
  have KA3 := Lib.hid (KA1.out.below hb KA1.out.lt)
  have KB3 := Lib.hid (KB1.out.below hb KB1.out.lt)
  have KR3 := Lib.hid (KR1.out.below hb KR1.out.lt)
  have L3 := Lib.hid (L1.out.trans (hb.mono L1.out.size))
  clear hb f0 f1 f2 g0 g1 g2 KA1 KB1 KR1 L1
  go_wp2_with (refine wpList_st5 rfl (.tmp 8) (.tmp 26) rfl (w.heap.size + 2) noM noM rfl rfl KR3.out ?_; intro w6 hk6 hb6; have K6 := Lib.hid hk6; have L6 := Lib.hid (L3.out.trans (hb6.mono (by omega))); clear hk6 hb6)
  obtain ⟨q0, q1, q2, q3, q4⟩ := K6.out.i5
  exact bodyPost_ret (v := .tuple #[noM.val, .int .i64 71]) (by simp [results, Try.results13, go_sem, noM, q0, q1, q2, q3, q4]) rfl ⟨by unfold tkIV; rw [HX.out], L6.out⟩

set_option maxRecDepth 100000 in
set_option maxHeartbeats 8000000 in
theorem itk_short6 (s : ByteArray) (hs : s.size ≤ 140737488355328) (a b : Ad) (ha : WfA a) (hb : WfA b) (hab : (a.s && b.s) = true) (h : s.size < 8) (w : World) :
    Calls Try.prog 13 #[.string s, .bool true, a.val, b.val] w fun e w' => e = .returned (tkIV s true a b) ∧ Below w.heap.size w w' := by
  have H1 := Lib.hid (fun W => fam6 ⟨true, 0, 0, 0, ⟨#[]⟩⟩ rfl W)
  have H3 := Lib.hid (fun W => may6 ⟨true, 0, 0, 0, ⟨#[]⟩⟩ a b W)
  rw [hab] at H3
  have HX := Lib.hid (tkI_short (six := true) (a := a) (b := b) (fun _ => hab) h)
  have hI : (s.size : Int) < 8 := by omega
  clear h hs hab ha hb
  obtain ⟨W0, hW0, ka, kb, kr, hL0, hsz⟩ := t_args a b w
  have KA := Lib.hid ka
  have KB := Lib.hid kb
  have KR := Lib.hid kr
  have L0 := Lib.hid hL0
  clear ka kb kr hL0 hsz
  go_enter Try.func13, Try.ntmps13
  go_wp2_with fail
  refine Calls.mono (H1.out _) ?_
  rintro e w1 ⟨rfl, hb⟩
  replace hb : Below W0.heap.size W0 w1 := by rw [hW0]; exact hb
  have KA1 := Lib.hid (KA.out.below hb KA.out.lt)
  have KB1 := Lib.hid (KB.out.below hb KB.out.lt)
  have KR1 := Lib.hid (KR.out.below hb KR.out.lt)
  have L1 := Lib.hid (L0.out.trans (hb.mono L0.out.size))
  clear hb hW0 L0 KA KB KR
  obtain ⟨f0, f1, f2⟩ := KA1.out.i3
  obtain ⟨g0, g1, g2⟩ := KB1.out.i3
  go_wp2_with fail
  refine Calls.mono (H3.out _) ?_
  rintro e w3 ⟨rfl, hb⟩
  have KA3 := Lib.hid (KA1.out.below hb KA1.out.lt)
  have KB3 := Lib.hid (KB1.out.below hb KB1.out.lt)
  have KR3 := Lib.hid (KR1.out.below hb KR1.out.lt)
  have L3 := Lib.hid (L1.out.trans (hb.mono L1.out.size))
  clear hb f0 f1 f2 g0 g1 g2 KA1 KB1 KR1 L1
  go_wp2_with (refine wpList_st5 rfl (.tmp 8) (.tmp 26) rfl (w.heap.size + 2) noM noM rfl rfl KR3.out ?_; intro w6 hk6 hb6; have K6 := Lib.hid hk6; have L6 := Lib.hid (L3.out.trans (hb6.mono (by omega))); clear hk6 hb6)
  obtain ⟨q0, q1, q2, q3, q4⟩ := K6.out.i5
  exact bodyPost_ret (v := .tuple #[noM.val, .int .i64 71]) (by simp [results, Try.results13, go_sem, noM, q0, q1, q2, q3, q4]) rfl ⟨by unfold tkIV; rw [HX.out], L6.out⟩

set_option maxRecDepth 100000 in
set_option maxHeartbeats 8000000 in
theorem itk_sum4 (s : ByteArray) (hs : s.size ≤ 140737488355328) (a b : Ad) (h : 8 ≤ s.size) (hne : SumI false a b s.size (byt s) ≠ 65535) (w : World) :
    Calls Try.prog 13 #[.string s, .bool false, a.val, b.val] w fun e w' => e = .returned (tkIV s false a b) ∧ Below w.heap.size w w' := by
  have H1 := Lib.hid (fun W => fam4 ⟨false, 0, 0, 0, ⟨#[]⟩⟩ rfl W)
  have H3 := Lib.hid (fun W => may4 ⟨false, 0, 0, 0, ⟨#[]⟩⟩ a b W)
  have H5 := Lib.hid (fun A c W (hz : RI .u8 W W.heap.size A s.size (byt s)) => isum4 ⟨false, 0, 0, 0, ⟨#[]⟩⟩ a b W.heap.size A s.size c (byt s) (by omega) W hz (Nat.le_refl _))
  have HCV := Lib.hid (fun W => conv_bytes W s)
  have HRI := Lib.hid (fun W => bytesWorld_ri W s)
  have HBW := Lib.hid (fun W => bytesWorld_below W s)
  have HX := Lib.hid (tkI_sum (six := false) (a := a) (b := b) (fun h => by cases h) h hne)
  have hI : ¬ (s.size : Int) < 8 := by omega
  obtain ⟨SV, hSV⟩ : ∃ x, SumI false a b s.size (byt s) = x := ⟨_, rfl⟩
  rw [hSV] at H5 hne
  clear h hs hSV
  obtain ⟨W0, hW0, ka, kb, kr, hL0, hsz⟩ := t_args a b w
  have KA := Lib.hid ka
  have KB := Lib.hid kb
  have KR := Lib.hid kr
  have L0 := Lib.hid hL0
  clear ka kb kr hL0 hsz
  go_enter Try.func13, Try.ntmps13
  go_wp2_with fail
  refine Calls.mono (H1.out _) ?_
  rintro e w1 ⟨rfl, hb⟩
  replace hb : Below W0.heap.size W0 w1 := by rw [hW0]; exact hb
  have KA1 := Lib.hid (KA.out.below hb KA.out.lt)
  have KB1 := Lib.hid (KB.out.below hb KB.out.lt)
  have KR1 := Lib.hid (KR.out.below hb KR.out.lt)
  have L1 := Lib.hid (L0.out.trans (hb.mono L0.out.size))
  clear hb hW0 L0 KA KB KR
  obtain ⟨f0, f1, f2⟩ := KA1.out.i3
  obtain ⟨g0, g1, g2⟩ := KB1.out.i3
  go_wp2_with fail
  refine Calls.mono (H3.out _) ?_
  rintro e w3 ⟨rfl, hb⟩
  have KA3 := Lib.hid (KA1.out.below hb KA1.out.lt)
  have KB3 := Lib.hid (KB1.out.below hb KB1.out.lt)
  have KR3 := Lib.hid (KR1.out.below hb KR1.out.lt)
  have L3 := Lib.hid (L1.out.trans (hb.mono L1.out.size))
  clear hb f0 f1 f2 g0 g1 g2 KA1 KB1 KR1 L1
  have hcw := HCV.out w3
  have HZ := Lib.hid (HRI.out w3)
  have hbw := HBW.out w3
  obtain ⟨V, hV⟩ : ∃ V, V = Lib.bytesWorld w3 5 s := ⟨_, rfl⟩
  rw [← hV] at hcw HZ hbw
  clear hV
  have KA4 := Lib.hid (KA3.out.below hbw KA3.out.lt)
  have KB4 := Lib.hid (KB3.out.below hbw KB3.out.lt)
  have KR4 := Lib.hid (KR3.out.below hbw KR3.out.lt)
  have L4 := Lib.hid (L3.out.trans (hbw.mono L3.out.size))
  clear hbw KA3 KB3 KR3 L3
  obtain ⟨f0, f1, f2⟩ := KA4.out.i3
  obtain ⟨g0, g1, g2⟩ := KB4.out.i3
  go_wp2_with fail
  refine Calls.mono (H5.out _ _ V HZ.out) ?_
  rintro e w5 ⟨rfl, hb⟩
  have KR5 := Lib.hid (KR4.out.below hb KR4.out.lt)
  have L5 := Lib.hid (L4.out.trans (hb.mono L4.out.size))
  have hl5 : w.heap.size + 2 < w5.heap.size := KR5.out.lt
  clear hb f0 f1 f2 g0 g1 g2 KA4 KB4 KR4 L4 hcw HZ
  go_wp2_with (refine wpList_st5 rfl (.tmp 8) (.tmp 35) rfl (w.heap.size + 2) noM noM rfl rfl KR5.out ?_; intro w6 hk6 hb6; have K6 := Lib.hid hk6; have L6 := Lib.hid (L5.out.trans (hb6.mono (by omega))); clear hk6 hb6)
  obtain ⟨q0, q1, q2, q3, q4⟩ := K6.out.i5
  exact bodyPost_ret (v := .tuple #[noM.val, .int .i64 72]) (by simp [results, Try.results13, go_sem, noM, q0, q1, q2, q3, q4]) rfl ⟨by unfold tkIV; rw [HX.out], L6.out⟩

set_option maxRecDepth 100000 in
set_option maxHeartbeats 8000000 in
theorem itk_sum6 (s : ByteArray) (hs : s.size ≤ 140737488355328) (a b : Ad) (ha : WfA a) (hb : WfA b) (hab : (a.s && b.s) = true) (h : 8 ≤ s.size) (hne : SumI true a b s.size (byt s) ≠ 65535) (w : World) :
    Calls Try.prog 13 #[.string s, .bool true, a.val, b.val] w fun e w' => e = .returned (tkIV s true a b) ∧ Below w.heap.size w w' := by
  have H1 := Lib.hid (fun W => fam6 ⟨true, 0, 0, 0, ⟨#[]⟩⟩ rfl W)
  have H3 := Lib.hid (fun W => may6 ⟨true, 0, 0, 0, ⟨#[]⟩⟩ a b W)
  rw [hab] at H3
  have hsa : a.s = true := by revert hab; cases a.s <;> simp
  have H5 := Lib.hid (fun A c W (hz : RI .u8 W W.heap.size A s.size (byt s)) => isum6 ⟨true, 0, 0, 0, ⟨#[]⟩⟩ a b ha hb hsa W.heap.size A s.size c (byt s) (by omega) W hz (Nat.le_refl _))
  have HCV := Lib.hid (fun W => conv_bytes W s)
  have HRI := Lib.hid (fun W => bytesWorld_ri W s)
  have HBW := Lib.hid (fun W => bytesWorld_below W s)
  have HX := Lib.hid (tkI_sum (six := true) (a := a) (b := b) (fun _ => hab) h hne)
  have hI : ¬ (s.size : Int) < 8 := by omega
  obtain ⟨SV, hSV⟩ : ∃ x, SumI true a b s.size (byt s) = x := ⟨_, rfl⟩
  rw [hSV] at H5 hne
  clear h hs hSV hab hsa ha hb
  obtain ⟨W0, hW0, ka, kb, kr, hL0, hsz⟩ := t_args a b w
  have KA := Lib.hid ka
  have KB := Lib.hid kb
  have KR := Lib.hid kr
  have L0 := Lib.hid hL0
  clear ka kb kr hL0 hsz
  go_enter Try.func13, Try.ntmps13
  go_wp2_with fail
  refine Calls.mono (H1.out _) ?_
  rintro e w1 ⟨rfl, hb⟩
  replace hb : Below W0.heap.size W0 w1 := by rw [hW0]; exact hb
  have KA1 := Lib.hid (KA.out.below hb KA.out.lt)
  have KB1 := Lib.hid (KB.out.below hb KB.out.lt)
  have KR1 := Lib.hid (KR.out.below hb KR.out.lt)
  have L1 := Lib.hid (L0.out.trans (hb.mono L0.out.size))
  clear hb hW0 L0 KA KB KR
  obtain ⟨f0, f1, f2⟩ := KA1.out.i3
  obtain ⟨g0, g1, g2⟩ := KB1.out.i3
  go_wp2_with fail
  refine Calls.mono (H3.out _) ?_
  rintro e w3 ⟨rfl, hb⟩
  have KA3 := Lib.hid (KA1.out.below hb KA1.out.lt)
  have KB3 := Lib.hid (KB1.out.below hb KB1.out.lt)
  have KR3 := Lib.hid (KR1.out.below hb KR1.out.lt)
  have L3 := Lib.hid (L1.out.trans (hb.mono L1.out.size))
  clear hb f0 f1 f2 g0 g1 g2 KA1 KB1 KR1 L1
  have hcw := HCV.out w3
  have HZ := Lib.hid (HRI.out w3)
  have hbw := HBW.out w3
  obtain ⟨V, hV⟩ : ∃ V, V = Lib.bytesWorld w3 5 s := ⟨_, rfl⟩
  rw [← hV] at hcw HZ hbw
  clear hV
  have KA4 := Lib.hid (KA3.out.below hbw KA3.out.lt)
  have KB4 := Lib.hid (KB3.out.below hbw KB3.out.lt)
  have KR4 := Lib.hid (KR3.out.below hbw KR3.out.lt)
  have L4 := Lib.hid (L3.out.trans (hbw.mono L3.out.size))
  clear hbw KA3 KB3 KR3 L3
  obtain ⟨f0, f1, f2⟩ := KA4.out.i3
  obtain ⟨g0, g1, g2⟩ := KB4.out.i3
  go_wp2_with fail
  refine Calls.mono (H5.out _ _ V HZ.out) ?_
  rintro e w5 ⟨rfl, hb⟩
  have KR5 := Lib.hid (KR4.out.below hb KR4.out.lt)
  have L5 := Lib.hid (L4.out.trans (hb.mono L4.out.size))
  have hl5 : w.heap.size + 2 < w5.heap.size := KR5.out.lt
  clear hb f0 f1 f2 g0 g1 g2 KA4 KB4 KR4 L4 hcw HZ
  go_wp2_with (refine wpList_st5 rfl (.tmp 8) (.tmp 35) rfl (w.heap.size + 2) noM noM rfl rfl KR5.out ?_; intro w6 hk6 hb6; have K6 := Lib.hid hk6; have L6 := Lib.hid (L5.out.trans (hb6.mono (by omega))); clear hk6 hb6)
  obtain ⟨q0, q1, q2, q3, q4⟩ := K6.out.i5
  exact bodyPost_ret (v := .tuple #[noM.val, .int .i64 72]) (by simp [results, Try.results13, go_sem, noM, q0, q1, q2, q3, q4]) rfl ⟨by unfold tkIV; rw [HX.out], L6.out⟩

set_option maxRecDepth 100000 in
set_option maxHeartbeats 8000000 in
theorem itk_long4 (s : ByteArray) (hs : s.size ≤ 140737488355328) (a b : Ad) (h : 65008 < s.size) (heq : SumI false a b s.size (byt s) = 65535) (w : World) :
    Calls Try.prog 13 #[.string s, .bool false, a.val, b.val] w fun e w' => e = .returned (tkIV s false a b) ∧ Below w.heap.size w w' := by
  have H1 := Lib.hid (fun W => fam4 ⟨false, 0, 0, 0, ⟨#[]⟩⟩ rfl W)
  have H3 := Lib.hid (fun W => may4 ⟨false, 0, 0, 0, ⟨#[]⟩⟩ a b W)
  have H5 := Lib.hid (fun A c W (hz : RI .u8 W W.heap.size A s.size (byt s)) => isum4 ⟨false, 0, 0, 0, ⟨#[]⟩⟩ a b W.heap.size A s.size c (byt s) (by omega) W hz (Nat.le_refl _))
  have HCV := Lib.hid (fun W => conv_bytes W s)
  have HRI := Lib.hid (fun W => bytesWorld_ri W s)
  have HBW := Lib.hid (fun W => bytesWorld_below W s)
  have HX := Lib.hid (tkI_long (six := false) (a := a) (b := b) (fun h => by cases h) h heq)
  have hI : ¬ (s.size : Int) < 8 := by omega
  have hsub : IntKind.i64.wrap ((s.size : Int) - 8) = (s.size : Int) - 8 := by rw [IntKind.wrap_i64]; omega
  have hgt : (65000 : Int) < (s.size : Int) - 8 := by omega
  rw [heq] at H5
  clear h hs heq
  obtain ⟨W0, hW0, ka, kb, kr, hL0, hsz⟩ := t_args a b w
  have KA := Lib.hid ka
  have KB := Lib.hid kb
  have KR := Lib.hid kr
  have L0 := Lib.hid hL0
  clear ka kb kr hL0 hsz
  go_enter Try.func13, Try.ntmps13
  go_wp2_with fail
  refine Calls.mono (H1.out _) ?_
  rintro e w1 ⟨rfl, hb⟩
  replace hb : Below W0.heap.size W0 w1 := by rw [hW0]; exact hb
  have KA1 := Lib.hid (KA.out.below hb KA.out.lt)
  have KB1 := Lib.hid (KB.out.below hb KB.out.lt)
  have KR1 := Lib.hid (KR.out.below hb KR.out.lt)
  have L1 := Lib.hid (L0.out.trans (hb.mono L0.out.size))
  clear hb hW0 L0 KA KB KR
  obtain ⟨f0, f1, f2⟩ := KA1.out.i3
  obtain ⟨g0, g1, g2⟩ := KB1.out.i3
  go_wp2_with fail
  refine Calls.mono (H3.out _) ?_
  rintro e w3 ⟨rfl, hb⟩
  have KA3 := Lib.hid (KA1.out.below hb KA1.out.lt)
  have KB3 := Lib.hid (KB1.out.below hb KB1.out.lt)
  have KR3 := Lib.hid (KR1.out.below hb KR1.out.lt)
  have L3 := Lib.hid (L1.out.trans (hb.mono L1.out.size))
  clear hb f0 f1 f2 g0 g1 g2 KA1 KB1 KR1 L1
  have hcw := HCV.out w3
  have HZ := Lib.hid (HRI.out w3)
  have hbw := HBW.out w3
  obtain ⟨V, hV⟩ : ∃ V, V = Lib.bytesWorld w3 5 s := ⟨_, rfl⟩
  rw [← hV] at hcw HZ hbw
  clear hV
  have KA4 := Lib.hid (KA3.out.below hbw KA3.out.lt)
  have KB4 := Lib.hid (KB3.out.below hbw KB3.out.lt)
  have KR4 := Lib.hid (KR3.out.below hbw KR3.out.lt)
  have L4 := Lib.hid (L3.out.trans (hbw.mono L3.out.size))
  clear hbw KA3 KB3 KR3 L3
  obtain ⟨f0, f1, f2⟩ := KA4.out.i3
  obtain ⟨g0, g1, g2⟩ := KB4.out.i3
  go_wp2_with fail
  refine Calls.mono (H5.out _ _ V HZ.out) ?_
  rintro e w5 ⟨rfl, hb⟩
  have KR5 := Lib.hid (KR4.out.below hb KR4.out.lt)
  have L5 := Lib.hid (L4.out.trans (hb.mono L4.out.size))
  have hl5 : w.heap.size + 2 < w5.heap.size := KR5.out.lt
  clear hb f0 f1 f2 g0 g1 g2 KA4 KB4 KR4 L4 hcw HZ
  go_wp2_with (refine wpList_st5 rfl (.tmp 8) (.tmp 41) rfl (w.heap.size + 2) noM noM rfl rfl KR5.out ?_; intro w6 hk6 hb6; have K6 := Lib.hid hk6; have L6 := Lib.hid (L5.out.trans (hb6.mono (by omega))); clear hk6 hb6)
  obtain ⟨q0, q1, q2, q3, q4⟩ := K6.out.i5
  exact bodyPost_ret (v := .tuple #[noM.val, .int .i64 70]) (by simp [results, Try.results13, go_sem, noM, q0, q1, q2, q3, q4]) rfl ⟨by unfold tkIV; rw [HX.out], L6.out⟩

set_option maxRecDepth 100000 in
set_option maxHeartbeats 8000000 in
theorem itk_long6 (s : ByteArray) (hs : s.size ≤ 140737488355328) (a b : Ad) (ha : WfA a) (hb : WfA b) (hab : (a.s && b.s) = true) (h : 65008 < s.size) (heq : SumI true a b s.size (byt s) = 65535) (w : World) :
    Calls Try.prog 13 #[.string s, .bool true, a.val, b.val] w fun e w' => e = .returned (tkIV s true a b) ∧ Below w.heap.size w w' := by
  have H1 := Lib.hid (fun W => fam6 ⟨true, 0, 0, 0, ⟨#[]⟩⟩ rfl W)
  have H3 := Lib.hid (fun W => may6 ⟨true, 0, 0, 0, ⟨#[]⟩⟩ a b W)
  rw [hab] at H3
  have hsa : a.s = true := by revert hab; cases a.s <;> simp
  have H5 := Lib.hid (fun A c W (hz : RI .u8 W W.heap.size A s.size (byt s)) => isum6 ⟨true, 0, 0, 0, ⟨#[]⟩⟩ a b ha hb hsa W.heap.size A s.size c (byt s) (by omega) W hz (Nat.le_refl _))
  have HCV := Lib.hid (fun W => conv_bytes W s)
  have HRI := Lib.hid (fun W => bytesWorld_ri W s)
  have HBW := Lib.hid (fun W => bytesWorld_below W s)
  have HX := Lib.hid (tkI_long (six := true) (a := a) (b := b) (fun _ => hab) h heq)
  have hI : ¬ (s.size : Int) < 8 := by omega
  have hsub : IntKind.i64.wrap ((s.size : Int) - 8) = (s.size : Int) - 8 := by rw [IntKind.wrap_i64]; omega
  have hgt : (65000 : Int) < (s.size : Int) - 8 := by omega
  rw [heq] at H5
  clear h hs heq hab hsa ha hb
  obtain ⟨W0, hW0, ka, kb, kr, hL0, hsz⟩ := t_args a b w
  have KA := Lib.hid ka
  have KB := Lib.hid kb
  have KR := Lib.hid kr
  have L0 := Lib.hid hL0
  clear ka kb kr hL0 hsz
  go_enter Try.func13, Try.ntmps13
  go_wp2_with fail
  refine Calls.mono (H1.out _) ?_
  rintro e w1 ⟨rfl, hb⟩
  replace hb : Below W0.heap.size W0 w1 := by rw [hW0]; exact hb
  have KA1 := Lib.hid (KA.out.below hb KA.out.lt)
  have KB1 := Lib.hid (KB.out.below hb KB.out.lt)
  have KR1 := Lib.hid (KR.out.below hb KR.out.lt)
  have L1 := Lib.hid (L0.out.trans (hb.mono L0.out.size))
  clear hb hW0 L0 KA KB KR
  obtain ⟨f0, f1, f2⟩ := KA1.out.i3
  obtain ⟨g0, g1, g2⟩ := KB1.out.i3
  go_wp2_with fail
  refine Calls.mono (H3.out _) ?_
  rintro e w3 ⟨rfl, hb⟩
  have KA3 := Lib.hid (KA1.out.below hb KA1.out.lt)
  have KB3 := Lib.hid (KB1.out.below hb KB1.out.lt)
  have KR3 := Lib.hid (KR1.out.below hb KR1.out.lt)
  have L3 := Lib.hid (L1.out.trans (hb.mono L1.out.size))
  clear hb f0 f1 f2 g0 g1 g2 KA1 KB1 KR1 L1
  have hcw := HCV.out w3
  have HZ := Lib.hid (HRI.out w3)
  have hbw := HBW.out w3
  obtain ⟨V, hV⟩ : ∃ V, V = Lib.bytesWorld w3 5 s := ⟨_, rfl⟩
  rw [← hV] at hcw HZ hbw
  clear hV
  have KA4 := Lib.hid (KA3.out.below hbw KA3.out.lt)
  have KB4 := Lib.hid (KB3.out.below hbw KB3.out.lt)
  have KR4 := Lib.hid (KR3.out.below hbw KR3.out.lt)
  have L4 := Lib.hid (L3.out.trans (hbw.mono L3.out.size))
  clear hbw KA3 KB3 KR3 L3
  obtain ⟨f0, f1, f2⟩ := KA4.out.i3
  obtain ⟨g0, g1, g2⟩ := KB4.out.i3
  go_wp2_with fail
  refine Calls.mono (H5.out _ _ V HZ.out) ?_
  rintro e w5 ⟨rfl, hb⟩
  have KR5 := Lib.hid (KR4.out.below hb KR4.out.lt)
  have L5 := Lib.hid (L4.out.trans (hb.mono L4.out.size))
  have hl5 : w.heap.size + 2 < w5.heap.size := KR5.out.lt
  clear hb f0 f1 f2 g0 g1 g2 KA4 KB4 KR4 L4 hcw HZ
  go_wp2_with (refine wpList_st5 rfl (.tmp 8) (.tmp 41) rfl (w.heap.size + 2) noM noM rfl rfl KR5.out ?_; intro w6 hk6 hb6; have K6 := Lib.hid hk6; have L6 := Lib.hid (L5.out.trans (hb6.mono (by omega))); clear hk6 hb6)
  obtain ⟨q0, q1, q2, q3, q4⟩ := K6.out.i5
  exact bodyPost_ret (v := .tuple #[noM.val, .int .i64 70]) (by simp [results, Try.results13, go_sem, noM, q0, q1, q2, q3, q4]) rfl ⟨by unfold tkIV; rw [HX.out], L6.out⟩

set_option maxRecDepth 100000 in
set_option maxHeartbeats 8000000 in
theorem itk_ok4 (s : ByteArray) (hs : s.size ≤ 140737488355328) (a b : Ad) (h : 8 ≤ s.size) (h2 : s.size ≤ 65008) (heq : SumI false a b s.size (byt s) = 65535) (w : World) :
    Calls Try.prog 13 #[.string s, .bool false, a.val, b.val] w fun e w' => e = .returned (tkIV s false a b) ∧ Below w.heap.size w w' := by
  have H1 := Lib.hid (fun W => fam4 ⟨false, 0, 0, 0, ⟨#[]⟩⟩ rfl W)
  have H3 := Lib.hid (fun W => may4 ⟨false, 0, 0, 0, ⟨#[]⟩⟩ a b W)
  have H5 := Lib.hid (fun A c W (hz : RI .u8 W W.heap.size A s.size (byt s)) => isum4 ⟨false, 0, 0, 0, ⟨#[]⟩⟩ a b W.heap.size A s.size c (byt s) (by omega) W hz (Nat.le_refl _))
  have HCV := Lib.hid (fun W => conv_bytes W s)
  have HRI := Lib.hid (fun W => bytesWorld_ri W s)
  have HBW := Lib.hid (fun W => bytesWorld_below W s)
  have HX := Lib.hid (tkI_ok (six := false) (a := a) (b := b) (fun h => by cases h) h h2 heq)
  have hI : ¬ (s.size : Int) < 8 := by omega
  have hI2 : (8 : Int) ≤ s.size := by omega
  have hsub : IntKind.i64.wrap ((s.size : Int) - 8) = (s.size : Int) - 8 := by rw [IntKind.wrap_i64]; omega
  have hgt : ¬ (65000 : Int) < (s.size : Int) - 8 := by omega
  rw [heq] at H5
  obtain ⟨E, hE⟩ : ∃ E, s.extract 0 8 = E := ⟨_, rfl⟩
  have hEs : E.size = 8 := by rw [← hE, ByteArray.size_extract]; omega
  have bE : byt E = (byt s).take 8 := by rw [← hE, byt_extI, List.drop_zero]
  have HCV2 := Lib.hid (fun W => conv_bytes W E)
  rw [hEs] at HCV2
  have HRI2 := Lib.hid (fun W => bytesWorld_ri W E)
  rw [hEs, bE] at HRI2
  have HBW2 := Lib.hid (fun W => bytesWorld_below W E)
  have hln : ((byt s).take 8).length = 8 := by rw [List.length_take, byt_len]; omega
  have H6 := Lib.hid (fun (W : World) (c : Nat) (A : Option Addr) (hz : RI .u8 W W.heap.size A 8 ((byt s).take 8)) => new_any W W.heap.size A 8 c ((byt s).take 8) hz (Nat.le_refl _) (by decide))
  have H7 := Lib.hid (fun (V W : World) (r : Nat) (hr : Rd W V.heap.size W.heap.size r ((byt s).take 8) false) (hb : Below V.heap.size V W) => inum_at V W V.heap.size r W.heap.size ((byt s).take 8) hr (Nat.le_refl _) hb.size hb hln)
  rw [nAt_take (by decide), nAt_take (by decide), nAt_take (by decide)] at H7
  obtain ⟨D, hD⟩ : ∃ D, s.extract 8 s.size = D := ⟨_, rfl⟩
  have H8 := Lib.hid (fun W => sclone_any D (by rw [← hD, ByteArray.size_extract]; omega) W)
  have hpk : pkI s false = ⟨false, nAt (byt s) 0 1, nAt (byt s) 1 1, nAt (byt s) 4 4, D⟩ := by unfold pkI; rw [hD]
  rw [hpk] at HX
  obtain ⟨K, hK⟩ : ∃ X, nAt (byt s) 0 1 = X := ⟨_, rfl⟩
  obtain ⟨C, hC⟩ : ∃ X, nAt (byt s) 1 1 = X := ⟨_, rfl⟩
  obtain ⟨R, hR⟩ : ∃ X, nAt (byt s) 4 4 = X := ⟨_, rfl⟩
  rw [hK, hC, hR] at H7 HX
  clear h h2 hs heq bE hEs hln hpk hK hC hR
  obtain ⟨W0, hW0, ka, kb, kr, hL0, hsz⟩ := t_args a b w
  have KA := Lib.hid ka
  have KB := Lib.hid kb
  have KR := Lib.hid kr
  have L0 := Lib.hid hL0
  clear ka kb kr hL0 hsz
  go_enter Try.func13, Try.ntmps13
  go_wp2_with fail
  refine Calls.mono (H1.out _) ?_
  rintro e w1 ⟨rfl, hb⟩
  replace hb : Below W0.heap.size W0 w1 := by rw [hW0]; exact hb
  have KA1 := Lib.hid (KA.out.below hb KA.out.lt)
  have KB1 := Lib.hid (KB.out.below hb KB.out.lt)
  have KR1 := Lib.hid (KR.out.below hb KR.out.lt)
  have L1 := Lib.hid (L0.out.trans (hb.mono L0.out.size))
  clear hb hW0 L0 KA KB KR
  obtain ⟨f0, f1, f2⟩ := KA1.out.i3
  obtain ⟨g0, g1, g2⟩ := KB1.out.i3
  go_wp2_with fail
  refine Calls.mono (H3.out _) ?_
  rintro e w3 ⟨rfl, hb⟩
  have KA3 := Lib.hid (KA1.out.below hb KA1.out.lt)
  have KB3 := Lib.hid (KB1.out.below hb KB1.out.lt)
  have KR3 := Lib.hid (KR1.out.below hb KR1.out.lt)
  have L3 := Lib.hid (L1.out.trans (hb.mono L1.out.size))
  clear hb f0 f1 f2 g0 g1 g2 KA1 KB1 KR1 L1
  have hcw := HCV.out w3
  have HZ := Lib.hid (HRI.out w3)
  have hbw := HBW.out w3
  obtain ⟨V, hV⟩ : ∃ V, V = Lib.bytesWorld w3 5 s := ⟨_, rfl⟩
  rw [← hV] at hcw HZ hbw
  clear hV
  have KA4 := Lib.hid (KA3.out.below hbw KA3.out.lt)
  have KB4 := Lib.hid (KB3.out.below hbw KB3.out.lt)
  have KR4 := Lib.hid (KR3.out.below hbw KR3.out.lt)
  have L4 := Lib.hid (L3.out.trans (hbw.mono L3.out.size))
  clear hbw KA3 KB3 KR3 L3
  obtain ⟨f0, f1, f2⟩ := KA4.out.i3
  obtain ⟨g0, g1, g2⟩ := KB4.out.i3
  go_wp2_with fail
  refine Calls.mono (H5.out _ _ V HZ.out) ?_
  rintro e w5 ⟨rfl, hb⟩
  have KR5 := Lib.hid (KR4.out.below hb KR4.out.lt)
  have L5 := Lib.hid (L4.out.trans (hb.mono L4.out.size))
  have hl5 : w.heap.size + 2 < w5.heap.size := KR5.out.lt
  clear hb f0 f1 f2 g0 g1 g2 KA4 KB4 KR4 L4 hcw HZ
  have hcw := HCV2.out w5
  have HZ := Lib.hid (HRI2.out w5)
  have hbw := HBW2.out w5
  obtain ⟨V2, hV⟩ : ∃ V, V = Lib.bytesWorld w5 5 E := ⟨_, rfl⟩
  rw [← hV] at hcw HZ hbw
  clear hV
  have KR6 := Lib.hid (KR5.out.below hbw KR5.out.lt)
  have L6 := Lib.hid (L5.out.trans (hbw.mono L5.out.size))
  clear hbw KR5 L5
  go_wp2_with fail
  refine Calls.mono (H6.out V2 _ _ HZ.out) ?_
  rintro e w6 ⟨r, rfl, hr, hb⟩
  have H9 := Lib.hid (H7.out V2 w6 r hr hb)
  clear hr hb hcw HZ H6 H7
  go_wp2_with fail
  refine Calls.mono H9.out ?_
  rintro e w7 ⟨rfl, hb⟩
  have KR7 := Lib.hid (KR6.out.below hb KR6.out.lt)
  have L7 := Lib.hid (L6.out.trans (hb.mono L6.out.size))
  clear hb KR6 L6 H9
  have KN2 := Lib.hid (Blk.new w7 23 (mcs ⟨false, K, C, R, ⟨#[]⟩⟩))
  have KR9 := Lib.hid (KR7.out.alloc (.cells (mcs ⟨false, K, C, R, ⟨#[]⟩⟩) 23))
  have L8 := Lib.hid (L7.out.alloc L7.out.size (.cells (mcs ⟨false, K, C, R, ⟨#[]⟩⟩) 23))
  have hl7 : w.heap.size + 2 < w7.heap.size := KR7.out.lt
  clear KR7
  go_wp2_with fail
  refine Calls.mono (H8.out _) ?_
  rintro e w9 ⟨rfl, hb⟩
  have KN9 := Lib.hid (KN2.out.below hb KN2.out.lt)
  have KRa := Lib.hid (KR9.out.below hb KR9.out.lt)
  have L9 := Lib.hid (L8.out.trans (hb.mono L8.out.size))
  clear hb KN2 KR9 L8
  obtain ⟨n0, n1, n2, n3, n4⟩ := KN9.out.i5
  have z4 := KN9.out.frozen 4
  have KNb : Hid (Blk (w9.setCell ⟨w7.heap.size, 4, none⟩ (.string D)) w7.heap.size 23 (mcs ⟨false, K, C, R, D⟩)) := Lib.hid (KN9.out.set_ 4 (.string D))
  obtain ⟨m0, m1, m2, m3, m4⟩ := KNb.out.i5
  have KRb := Lib.hid (KRa.out.far (p := ⟨w7.heap.size, 4, none⟩) (show w.heap.size + 2 ≠ w7.heap.size by omega) (.string D))
  have Lb := Lib.hid (L9.out.setCell (p := ⟨w7.heap.size, 4, none⟩) (Nat.le_trans (Nat.le_add_right _ 2) (Nat.le_of_lt hl7)) (.string D))
  go_wp2_with (refine wpList_st5 rfl (.tmp 8) (.tmp 53) rfl (w.heap.size + 2) ⟨false, K, C, R, D⟩ noM rfl rfl KRb.out ?_; intro wa hk6 hb6; have K6 := Lib.hid hk6; have L6 := Lib.hid (Lb.out.trans (hb6.mono (by omega))); clear hk6 hb6)
  obtain ⟨q0, q1, q2, q3, q4⟩ := K6.out.i5
  exact bodyPost_ret (v := .tuple #[Ms.val ⟨false, K, C, R, D⟩, .int .i64 0]) (by simp [results, Try.results13, go_sem, q0, q1, q2, q3, q4]) rfl ⟨by unfold tkIV; rw [HX.out], L6.out⟩

set_option maxRecDepth 100000 in
set_option maxHeartbeats 8000000 in
theorem itk_ok6 (s : ByteArray) (hs : s.size ≤ 140737488355328) (a b : Ad) (ha : WfA a) (hb : WfA b) (hab : (a.s && b.s) = true) (h : 8 ≤ s.size) (h2 : s.size ≤ 65008) (heq : SumI true a b s.size (byt s) = 65535) (w : World) :
    Calls Try.prog 13 #[.string s, .bool true, a.val, b.val] w fun e w' => e = .returned (tkIV s true a b) ∧ Below w.heap.size w w' := by
  have H1 := Lib.hid (fun W => fam6 ⟨true, 0, 0, 0, ⟨#[]⟩⟩ rfl W)
  have H3 := Lib.hid (fun W => may6 ⟨true, 0, 0, 0, ⟨#[]⟩⟩ a b W)
  rw [hab] at H3
  have hsa : a.s = true := by revert hab; cases a.s <;> simp
  have H5 := Lib.hid (fun A c W (hz : RI .u8 W W.heap.size A s.size (byt s)) => isum6 ⟨true, 0, 0, 0, ⟨#[]⟩⟩ a b ha hb hsa W.heap.size A s.size c (byt s) (by omega) W hz (Nat.le_refl _))
  have HCV := Lib.hid (fun W => conv_bytes W s)
  have HRI := Lib.hid (fun W => bytesWorld_ri W s)
  have HBW := Lib.hid (fun W => bytesWorld_below W s)
  have HX := Lib.hid (tkI_ok (six := true) (a := a) (b := b) (fun _ => hab) h h2 heq)
  have hI : ¬ (s.size : Int) < 8 := by omega
  have hI2 : (8 : Int) ≤ s.size := by omega
  have hsub : IntKind.i64.wrap ((s.size : Int) - 8) = (s.size : Int) - 8 := by rw [IntKind.wrap_i64]; omega
  have hgt : ¬ (65000 : Int) < (s.size : Int) - 8 := by omega
  rw [heq] at H5
  obtain ⟨E, hE⟩ : ∃ E, s.extract 0 8 = E := ⟨_, rfl⟩
  have hEs : E.size = 8 := by rw [← hE, ByteArray.size_extract]; omega
  have bE : byt E = (byt s).take 8 := by rw [← hE, byt_extI, List.drop_zero]
  have HCV2 := Lib.hid (fun W => conv_bytes W E)
  rw [hEs] at HCV2
  have HRI2 := Lib.hid (fun W => bytesWorld_ri W E)
  rw [hEs, bE] at HRI2
  have HBW2 := Lib.hid (fun W => bytesWorld_below W E)
  have hln : ((byt s).take 8).length = 8 := by rw [List.length_take, byt_len]; omega
  have H6 := Lib.hid (fun (W : World) (c : Nat) (A : Option Addr) (hz : RI .u8 W W.heap.size A 8 ((byt s).take 8)) => new_any W W.heap.size A 8 c ((byt s).take 8) hz (Nat.le_refl _) (by decide))
  have H7 := Lib.hid (fun (V W : World) (r : Nat) (hr : Rd W V.heap.size W.heap.size r ((byt s).take 8) false) (hb : Below V.heap.size V W) => inum_at V W V.heap.size r W.heap.size ((byt s).take 8) hr (Nat.le_refl _) hb.size hb hln)
  rw [nAt_take (by decide), nAt_take (by decide), nAt_take (by decide)] at H7
  obtain ⟨D, hD⟩ : ∃ D, s.extract 8 s.size = D := ⟨_, rfl⟩
  have H8 := Lib.hid (fun W => sclone_any D (by rw [← hD, ByteArray.size_extract]; omega) W)
  have hpk : pkI s true = ⟨true, nAt (byt s) 0 1, nAt (byt s) 1 1, nAt (byt s) 4 4, D⟩ := by unfold pkI; rw [hD]
  rw [hpk] at HX
  obtain ⟨K, hK⟩ : ∃ X, nAt (byt s) 0 1 = X := ⟨_, rfl⟩
  obtain ⟨C, hC⟩ : ∃ X, nAt (byt s) 1 1 = X := ⟨_, rfl⟩
  obtain ⟨R, hR⟩ : ∃ X, nAt (byt s) 4 4 = X := ⟨_, rfl⟩
  rw [hK, hC, hR] at H7 HX
  clear h h2 hs heq bE hEs hln hpk hK hC hR hab hsa ha hb
  obtain ⟨W0, hW0, ka, kb, kr, hL0, hsz⟩ := t_args a b w
  have KA := Lib.hid ka
  have KB := Lib.hid kb
  have KR := Lib.hid kr
  have L0 := Lib.hid hL0
  clear ka kb kr hL0 hsz
  go_enter Try.func13, Try.ntmps13
  go_wp2_with fail
  refine Calls.mono (H1.out _) ?_
  rintro e w1 ⟨rfl, hb⟩
  replace hb : Below W0.heap.size W0 w1 := by rw [hW0]; exact hb
  have KA1 := Lib.hid (KA.out.below hb KA.out.lt)
  have KB1 := Lib.hid (KB.out.below hb KB.out.lt)
  have KR1 := Lib.hid (KR.out.below hb KR.out.lt)
  have L1 := Lib.hid (L0.out.trans (hb.mono L0.out.size))
  clear hb hW0 L0 KA KB KR
  obtain ⟨f0, f1, f2⟩ := KA1.out.i3
  obtain ⟨g0, g1, g2⟩ := KB1.out.i3
  go_wp2_with fail
  refine Calls.mono (H3.out _) ?_
  rintro e w3 ⟨rfl, hb⟩
  have KA3 := Lib.hid (KA1.out.below hb KA1.out.lt)
  have KB3 := Lib.hid (KB1.out.below hb KB1.out.lt)
  have KR3 := Lib.hid (KR1.out.below hb KR1.out.lt)
  have L3 := Lib.hid (L1.out.trans (hb.mono L1.out.size))
  clear hb f0 f1 f2 g0 g1 g2 KA1 KB1 KR1 L1
  have hcw := HCV.out w3
  have HZ := Lib.hid (HRI.out w3)
  have hbw := HBW.out w3
  obtain ⟨V, hV⟩ : ∃ V, V = Lib.bytesWorld w3 5 s := ⟨_, rfl⟩
  rw [← hV] at hcw HZ hbw
  clear hV
  have KA4 := Lib.hid (KA3.out.below hbw KA3.out.lt)
  have KB4 := Lib.hid (KB3.out.below hbw KB3.out.lt)
  have KR4 := Lib.hid (KR3.out.below hbw KR3.out.lt)
  have L4 := Lib.hid (L3.out.trans (hbw.mono L3.out.size))
  clear hbw KA3 KB3 KR3 L3
  obtain ⟨f0, f1, f2⟩ := KA4.out.i3
  obtain ⟨g0, g1, g2⟩ := KB4.out.i3
  go_wp2_with fail
  refine Calls.mono (H5.out _ _ V HZ.out) ?_
  rintro e w5 ⟨rfl, hb⟩
  have KR5 := Lib.hid (KR4.out.below hb KR4.out.lt)
  have L5 := Lib.hid (L4.out.trans (hb.mono L4.out.size))
  have hl5 : w.heap.size + 2 < w5.heap.size := KR5.out.lt
  clear hb f0 f1 f2 g0 g1 g2 KA4 KB4 KR4 L4 hcw HZ
  have hcw := HCV2.out w5
  have HZ := Lib.hid (HRI2.out w5)
  have hbw := HBW2.out w5
  obtain ⟨V2, hV⟩ : ∃ V, V = Lib.bytesWorld w5 5 E := ⟨_, rfl⟩
  rw [← hV] at hcw HZ hbw
  clear hV
  have KR6 := Lib.hid (KR5.out.below hbw KR5.out.lt)
  have L6 := Lib.hid (L5.out.trans (hbw.mono L5.out.size))
  clear hbw KR5 L5
  go_wp2_with fail
  refine Calls.mono (H6.out V2 _ _ HZ.out) ?_
  rintro e w6 ⟨r, rfl, hr, hb⟩
  have H9 := Lib.hid (H7.out V2 w6 r hr hb)
  clear hr hb hcw HZ H6 H7
  go_wp2_with fail
  refine Calls.mono H9.out ?_
  rintro e w7 ⟨rfl, hb⟩
  have KR7 := Lib.hid (KR6.out.below hb KR6.out.lt)
  have L7 := Lib.hid (L6.out.trans (hb.mono L6.out.size))
  clear hb KR6 L6 H9
  have KN2 := Lib.hid (Blk.new w7 23 (mcs ⟨true, K, C, R, ⟨#[]⟩⟩))
  have KR9 := Lib.hid (KR7.out.alloc (.cells (mcs ⟨true, K, C, R, ⟨#[]⟩⟩) 23))
  have L8 := Lib.hid (L7.out.alloc L7.out.size (.cells (mcs ⟨true, K, C, R, ⟨#[]⟩⟩) 23))
  have hl7 : w.heap.size + 2 < w7.heap.size := KR7.out.lt
  clear KR7
  go_wp2_with fail
  refine Calls.mono (H8.out _) ?_
  rintro e w9 ⟨rfl, hb⟩
  have KN9 := Lib.hid (KN2.out.below hb KN2.out.lt)
  have KRa := Lib.hid (KR9.out.below hb KR9.out.lt)
  have L9 := Lib.hid (L8.out.trans (hb.mono L8.out.size))
  clear hb KN2 KR9 L8
  obtain ⟨n0, n1, n2, n3, n4⟩ := KN9.out.i5
  have z4 := KN9.out.frozen 4
  have KNb : Hid (Blk (w9.setCell ⟨w7.heap.size, 4, none⟩ (.string D)) w7.heap.size 23 (mcs ⟨true, K, C, R, D⟩)) := Lib.hid (KN9.out.set_ 4 (.string D))
  obtain ⟨m0, m1, m2, m3, m4⟩ := KNb.out.i5
  have KRb := Lib.hid (KRa.out.far (p := ⟨w7.heap.size, 4, none⟩) (show w.heap.size + 2 ≠ w7.heap.size by omega) (.string D))
  have Lb := Lib.hid (L9.out.setCell (p := ⟨w7.heap.size, 4, none⟩) (Nat.le_trans (Nat.le_add_right _ 2) (Nat.le_of_lt hl7)) (.string D))
  go_wp2_with (refine wpList_st5 rfl (.tmp 8) (.tmp 53) rfl (w.heap.size + 2) ⟨true, K, C, R, D⟩ noM rfl rfl KRb.out ?_; intro wa hk6 hb6; have K6 := Lib.hid hk6; have L6 := Lib.hid (Lb.out.trans (hb6.mono (by omega))); clear hk6 hb6)
  obtain ⟨q0, q1, q2, q3, q4⟩ := K6.out.i5
  exact bodyPost_ret (v := .tuple #[Ms.val ⟨true, K, C, R, D⟩, .int .i64 0]) (by simp [results, Try.results13, go_sem, q0, q1, q2, q3, q4]) rfl ⟨by unfold tkIV; rw [HX.out], L6.out⟩

theorem itake_any (s : ByteArray) (hs : s.size ≤ 140737488355328) (six : Bool) (a b : Ad) (ha : WfA a) (hb : WfA b) (w : World) :
    Calls Try.prog 13 #[.string s, .bool six, a.val, b.val] w fun e w' => e = .returned (tkIV s six a b) ∧ Below w.heap.size w w' := by
  cases six with
  | true =>
    rcases Bool.eq_false_or_eq_true (a.s && b.s) with hf | hf
    · by_cases h1 : s.size < 8
      · exact itk_short6 s hs a b ha hb hf h1 w
      by_cases h2 : SumI true a b s.size (byt s) = 65535
      · by_cases h3 : 65008 < s.size
        · exact itk_long6 s hs a b ha hb hf h3 h2 w
        · exact itk_ok6 s hs a b ha hb hf (by omega) (by omega) h2 w
      · exact itk_sum6 s hs a b ha hb hf (by omega) h2 w
    · exact itk_far s a b hf w
  | false =>
    by_cases h1 : s.size < 8
    · exact itk_short4 s hs a b h1 w
    by_cases h2 : SumI false a b s.size (byt s) = 65535
    · by_cases h3 : 65008 < s.size
      · exact itk_long4 s hs a b h3 h2 w
      · exact itk_ok4 s hs a b (by omega) (by omega) h2 w
    · exact itk_sum4 s hs a b (by omega) h2 w
end Go.Proofs.Ytljdebpemdjliaa
