/-
  icmp.Reply of any message; the document's own IsError and Reply.
-/
import Derived.Test.YtljdebpemdjliaaITl
namespace Go.Proofs.Ytljdebpemdjliaa
open Go.RowKit
set_option linter.unusedVariables false

set_option maxHeartbeats 4000000 in
theorem rep6 (m : Ms) (hd : m.d.size ≤ 281474976710656) (w : World) :
    Calls Try.prog 57 #[m.val] w fun e w' => e = .returned (.tuple #[(ansI m 128 129).1.val, .int .i64 (ansI m 128 129).2]) ∧ Below w.heap.size w w' := by
  obtain ⟨W0, hW0, km, kr, hL0⟩ := an_args m 63 w
  have KR := Lib.hid kr
  have L0 := Lib.hid hL0
  obtain ⟨f0, f1, f2, f3, f4⟩ := km.i5
  rw [hW0] at f0 f1 f2 f3 f4
  have H1 := Lib.hid (fun W => ans_any m hd 128 129 W)
  obtain ⟨X, hX⟩ : ∃ x, (ansI m 128 129).1 = x := ⟨_, rfl⟩
  obtain ⟨E, hE⟩ : ∃ x, (ansI m 128 129).2 = x := ⟨_, rfl⟩
  rw [hX, hE] at H1 ⊢
  clear hX hE km kr hL0 hd
  go_enter Try.func57, Try.ntmps57
  go_wp2_with fail
  refine Calls.mono (H1.out _) ?_
  rintro e w1 ⟨rfl, hb⟩
  replace hb : Below W0.heap.size W0 w1 := by rw [hW0]; exact hb
  have KR1 := Lib.hid (KR.out.below hb KR.out.lt)
  have L1 := Lib.hid (L0.out.trans (hb.mono L0.out.size))
  clear hb f0 f1 f2 f3 f4 hW0
  go_wp2_with (refine wpList_st5 rfl (.tmp 2) (.tmp 7) rfl (w.heap.size + 1) X noM rfl rfl KR1.out ?_; intro w6 hk6 hb6; have K6 := Lib.hid hk6; have L6 := Lib.hid (L1.out.trans (hb6.mono (by omega))); clear hk6 hb6)
  obtain ⟨q0, q1, q2, q3, q4⟩ := K6.out.i5
  exact bodyPost_ret (v := .tuple #[X.val, .int .i64 E]) (by simp [results, Try.results57, go_sem, q0, q1, q2, q3, q4]) rfl ⟨rfl, L6.out⟩
set_option maxHeartbeats 4000000 in
theorem rep4 (m : Ms) (hd : m.d.size ≤ 281474976710656) (w : World) :
    Calls Try.prog 66 #[m.val] w fun e w' => e = .returned (.tuple #[(ansI m 8 0).1.val, .int .i64 (ansI m 8 0).2]) ∧ Below w.heap.size w w' := by
  obtain ⟨W0, hW0, km, kr, hL0⟩ := an_args m 64 w
  have KR := Lib.hid kr
  have L0 := Lib.hid hL0
  obtain ⟨f0, f1, f2, f3, f4⟩ := km.i5
  rw [hW0] at f0 f1 f2 f3 f4
  have H1 := Lib.hid (fun W => ans_any m hd 8 0 W)
  obtain ⟨X, hX⟩ : ∃ x, (ansI m 8 0).1 = x := ⟨_, rfl⟩
  obtain ⟨E, hE⟩ : ∃ x, (ansI m 8 0).2 = x := ⟨_, rfl⟩
  rw [hX, hE] at H1 ⊢
  clear hX hE km kr hL0 hd
  go_enter Try.func66, Try.ntmps66
  go_wp2_with fail
  refine Calls.mono (H1.out _) ?_
  rintro e w1 ⟨rfl, hb⟩
  replace hb : Below W0.heap.size W0 w1 := by rw [hW0]; exact hb
  have KR1 := Lib.hid (KR.out.below hb KR.out.lt)
  have L1 := Lib.hid (L0.out.trans (hb.mono L0.out.size))
  clear hb f0 f1 f2 f3 f4 hW0
  go_wp2_with (refine wpList_st5 rfl (.tmp 2) (.tmp 7) rfl (w.heap.size + 1) X noM rfl rfl KR1.out ?_; intro w6 hk6 hb6; have K6 := Lib.hid hk6; have L6 := Lib.hid (L1.out.trans (hb6.mono (by omega))); clear hk6 hb6)
  obtain ⟨q0, q1, q2, q3, q4⟩ := K6.out.i5
  exact bodyPost_ret (v := .tuple #[X.val, .int .i64 E]) (by simp [results, Try.results66, go_sem, q0, q1, q2, q3, q4]) rfl ⟨rfl, L6.out⟩
theorem rpI_six {m : Ms} (hs : m.s = true) : rpI m = ansI m 128 129 := by
  unfold rpI ansI
  rw [hs]
  simp only [if_true, and_comm]
theorem rpI_four {m : Ms} (hs : m.s = false) : rpI m = ansI m 8 0 := by
  unfold rpI ansI
  rw [hs]
  simp only [Bool.false_eq_true, if_false, and_comm]
set_option maxHeartbeats 4000000 in
theorem irep_any (m : Ms) (hd : m.d.size ≤ 281474976710656) (w : World) :
    Calls Try.prog 15 #[m.val] w fun e w' => e = .returned (rpV m) ∧ Below w.heap.size w w' := by
  obtain ⟨W0, hW0, km, kr, hL0⟩ := an_args m 23 w
  have KR := Lib.hid kr
  have L0 := Lib.hid hL0
  obtain ⟨f0, f1, f2, f3, f4⟩ := km.i5
  rw [hW0] at f0 f1 f2 f3 f4
  clear km kr hL0
  unfold rpV
  rcases Bool.eq_false_or_eq_true m.s with hs | hs
  · have H1 := Lib.hid (fun W => fam6 m hs W)
    have H2 := Lib.hid (fun W => rep6 m hd W)
    rw [← rpI_six hs] at H2
    obtain ⟨X, hX⟩ : ∃ x, (rpI m).1 = x := ⟨_, rfl⟩
    obtain ⟨E, hE⟩ : ∃ x, (rpI m).2 = x := ⟨_, rfl⟩
    rw [hX, hE] at H2 ⊢
    clear hX hE hd hs
    go_enter Try.func15, Try.ntmps15
    go_wp2_with fail
    refine Calls.mono (H1.out _) ?_
    rintro e w1 ⟨rfl, hb⟩
    replace hb : Below W0.heap.size W0 w1 := by rw [hW0]; exact hb
    have KR1 := Lib.hid (KR.out.below hb KR.out.lt)
    have L1 := Lib.hid (L0.out.trans (hb.mono L0.out.size))
    clear hb f0 f1 f2 f3 f4 hW0
    go_wp2_with fail
    refine Calls.mono (H2.out _) ?_
    rintro e w2 ⟨rfl, hb⟩
    have KR2 := Lib.hid (KR1.out.below hb KR1.out.lt)
    have L2 := Lib.hid (L1.out.trans (hb.mono L1.out.size))
    clear hb
    go_wp2_with (refine wpList_st5 rfl (.tmp 2) (.tmp 7) rfl (w.heap.size + 1) X noM rfl rfl KR2.out ?_; intro w6 hk6 hb6; have K6 := Lib.hid hk6; have L6 := Lib.hid (L2.out.trans (hb6.mono (by omega))); clear hk6 hb6)
    obtain ⟨q0, q1, q2, q3, q4⟩ := K6.out.i5
    exact bodyPost_ret (v := .tuple #[X.val, .int .i64 E]) (by simp [results, Try.results15, go_sem, q0, q1, q2, q3, q4]) rfl ⟨rfl, L6.out⟩
  · have H1 := Lib.hid (fun W => fam4 m hs W)
    have H2 := Lib.hid (fun W => rep4 m hd W)
    rw [← rpI_four hs] at H2
    obtain ⟨X, hX⟩ : ∃ x, (rpI m).1 = x := ⟨_, rfl⟩
    obtain ⟨E, hE⟩ : ∃ x, (rpI m).2 = x := ⟨_, rfl⟩
    rw [hX, hE] at H2 ⊢
    clear hX hE hd hs
    go_enter Try.func15, Try.ntmps15
    go_wp2_with fail
    refine Calls.mono (H1.out _) ?_
    rintro e w1 ⟨rfl, hb⟩
    replace hb : Below W0.heap.size W0 w1 := by rw [hW0]; exact hb
    have KR1 := Lib.hid (KR.out.below hb KR.out.lt)
    have L1 := Lib.hid (L0.out.trans (hb.mono L0.out.size))
    clear hb f0 f1 f2 f3 f4 hW0
    go_wp2_with fail
    refine Calls.mono (H2.out _) ?_
    rintro e w2 ⟨rfl, hb⟩
    have KR2 := Lib.hid (KR1.out.below hb KR1.out.lt)
    have L2 := Lib.hid (L1.out.trans (hb.mono L1.out.size))
    clear hb
    go_wp2_with (refine wpList_st5 rfl (.tmp 2) (.tmp 7) rfl (w.heap.size + 1) X noM rfl rfl KR2.out ?_; intro w6 hk6 hb6; have K6 := Lib.hid hk6; have L6 := Lib.hid (L2.out.trans (hb6.mono (by omega))); clear hk6 hb6)
    obtain ⟨q0, q1, q2, q3, q4⟩ := K6.out.i5
    exact bodyPost_ret (v := .tuple #[X.val, .int .i64 E]) (by simp [results, Try.results15, go_sem, q0, q1, q2, q3, q4]) rfl ⟨rfl, L6.out⟩
end Go.Proofs.Ytljdebpemdjliaa
