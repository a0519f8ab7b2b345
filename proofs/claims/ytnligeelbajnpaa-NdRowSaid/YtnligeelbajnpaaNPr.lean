/-
  The program's TakeAsk and TakeTell of layer 9; what each law asks first.
-/
import Derived.Test.YtnligeelbajnpaaNPc
namespace Go.Proofs.Ytnligeelbajnpaa
open Go.RowKit
set_option linter.unusedVariables false

def tkaV (m : Ms) : Value := .tuple #[(tkAsk m).1.val, .int .i64 (tkAsk m).2]
def tktV (m : Ms) : Value := .tuple #[(tkTel m).1.val, .int .i64 (tkTel m).2]
theorem tkS_good {m : Ms} {kind : Int} {opt : Nat} (h : (tkS m kind opt).2 = 0) : (tkN m kind).2 = 0 ∧ (tkS m kind opt).1 = ⟨true, (tkN m kind).1.1, (tkN m kind).1.2.1, (macN opt (tkN m kind).1.2.2).1, (macN opt (tkN m kind).1.2.2).2⟩ := by
  unfold tkS at h ⊢
  by_cases hk : (tkN m kind).2 = 0
  · rw [if_pos hk]; exact ⟨hk, rfl⟩
  · rw [if_neg hk] at h; exact absurd h hk
theorem tkS_none {m : Ms} {kind : Int} {opt : Nat} (h : (tkS m kind opt).2 ≠ 0) : tkS m kind opt = (noSol, (tkN m kind).2) ∧ (tkN m kind).2 ≠ 0 := by
  unfold tkS at h ⊢
  by_cases hk : (tkN m kind).2 = 0
  · rw [if_pos hk] at h; exact absurd rfl h
  · rw [if_neg hk]; exact ⟨rfl, hk⟩
theorem sizeSo : (Try.prog.info? 27).map (·.size) = some 5 := by kernel_rfl
theorem sizeAd : (Try.prog.info? 29).map (·.size) = some 8 := by kernel_rfl
/-- The two variables that they begin with. -/
theorem tk_args (m : Ms) (cs : Array Value) (t : TypeId) (w : World) : Blk ((w.alloc (.cells (mcs m) 32)).alloc (.cells cs t)) w.heap.size 32 (mcs m) ∧ Blk ((w.alloc (.cells (mcs m) 32)).alloc (.cells cs t)) (w.heap.size + 1) t cs ∧ Below w.heap.size w ((w.alloc (.cells (mcs m) 32)).alloc (.cells cs t)) := by
  refine ⟨(Blk.new w _ _).alloc _, ?_, ((Below.refl _ w).alloc (Nat.le_refl _) _).alloc (by simp) _⟩
  have := Blk.new (w.alloc (.cells (mcs m) 32)) t cs
  simpa using this
set_option maxRecDepth 100000 in
set_option maxHeartbeats 16000000 in
theorem ntka_any (m : Ms) (hd : m.d.size ≤ 70000) (w : World) : Calls Try.prog 16 #[m.val] w fun e w' => e = .returned (tkaV m) ∧ Below w.heap.size w w' := by
  obtain ⟨km, kr, hL0⟩ := tk_args m (solC noSol) 27 w
  have KM := Lib.hid km
  have KR := Lib.hid kr
  have L0 := Lib.hid hL0
  have HT := Lib.hid (fun W => ntake_any m hd 135 1 W)
  clear kr hL0 hd
  by_cases hE : (tkS m 135 1).2 = 0
  · obtain ⟨hk, hx⟩ := tkS_good hE
    have HX : Hid (tkAsk m = (⟨true, (tkN m 135).1.1, (tkN m 135).1.2.1, (macN 1 (tkN m 135).1.2.2).1, (macN 1 (tkN m 135).1.2.2).2⟩, 0)) := Lib.hid (by unfold tkAsk; rw [if_pos hk])
    rw [hE, hx] at HT
    obtain ⟨H, hH⟩ : ∃ H, (tkN m 135).1.1 = H := ⟨_, rfl⟩
    obtain ⟨G, hG⟩ : ∃ G, (tkN m 135).1.2.1 = G := ⟨_, rfl⟩
    obtain ⟨y, hy⟩ : ∃ y, (macN 1 (tkN m 135).1.2.2).1 = y := ⟨_, rfl⟩
    obtain ⟨mm, hmm⟩ : ∃ mm, (macN 1 (tkN m 135).1.2.2).2 = mm := ⟨_, rfl⟩
    rw [hH, hG, hy, hmm] at HX HT
    clear hH hG hy hmm hE hk hx
    obtain ⟨S, k, c, r, d⟩ := m
    obtain ⟨f0, f1, f2, f3, f4⟩ := km.m5
    replace HT : Hid (∀ W, Calls Try.prog 27 #[Ms.val ⟨S, k, c, r, d⟩, .int .i64 135, .int .i64 1] W fun e w' => e = .returned (.tuple #[Sol.val ⟨true, H, G, y, mm⟩, .int .i64 0]) ∧ Below W.heap.size W w') := HT
    go_enter Try.func16, Try.ntmps16
    go_wp2_with fail
    refine Calls.mono (HT.out _) ?_
    rintro e w1 ⟨rfl, hb⟩
    have R1 := Lib.hid ((KR.out.below hb KR.out.lt).alloc (.cells (solC ⟨true, H, G, y, mm⟩) 64))
    have M1 := Lib.hid ((KM.out.below hb KM.out.lt).alloc (.cells (solC ⟨true, H, G, y, mm⟩) 64))
    have S1 := Lib.hid (Blk.new w1 64 (solC ⟨true, H, G, y, mm⟩))
    have L1 := Lib.hid ((L0.out.trans (hb.mono L0.out.size)).alloc (L0.out.trans (hb.mono L0.out.size)).size (.cells (solC ⟨true, H, G, y, mm⟩) 64))
    clear hb f0 f1 f2 f3 f4
    obtain ⟨f0, f1, f2, f3, f4⟩ := S1.out.so3
    go_wp2_with (refine wpList_stc 27 5 sizeSo rfl (.tmp 2) (.tmp 21) rfl (w.heap.size + 1) (solC ⟨true, H, G, y, mm⟩) (solC noSol) rfl (solC_one _) rfl rfl R1.out rfl ?_; intro w9 hk9 hb9; have K9 := Lib.hid hk9; have L9 := Lib.hid (L1.out.trans (hb9.mono (by omega))); clear hk9 hb9)
    obtain ⟨q0, q1, q2, q3, q4⟩ := K9.out.so5
    exact bodyPost_ret (v := .tuple #[Sol.val ⟨true, H, G, y, mm⟩, .int .i64 0]) (by simp [results, Try.results16, go_sem, q0, q1, q2, q3, q4]) rfl ⟨by unfold tkaV; rw [HX.out], L9.out⟩
  · obtain ⟨hx, hk⟩ := tkS_none hE
    have HX : Hid (tkAsk m = (noSol, (tkN m 135).2)) := Lib.hid (by unfold tkAsk; rw [if_neg hk])
    rw [hx] at HT
    obtain ⟨E, hEE⟩ : ∃ E, (tkN m 135).2 = E := ⟨_, rfl⟩
    rw [hEE] at HX HT hk
    clear hx hE hEE
    obtain ⟨S, k, c, r, d⟩ := m
    obtain ⟨f0, f1, f2, f3, f4⟩ := km.m5
    replace HT : Hid (∀ W, Calls Try.prog 27 #[Ms.val ⟨S, k, c, r, d⟩, .int .i64 135, .int .i64 1] W fun e w' => e = .returned (.tuple #[Sol.val noSol, .int .i64 E]) ∧ Below W.heap.size W w') := HT
    go_enter Try.func16, Try.ntmps16
    go_wp2_with fail
    refine Calls.mono (HT.out _) ?_
    rintro e w1 ⟨rfl, hb⟩
    have R1 := Lib.hid ((KR.out.below hb KR.out.lt).alloc (.cells (solC noSol) 64))
    have L1 := Lib.hid ((L0.out.trans (hb.mono L0.out.size)).alloc (L0.out.trans (hb.mono L0.out.size)).size (.cells (solC noSol) 64))
    clear hb f0 f1 f2 f3 f4
    go_wp2_with (refine wpList_stc 27 5 sizeSo rfl (.tmp 2) (.tmp 13) rfl (w.heap.size + 1) (solC noSol) (solC noSol) rfl (solC_one _) rfl rfl R1.out rfl ?_; intro w9 hk9 hb9; have K9 := Lib.hid hk9; have L9 := Lib.hid (L1.out.trans (hb9.mono (by omega))); clear hk9 hb9)
    obtain ⟨q0, q1, q2, q3, q4⟩ := K9.out.so5
    exact bodyPost_ret (v := .tuple #[Sol.val noSol, .int .i64 E]) (by simp [results, Try.results16, go_sem, noSol, q0, q1, q2, q3, q4]) rfl ⟨by unfold tkaV; rw [HX.out], L9.out⟩
set_option maxRecDepth 100000 in
set_option maxHeartbeats 16000000 in
theorem ntkt_any (m : Ms) (hd : m.d.size ≤ 70000) (p a o : Bool) (hr : m.r = rstA p a o) (w : World) : Calls Try.prog 17 #[m.val] w fun e w' => e = .returned (tktV m) ∧ Below w.heap.size w w' := by
  obtain ⟨km, kr, hL0⟩ := tk_args m (advC noAdv) 29 w
  have KM := Lib.hid km
  have KR := Lib.hid kr
  have L0 := Lib.hid hL0
  have HT := Lib.hid (fun W => ntake_any m hd 136 2 W)
  clear kr hL0 hd
  by_cases hE : (tkS m 136 2).2 = 0
  · obtain ⟨hk, hx⟩ := tkS_good hE
    have HX : Hid (tkTel m = (⟨true, (tkN m 136).1.1, (tkN m 136).1.2.1, p, a, o, (macN 2 (tkN m 136).1.2.2).1, (macN 2 (tkN m 136).1.2.2).2⟩, 0)) := Lib.hid (by
      obtain ⟨b1, b2, b3⟩ := rst_bits p a o
      unfold tkTel; rw [if_pos hk, hr, b1, b2, b3])
    rw [hE, hx] at HT
    obtain ⟨H, hH⟩ : ∃ H, (tkN m 136).1.1 = H := ⟨_, rfl⟩
    obtain ⟨G, hG⟩ : ∃ G, (tkN m 136).1.2.1 = G := ⟨_, rfl⟩
    obtain ⟨y, hy⟩ : ∃ y, (macN 2 (tkN m 136).1.2.2).1 = y := ⟨_, rfl⟩
    obtain ⟨mm, hmm⟩ : ∃ mm, (macN 2 (tkN m 136).1.2.2).2 = mm := ⟨_, rfl⟩
    rw [hH, hG, hy, hmm] at HX HT
    clear hH hG hy hmm hE hk hx
    obtain ⟨S, k, c, r, d⟩ := m
    dsimp only at hr
    subst hr
    cases p <;> cases a <;> cases o
    all_goals
      obtain ⟨f0, f1, f2, f3, f4⟩ := km.m5
      replace HT : Hid (∀ W, Calls Try.prog 27 #[Ms.val ⟨S, k, c, rstA _ _ _, d⟩, .int .i64 136, .int .i64 2] W fun e w' => e = .returned (.tuple #[Sol.val ⟨true, H, G, y, mm⟩, .int .i64 0]) ∧ Below W.heap.size W w') := HT
      go_enter Try.func17, Try.ntmps17
      go_wp2_with fail
      refine Calls.mono (HT.out _) ?_
      rintro e w1 ⟨rfl, hb⟩
      have R1 := Lib.hid ((KR.out.below hb KR.out.lt).alloc (.cells (solC ⟨true, H, G, y, mm⟩) 64))
      have M1 := Lib.hid ((KM.out.below hb KM.out.lt).alloc (.cells (solC ⟨true, H, G, y, mm⟩) 64))
      have S1 := Lib.hid (Blk.new w1 64 (solC ⟨true, H, G, y, mm⟩))
      have L1 := Lib.hid ((L0.out.trans (hb.mono L0.out.size)).alloc (L0.out.trans (hb.mono L0.out.size)).size (.cells (solC ⟨true, H, G, y, mm⟩) 64))
      clear hb f0 f1 f2 f3 f4
      obtain ⟨f0, f1, f2, f3, f4⟩ := S1.out.so3
      obtain ⟨g0, g1, g2, g3, g4⟩ := M1.out.m5
      go_wp2_with (refine wpList_stc 29 8 sizeAd rfl (.tmp 2) (.tmp 33) rfl (w.heap.size + 1) (advC ⟨true, H, G, _, _, _, y, mm⟩) (advC noAdv) rfl (advC_one _) rfl rfl R1.out rfl ?_; intro w9 hk9 hb9; have K9 := Lib.hid hk9; have L9 := Lib.hid (L1.out.trans (hb9.mono (by omega))); clear hk9 hb9)
      obtain ⟨q0, q1, q2, q3, q4, q5, q6, q7⟩ := K9.out.ad8
      refine bodyPost_ret (v := tktV ⟨S, k, c, _, d⟩) ?_ rfl ⟨rfl, L9.out⟩
      unfold tktV
      rw [HX.out]
      simp [results, Try.results17, go_sem, q0, q1, q2, q3, q4, q5, q6, q7]
  · obtain ⟨hx, hk⟩ := tkS_none hE
    have HX : Hid (tkTel m = (noAdv, (tkN m 136).2)) := Lib.hid (by unfold tkTel; rw [if_neg hk])
    rw [hx] at HT
    obtain ⟨E, hEE⟩ : ∃ E, (tkN m 136).2 = E := ⟨_, rfl⟩
    rw [hEE] at HX HT hk
    clear hx hE hEE hr
    obtain ⟨S, k, c, r, d⟩ := m
    obtain ⟨f0, f1, f2, f3, f4⟩ := km.m5
    replace HT : Hid (∀ W, Calls Try.prog 27 #[Ms.val ⟨S, k, c, r, d⟩, .int .i64 136, .int .i64 2] W fun e w' => e = .returned (.tuple #[Sol.val noSol, .int .i64 E]) ∧ Below W.heap.size W w') := HT
    go_enter Try.func17, Try.ntmps17
    go_wp2_with fail
    refine Calls.mono (HT.out _) ?_
    rintro e w1 ⟨rfl, hb⟩
    have R1 := Lib.hid ((KR.out.below hb KR.out.lt).alloc (.cells (solC noSol) 64))
    have L1 := Lib.hid ((L0.out.trans (hb.mono L0.out.size)).alloc (L0.out.trans (hb.mono L0.out.size)).size (.cells (solC noSol) 64))
    clear hb f0 f1 f2 f3 f4
    go_wp2_with (refine wpList_stc 29 8 sizeAd rfl (.tmp 2) (.tmp 13) rfl (w.heap.size + 1) (advC noAdv) (advC noAdv) rfl (advC_one _) rfl rfl R1.out rfl ?_; intro w9 hk9 hb9; have K9 := Lib.hid hk9; have L9 := Lib.hid (L1.out.trans (hb9.mono (by omega))); clear hk9 hb9)
    obtain ⟨q0, q1, q2, q3, q4, q5, q6, q7⟩ := K9.out.ad8
    exact bodyPost_ret (v := .tuple #[Adv.val noAdv, .int .i64 E]) (by simp [results, Try.results17, go_sem, noAdv, q0, q1, q2, q3, q4, q5, q6, q7]) rfl ⟨by unfold tktV; rw [HX.out], L9.out⟩
end Go.Proofs.Ytnligeelbajnpaa
