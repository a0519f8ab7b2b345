/-
  The document's own Tell of layer 9.
-/
import Derived.Test.YtnligeelbajnpaaNRg
namespace Go.Proofs.Ytnligeelbajnpaa
open Go.RowKit
set_option linter.unusedVariables false

set_option maxRecDepth 100000 in
set_option maxHeartbeats 16000000 in
theorem rtell_any (s : Bool) (h l : Int) (r a o y : Bool) (m : Int) (hw : U6 h ∧ U6 l ∧ U6 m) (w : World) :
    Calls Try.prog 12 #[Adv.val ⟨s, h, l, r, a, o, y, m⟩] w fun e w' => e = .returned (telV ⟨s, h, l, r, a, o, y, m⟩) ∧ Below w.heap.size w w' := by
  obtain ⟨W0, hW0, km, kr, hL0⟩ := ask_args (advC ⟨s, h, l, r, a, o, y, m⟩) 29 w
  have KM := Lib.hid km
  have KR := Lib.hid kr
  have L0 := Lib.hid hL0
  have H1 := Lib.hid (fun W => rright9_at s h l hw.1 hw.2.1 y m W)
  obtain ⟨f0, f1, f2, f3, f4, f5, f6, f7⟩ := km.ad8
  rw [hW0] at f0 f1 f2 f3 f4 f5 f6 f7
  clear km kr hL0
  rcases Bool.eq_false_or_eq_true (rgtB s h l y m) with hr | hr
  · obtain ⟨rfl, -, -, -⟩ := rgt_parts hr
    have H2 := Lib.hid (fun W => rdata_any h l hw.1 hw.2.1 y 2 m (by decide) hw.2.2 W)
    have HX : Hid (telR ⟨true, h, l, r, a, o, y, m⟩ = (⟨true, 136, 0, rstA r a o, strOfNums (datN h l y 2 m)⟩, 0)) := Lib.hid (by unfold telR; rw [if_pos hr])
    rw [hr] at H1
    obtain ⟨D, hD⟩ : ∃ D, strOfNums (datN h l y 2 m) = D := ⟨_, rfl⟩
    rw [hD] at H2 HX
    clear hr hw hD
    cases r <;> cases a <;> cases o
    all_goals
      go_enter Try.func12, Try.ntmps12
      go_wp2_with fail
      refine Calls.mono (H1.out _) ?_
      rintro e w1 ⟨rfl, hb⟩
      replace hb : Below W0.heap.size W0 w1 := by rw [hW0]; exact hb
      have KM1 := Lib.hid (KM.out.below hb KM.out.lt)
      have KR1 := Lib.hid (KR.out.below hb KR.out.lt)
      have L1 := Lib.hid (L0.out.trans (hb.mono L0.out.size))
      clear hb f0 f1 f2 f3 f4 f5 f6 f7 hW0
      obtain ⟨f0, f1, f2, f3, f4, f5, f6, f7⟩ := KM1.out.ad8
      go_wp2_with fail
      refine Calls.mono (H2.out _) ?_
      rintro e w2 ⟨rfl, hb⟩
      have KR2 := Lib.hid (KR1.out.below hb KR1.out.lt)
      have L2 := Lib.hid (L1.out.trans (hb.mono L1.out.size))
      clear hb f0 f1 f2 f3 f4 f5 f6 f7
      go_wp2_with (refine wpList_stm rfl (.tmp 2) (.tmp 36) rfl (w.heap.size + 1) ⟨true, 136, 0, _, D⟩ ⟨false, 0, 0, 0, ⟨#[]⟩⟩ rfl rfl KR2.out ?_; intro w6 hk6 hb6; have K6 := Lib.hid hk6; have L6 := Lib.hid (L2.out.trans (hb6.mono (by omega))); clear hk6 hb6)
      obtain ⟨q0, q1, q2, q3, q4⟩ := K6.out.m5
      refine bodyPost_ret (v := telV ⟨true, h, l, _, _, _, y, m⟩) ?_ rfl ⟨rfl, L6.out⟩
      unfold telV
      rw [HX.out]
      simp [results, Try.results12, go_sem, q0, q1, q2, q3, q4, rstA]
  · have HX : Hid (telR ⟨s, h, l, r, a, o, y, m⟩ = (⟨false, 0, 0, 0, ⟨#[]⟩⟩, 80)) := Lib.hid (by unfold telR; rw [if_neg (by rw [hr]; decide)]; rfl)
    rw [hr] at H1
    clear hr hw
    go_enter Try.func12, Try.ntmps12
    go_wp2_with fail
    refine Calls.mono (H1.out _) ?_
    rintro e w1 ⟨rfl, hb⟩
    replace hb : Below W0.heap.size W0 w1 := by rw [hW0]; exact hb
    have KR1 := Lib.hid (KR.out.below hb KR.out.lt)
    have L1 := Lib.hid (L0.out.trans (hb.mono L0.out.size))
    clear hb f0 f1 f2 f3 f4 f5 f6 f7 hW0
    go_wp2_with (refine wpList_stm rfl (.tmp 2) (.tmp 15) rfl (w.heap.size + 1) ⟨false, 0, 0, 0, ⟨#[]⟩⟩ ⟨false, 0, 0, 0, ⟨#[]⟩⟩ rfl rfl KR1.out ?_; intro w6 hk6 hb6; have K6 := Lib.hid hk6; have L6 := Lib.hid (L1.out.trans (hb6.mono (by omega))); clear hk6 hb6)
    obtain ⟨q0, q1, q2, q3, q4⟩ := K6.out.m5
    exact bodyPost_ret (v := .tuple #[Ms.val ⟨false, 0, 0, 0, ⟨#[]⟩⟩, .int .i64 80]) (by simp [results, Try.results12, go_sem, q0, q1, q2, q3, q4]) rfl ⟨by unfold telV; rw [HX.out], L6.out⟩
end Go.Proofs.Ytnligeelbajnpaa
