/-
  The document's own Take of any text between any two.
-/
import Derived.Test.YtljdebpemdjliaaITk
import Derived.Test.YtljdebpemdjliaaIRf
import Derived.StillTailTactics
namespace Go.Proofs.Ytljdebpemdjliaa
open Go.RowKit
set_option linter.unusedVariables false

set_option maxRecDepth 100000 in
set_option maxHeartbeats 8000000 in
theorem rtk_far1 (s : ByteArray) (hs : s.size ≤ 140737488351232) (ah al : Int) (b : Ad) (w : World) :
    Calls Try.prog 14 #[.string s, .bool true, Ad.val ⟨false, ah, al⟩, Ad.val b] w fun e w' => e = .returned (tkIV s true ⟨false, ah, al⟩ b) ∧ Below w.heap.size w w' := by
  have HX := Lib.hid (tkI_far (s := s) (a := ⟨false, ah, al⟩) (b := b) rfl)
  obtain ⟨W0, hW0, ka, kb, kr, hL0, hsz⟩ := t_args ⟨false, ah, al⟩ b w
  have KA := Lib.hid ka
  have KB := Lib.hid kb
  have KR := Lib.hid kr
  have L0 := Lib.hid hL0
  obtain ⟨f0, f1, f2⟩ := KA.out.i3
  obtain ⟨g0, g1, g2⟩ := KB.out.i3
  clear ka kb hsz hL0
  rw [hW0] at KR L0 f0 f1 f2 g0 g1 g2 kr
  obtain ⟨q0, q1, q2, q3, q4⟩ := kr.i5
  go_enter Try.func14, Try.ntmps14
  go_wp2
  exact bodyPost_ret (v := .tuple #[noM.val, .int .i64 70]) (by simp [results, Try.results14, go_sem, noM]) rfl ⟨by unfold tkIV; rw [HX.out], L0.out⟩

set_option maxRecDepth 100000 in
set_option maxHeartbeats 8000000 in
theorem rtk_far2 (s : ByteArray) (hs : s.size ≤ 140737488351232) (ah al bh bl : Int) (w : World) :
    Calls Try.prog 14 #[.string s, .bool true, Ad.val ⟨true, ah, al⟩, Ad.val ⟨false, bh, bl⟩] w fun e w' => e = .returned (tkIV s true ⟨true, ah, al⟩ ⟨false, bh, bl⟩) ∧ Below w.heap.size w w' := by
  have HX := Lib.hid (tkI_far (s := s) (a := ⟨true, ah, al⟩) (b := ⟨false, bh, bl⟩) rfl)
  obtain ⟨W0, hW0, ka, kb, kr, hL0, hsz⟩ := t_args ⟨true, ah, al⟩ ⟨false, bh, bl⟩ w
  have KA := Lib.hid ka
  have KB := Lib.hid kb
  have KR := Lib.hid kr
  have L0 := Lib.hid hL0
  obtain ⟨f0, f1, f2⟩ := KA.out.i3
  obtain ⟨g0, g1, g2⟩ := KB.out.i3
  clear ka kb hsz hL0
  rw [hW0] at KR L0 f0 f1 f2 g0 g1 g2 kr
  obtain ⟨q0, q1, q2, q3, q4⟩ := kr.i5
  go_enter Try.func14, Try.ntmps14
  go_wp2
  exact bodyPost_ret (v := .tuple #[noM.val, .int .i64 70]) (by simp [results, Try.results14, go_sem, noM]) rfl ⟨by unfold tkIV; rw [HX.out], L0.out⟩

set_option maxRecDepth 100000 in
set_option maxHeartbeats 8000000 in
theorem rtk_short4 (s : ByteArray) (hs : s.size ≤ 140737488351232) (a b : Ad) (h : s.size < 8) (w : World) :
    Calls Try.prog 14 #[.string s, .bool false, Ad.val a, Ad.val b] w fun e w' => e = .returned (tkIV s false a b) ∧ Below w.heap.size w w' := by
  have HX := Lib.hid (tkI_short (s := s) (six := false) (a := a) (b := b) (fun h => by cases h) h)
  have hI : (s.size : Int) < 8 := by omega
  clear h hs
  obtain ⟨W0, hW0, ka, kb, kr, hL0, hsz⟩ := t_args a b w
  have KA := Lib.hid ka
  have KB := Lib.hid kb
  have KR := Lib.hid kr
  have L0 := Lib.hid hL0
  obtain ⟨f0, f1, f2⟩ := KA.out.i3
  obtain ⟨g0, g1, g2⟩ := KB.out.i3
  clear ka kb hsz hL0
  rw [hW0] at KR L0 f0 f1 f2 g0 g1 g2 kr
  obtain ⟨q0, q1, q2, q3, q4⟩ := kr.i5
  go_enter Try.func14, Try.ntmps14
  go_wp2
  exact bodyPost_ret (v := .tuple #[noM.val, .int .i64 71]) (by simp [results, Try.results14, go_sem, noM]) rfl ⟨by unfold tkIV; rw [HX.out], L0.out⟩

set_option maxRecDepth 100000 in
set_option maxHeartbeats 8000000 in
theorem rtk_short6 (s : ByteArray) (hs : s.size ≤ 140737488351232) (ah al bh bl : Int) (h : s.size < 8) (w : World) :
    Calls Try.prog 14 #[.string s, .bool true, Ad.val ⟨true, ah, al⟩, Ad.val ⟨true, bh, bl⟩] w fun e w' => e = .returned (tkIV s true ⟨true, ah, al⟩ ⟨true, bh, bl⟩) ∧ Below w.heap.size w w' := by
  have HX := Lib.hid (tkI_short (s := s) (six := true) (a := ⟨true, ah, al⟩) (b := ⟨true, bh, bl⟩) (fun _ => rfl) h)
  have hI : (s.size : Int) < 8 := by omega
  clear h hs
  obtain ⟨W0, hW0, ka, kb, kr, hL0, hsz⟩ := t_args ⟨true, ah, al⟩ ⟨true, bh, bl⟩ w
  have KA := Lib.hid ka
  have KB := Lib.hid kb
  have KR := Lib.hid kr
  have L0 := Lib.hid hL0
  obtain ⟨f0, f1, f2⟩ := KA.out.i3
  obtain ⟨g0, g1, g2⟩ := KB.out.i3
  clear ka kb hsz hL0
  rw [hW0] at KR L0 f0 f1 f2 g0 g1 g2 kr
  obtain ⟨q0, q1, q2, q3, q4⟩ := kr.i5
  go_enter Try.func14, Try.ntmps14
  go_wp2
  exact bodyPost_ret (v := .tuple #[noM.val, .int .i64 71]) (by simp [results, Try.results14, go_sem, noM]) rfl ⟨by unfold tkIV; rw [HX.out], L0.out⟩
end Go.Proofs.Ytljdebpemdjliaa
