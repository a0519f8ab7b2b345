/-
  icmp.IsError and icmp.Reply of any message, and the document's own.
-/
import Derived.Test.YtljdebpemdjliaaINm
import Derived.Test.YtljdebpemdjliaaSCl
namespace Go.Proofs.Ytljdebpemdjliaa
open Go.RowKit
set_option linter.unusedVariables false

/-- Does a message tell of an error? -/
def errI (m : Ms) : Bool := if m.s then bti m.k 127 else (m.k == 3 || m.k == 4 || m.k == 5 || m.k == 11 || m.k == 12)
/-- What Reply answers. -/
def rpI (m : Ms) : Ms × Int := if m.c = 0 ∧ m.k = (if m.s then 128 else 8) then ({ m with k := if m.s then 129 else 0 }, 0) else (noM, 70)
def rpV (m : Ms) : Value := .tuple #[(rpI m).1.val, .int .i64 (rpI m).2]

set_option maxHeartbeats 2000000 in
theorem err6 (m : Ms) (hs : m.s = true) (w : World) :
    Calls Try.prog 55 #[m.val] w fun e w' => e = .returned (.bool (errI m)) ∧ Below w.heap.size w w' := by
  have H0 := Lib.hid (fun W => within_at m.k 127 rfl W)
  have HX : Hid (bti m.k 127 = errI m) := Lib.hid (by unfold errI; rw [hs]; rfl)
  have K0 := Blk.new w 63 (mcs m)
  have L0 := Lib.hid ((Below.refl _ w).alloc (Nat.le_refl _) (.cells (mcs m) 63))
  obtain ⟨f0, f1, f2, f3, f4⟩ := K0.i5
  clear K0 hs
  go_enter Try.func55, Try.ntmps55
  go_wp2_with fail
  refine Calls.mono (H0.out _) ?_
  rintro e w0 ⟨rfl, rfl⟩
  go_wp2
  go_ret
  exact ⟨ret_bool HX.out, L0.out⟩
set_option maxHeartbeats 2000000 in
theorem err4 (m : Ms) (hs : m.s = false) (w : World) :
    Calls Try.prog 64 #[m.val] w fun e w' => e = .returned (.bool (errI m)) ∧ Below w.heap.size w w' := by
  have HX : Hid ((m.k == 3 || m.k == 4 || m.k == 5 || m.k == 11 || m.k == 12) = errI m) := Lib.hid (by unfold errI; rw [hs]; rfl)
  have K0 := Blk.new w 64 (mcs m)
  have L0 := Lib.hid ((Below.refl _ w).alloc (Nat.le_refl _) (.cells (mcs m) 64))
  obtain ⟨f0, f1, f2, f3, f4⟩ := K0.i5
  clear K0 hs
  obtain ⟨S, k, c, r, d⟩ := m
  by_cases c3 : k = 3
  · subst c3
    go_enter Try.func64, Try.ntmps64
    go_wp2
    go_ret
    exact ⟨ret_bool (by rw [← HX.out]; rfl), L0.out⟩
  by_cases c4 : k = 4
  · subst c4
    clear c3
    go_enter Try.func64, Try.ntmps64
    go_wp2
    go_ret
    exact ⟨ret_bool (by rw [← HX.out]; rfl), L0.out⟩
  by_cases c5 : k = 5
  · subst c5
    clear c3 c4
    go_enter Try.func64, Try.ntmps64
    go_wp2
    go_ret
    exact ⟨ret_bool (by rw [← HX.out]; rfl), L0.out⟩
  by_cases c11 : k = 11
  · subst c11
    clear c3 c4 c5
    go_enter Try.func64, Try.ntmps64
    go_wp2
    go_ret
    exact ⟨ret_bool (by rw [← HX.out]; rfl), L0.out⟩
  by_cases c12 : k = 12
  · subst c12
    clear c3 c4 c5 c11
    go_enter Try.func64, Try.ntmps64
    go_wp2
    go_ret
    exact ⟨ret_bool (by rw [← HX.out]; rfl), L0.out⟩
  · go_enter Try.func64, Try.ntmps64
    go_wp2
    go_ret
    exact ⟨ret_bool (by rw [← HX.out]; simp [c3, c4, c5, c11, c12]), L0.out⟩
set_option maxHeartbeats 2000000 in
theorem ierr_any (m : Ms) (w : World) :
    Calls Try.prog 17 #[m.val] w fun e w' => e = .returned (.bool (errI m)) ∧ Below w.heap.size w w' := by
  have K0 := Blk.new w 23 (mcs m)
  have L0 := Lib.hid ((Below.refl _ w).alloc (Nat.le_refl _) (.cells (mcs m) 23))
  obtain ⟨f0, f1, f2, f3, f4⟩ := K0.i5
  clear K0
  rcases Bool.eq_false_or_eq_true m.s with hs | hs
  · have H1 := Lib.hid (fun W => fam6 m hs W)
    have H2 := Lib.hid (fun W => err6 m hs W)
    clear hs
    go_enter Try.func17, Try.ntmps17
    go_wp2_with fail
    refine Calls.mono (H1.out _) ?_
    rintro e w1 ⟨rfl, hb⟩
    have L1 := Lib.hid (L0.out.trans (hb.mono L0.out.size))
    clear hb
    go_wp2_with fail
    refine Calls.mono (H2.out _) ?_
    rintro e w2 ⟨rfl, hb⟩
    have L2 := Lib.hid (L1.out.trans (hb.mono L1.out.size))
    clear hb
    go_wp2
    go_ret
    exact ⟨rfl, L2.out⟩
  · have H1 := Lib.hid (fun W => fam4 m hs W)
    have H2 := Lib.hid (fun W => err4 m hs W)
    clear hs
    go_enter Try.func17, Try.ntmps17
    go_wp2_with fail
    refine Calls.mono (H1.out _) ?_
    rintro e w1 ⟨rfl, hb⟩
    have L1 := Lib.hid (L0.out.trans (hb.mono L0.out.size))
    clear hb
    go_wp2_with fail
    refine Calls.mono (H2.out _) ?_
    rintro e w2 ⟨rfl, hb⟩
    have L2 := Lib.hid (L1.out.trans (hb.mono L1.out.size))
    clear hb
    go_wp2
    go_ret
    exact ⟨rfl, L2.out⟩

/-- What the answer to an asking Kind is. -/
def ansI (m : Ms) (a r : Int) : Ms × Int := if m.k = a ∧ m.c = 0 then ({ m with k := r }, 0) else (noM, 70)
/-- The two variables that 'answered' begins with. -/
theorem an_args (m : Ms) (t : TypeId) (w : World) : ∃ W0, W0 = (w.alloc (.cells (mcs m) t)).alloc (.cells (mcs noM) 23) ∧ Blk W0 w.heap.size t (mcs m) ∧ Blk W0 (w.heap.size + 1) 23 (mcs noM) ∧ Below w.heap.size w W0 := by
  refine ⟨_, rfl, (Blk.new w _ _).alloc _, ?_, ((Below.refl _ w).alloc (Nat.le_refl _) _).alloc (by simp) _⟩
  have := Blk.new (w.alloc (.cells (mcs m) t)) 23 (mcs noM)
  simpa using this
set_option maxHeartbeats 4000000 in
theorem ans_any (m : Ms) (hd : m.d.size ≤ 281474976710656) (a r : Int) (w : World) :
    Calls Try.prog 59 #[m.val, .int .i64 a, .int .i64 r] w fun e w' => e = .returned (.tuple #[(ansI m a r).1.val, .int .i64 (ansI m a r).2]) ∧ Below w.heap.size w w' := by
  obtain ⟨W0, hW0, km, kr, hL0⟩ := an_args m 61 w
  have KM := Lib.hid km
  have KR := Lib.hid kr
  have L0 := Lib.hid hL0
  obtain ⟨f0, f1, f2, f3, f4⟩ := km.i5
  have z1 := km.frozen 1
  have H1 := Lib.hid (fun W => sclone_any m.d hd W)
  by_cases hc : m.k = a ∧ m.c = 0
  · have HX : Hid (ansI m a r = ({ m with k := r }, 0)) := Lib.hid (by unfold ansI; rw [if_pos hc])
    obtain ⟨S, k, c, rr, d⟩ := m
    obtain ⟨h1, h2⟩ := hc
    dsimp only at h1 h2
    subst h1 h2
    obtain ⟨W1, hW1, km1, kr1, hL1⟩ := an_args ⟨S, r, 0, rr, d⟩ 61 w
    have KM1 := Lib.hid km1
    have KR1 := Lib.hid kr1
    have L1 := Lib.hid hL1
    obtain ⟨g0, g1, g2, g3, g4⟩ := km1.i5
    rw [hW0] at f0 f1 f2 f3 f4 z1
    rw [hW1] at g0 g1 g2 g3 g4
    clear km kr hL0 km1 kr1 hL1
    go_enter Try.func59, Try.ntmps59
    go_wp2_with fail
    refine Calls.mono (H1.out _) ?_
    rintro e w1 ⟨rfl, hb⟩
    replace hb : Below W1.heap.size W1 w1 := by rw [hW1]; exact hb
    have KM2 := Lib.hid (KM1.out.below hb KM1.out.lt)
    have KR2 := Lib.hid (KR1.out.below hb KR1.out.lt)
    have L2 := Lib.hid (L1.out.trans (hb.mono L1.out.size))
    clear hb f0 f1 f2 f3 f4 z1 g0 g1 g2 g3 g4 hW0 hW1
    obtain ⟨f0, f1, f2, f3, f4⟩ := KM2.out.i5
    have z4 := KM2.out.frozen 4
    have KM3 : Hid (Blk (w1.setCell ⟨w.heap.size, 4, none⟩ (.string d)) w.heap.size 61 (mcs ⟨S, r, 0, rr, d⟩)) := Lib.hid (KM2.out.set_ 4 (.string d))
    have KR3 := Lib.hid (KR2.out.far (p := ⟨w.heap.size, 4, none⟩) (show w.heap.size + 1 ≠ w.heap.size by omega) (.string d))
    have L3 := Lib.hid (L2.out.setCell (p := ⟨w.heap.size, 4, none⟩) (Nat.le_refl _) (.string d))
    obtain ⟨g0, g1, g2, g3, g4⟩ := KM3.out.i5
    go_wp2_with (refine wpList_st5 rfl (.tmp 6) (.tmp 24) rfl (w.heap.size + 1) ⟨S, r, 0, rr, d⟩ noM rfl rfl KR3.out ?_; intro w6 hk6 hb6; have K6 := Lib.hid hk6; have L6 := Lib.hid (L3.out.trans (hb6.mono (by omega))); clear hk6 hb6)
    obtain ⟨q0, q1, q2, q3, q4⟩ := K6.out.i5
    exact bodyPost_ret (v := .tuple #[Ms.val ⟨S, r, 0, rr, d⟩, .int .i64 0]) (by simp [results, Try.results59, go_sem, q0, q1, q2, q3, q4]) rfl ⟨by rw [HX.out], L6.out⟩
  · have HX : Hid (ansI m a r = (noM, 70)) := Lib.hid (by unfold ansI; rw [if_neg hc])
    clear km kr hL0
    by_cases h1 : m.k = a
    · have h2 : ¬ m.c = 0 := fun h => hc ⟨h1, h⟩
      have q1 : (m.k == a) = true := by simpa using h1
      have q2 : (m.c == 0) = false := by simpa using h2
      have h3 : ¬ ¬ m.k = a := fun h => h h1
      rw [hW0] at f0 f1 f2 f3 f4
      clear hc h3
      go_enter Try.func59, Try.ntmps59
      rw [hW0] at KR L0
      go_wp2_with (refine wpList_st5 rfl (.tmp 6) (.tmp 17) rfl (w.heap.size + 1) noM noM rfl rfl KR.out ?_; intro w6 hk6 hb6; have K6 := Lib.hid hk6; have L6 := Lib.hid (L0.out.trans (hb6.mono (by omega))); clear hk6 hb6)
      obtain ⟨q0, q1, q2, q3, q4⟩ := K6.out.i5
      exact bodyPost_ret (v := .tuple #[noM.val, .int .i64 70]) (by simp [results, Try.results59, go_sem, noM, q0, q1, q2, q3, q4]) rfl ⟨by rw [HX.out], L6.out⟩
    · have q1 : (m.k == a) = false := by simpa using h1
      rw [hW0] at f0 f1 f2 f3 f4
      clear hc
      go_enter Try.func59, Try.ntmps59
      rw [hW0] at KR L0
      go_wp2_with (refine wpList_st5 rfl (.tmp 6) (.tmp 17) rfl (w.heap.size + 1) noM noM rfl rfl KR.out ?_; intro w6 hk6 hb6; have K6 := Lib.hid hk6; have L6 := Lib.hid (L0.out.trans (hb6.mono (by omega))); clear hk6 hb6)
      obtain ⟨q0, q1, q2, q3, q4⟩ := K6.out.i5
      exact bodyPost_ret (v := .tuple #[noM.val, .int .i64 70]) (by simp [results, Try.results59, go_sem, noM, q0, q1, q2, q3, q4]) rfl ⟨by rw [HX.out], L6.out⟩
end Go.Proofs.Ytljdebpemdjliaa
