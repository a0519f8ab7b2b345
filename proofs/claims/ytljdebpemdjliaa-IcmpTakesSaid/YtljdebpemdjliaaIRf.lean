/-
  The document's own answers for layer 8: Right, laid, sum, IsError, Reply.
-/
import Derived.Test.YtljdebpemdjliaaITr
import Derived.Test.YtljdebpemdjliaaRefPseudo
import Derived.Test.YtljdebpemdjliaaERPut
namespace Go.Proofs.Ytljdebpemdjliaa
open Go.RowKit
set_option linter.unusedVariables false

theorem rgIB_split (m : Ms) : rgIB m = (decide (0 ≤ m.k) && decide (m.k ≤ 255) && decide (0 ≤ m.c) && decide (m.c ≤ 255) && decide (0 ≤ m.r) && decide (m.r ≤ 4294967295) && decide ((m.d.size : Int) ≤ 65000)) := by
  unfold rgIB bti
  have e : decide (m.d.size ≤ 65000) = decide ((m.d.size : Int) ≤ 65000) := decide_eq_decide.2 (by omega)
  rw [e]
  simp only [Bool.and_assoc]
set_option maxHeartbeats 4000000 in
theorem rright_any (m : Ms) (w : World) :
    Calls Try.prog 22 #[m.val] w fun e w' => e = .returned (.bool (rgIB m)) ∧ Below w.heap.size w w' := by
  have K0 := Blk.new w 23 (mcs m)
  have L0 := Lib.hid ((Below.refl _ w).alloc (Nat.le_refl _) (.cells (mcs m) 23))
  obtain ⟨f0, f1, f2, f3, f4⟩ := K0.i5
  clear K0
  have HE := Lib.hid (rgIB_split m)
  by_cases h0 : 0 ≤ m.k
  rotate_left
  · go_enter Try.func22, Try.ntmps22
    go_wp2
    go_ret
    exact ⟨ret_bool (by rw [HE.out]; simp []; intros; omega), L0.out⟩
  by_cases h1 : m.k ≤ 255
  rotate_left
  · go_enter Try.func22, Try.ntmps22
    go_wp2
    go_ret
    exact ⟨ret_bool (by rw [HE.out]; simp [h0]; intros; omega), L0.out⟩
  by_cases h2 : 0 ≤ m.c
  rotate_left
  · go_enter Try.func22, Try.ntmps22
    go_wp2
    go_ret
    exact ⟨ret_bool (by rw [HE.out]; simp [h0, h1]; intros; omega), L0.out⟩
  by_cases h3 : m.c ≤ 255
  rotate_left
  · go_enter Try.func22, Try.ntmps22
    go_wp2
    go_ret
    exact ⟨ret_bool (by rw [HE.out]; simp [h0, h1, h2]; intros; omega), L0.out⟩
  by_cases h4 : 0 ≤ m.r
  rotate_left
  · go_enter Try.func22, Try.ntmps22
    go_wp2
    go_ret
    exact ⟨ret_bool (by rw [HE.out]; simp [h0, h1, h2, h3]; intros; omega), L0.out⟩
  by_cases h5 : m.r ≤ 4294967295
  rotate_left
  · go_enter Try.func22, Try.ntmps22
    go_wp2
    go_ret
    exact ⟨ret_bool (by rw [HE.out]; simp [h0, h1, h2, h3, h4]; intros; omega), L0.out⟩
  go_enter Try.func22, Try.ntmps22
  go_wp2
  go_ret
  exact ⟨ret_bool (by rw [HE.out]; simp [h0, h1, h2, h3, h4, h5]), L0.out⟩

/-- One call of the document's Put onto any bytes. -/
theorem rput_own (k n m : Nat) (hk : k ≤ 8) (h0 : 0 < k) (v : Int) (hv0 : 0 ≤ v) (hv1 : v ≤ 18446744073709551615) (hn : n ≤ 2000) {zs ys : List Int} (hm : n + k = m) (hy : zs ++ putOf k v = ys) (w : World) (A : Option Addr) (c : Nat) (hz : RI .u8 w w.heap.size A n zs) (hA : A = none → c = 0) :
    Calls Try.prog 29 #[.slice A n c, .int .i64 (k : Int), .int .u64 v] w fun e w' => ∃ v', e = .returned v' ∧ w'.ownsRow w.heap.size 5 1 v' m (ys.map (Value.int .u8)) ∧ Below w.heap.size w w' := by
  subst hm hy
  exact refPut_own w w.heap.size A n c k v (k : Int) _ zs hz hA (Nat.le_refl _) hk (by omega) hv0 hv1 (if_neg (by omega)) (if_neg (by omega))

set_option maxRecDepth 100000 in
set_option maxHeartbeats 4000000 in
theorem rlaid_any (m : Ms) (h : RgI m) (x : Int) (hx0 : 0 ≤ x) (hx1 : x ≤ 65535) (w : World) :
    Calls Try.prog 23 #[m.val, .int .u16 x] w fun e w' => ∃ v, e = .returned v ∧ w'.ownsRow w.heap.size 5 1 v (8 + m.d.size) ((allI m x).map (Value.int .u8)) ∧ Below w.heap.size w w' := by
  have K0 := Lib.hid (Blk.new w 23 (mcs m))
  have L0 := Lib.hid ((Below.refl _ w).alloc (Nat.le_refl _) (.cells (mcs m) 23))
  obtain ⟨f0, f1, f2, f3, f4⟩ := K0.out.i5
  have hk : IntKind.u64.wrap m.k = m.k := by rw [IntKind.wrap_u64]; have := h.k; omega
  have hc : IntKind.u64.wrap m.c = m.c := by rw [IntKind.wrap_u64]; have := h.c; omega
  have hr : IntKind.u64.wrap m.r = m.r := by rw [IntKind.wrap_u64]; have := h.r; omega
  have hxw : IntKind.u64.wrap x = x := by rw [IntKind.wrap_u64]; omega
  have H1 := Lib.hid (fun W => rput_own 1 0 1 (by decide) (by decide) m.k h.k.1 (by have := h.k; omega) (by decide) (zs := []) (ys := putOf 1 m.k) rfl rfl W none 0 RI.nil_ (fun _ => rfl))
  have H2 := Lib.hid (fun W A c hz hA => rput_own 1 1 2 (by decide) (by decide) m.c h.c.1 (by have := h.c; omega) (by decide) (zs := putOf 1 m.k) (ys := putOf 1 m.k ++ putOf 1 m.c) rfl rfl W A c hz hA)
  have H3 := Lib.hid (fun W A c hz hA => rput_own 2 2 4 (by decide) (by decide) x hx0 (by omega) (by decide) (zs := putOf 1 m.k ++ putOf 1 m.c) (ys := putOf 1 m.k ++ putOf 1 m.c ++ putOf 2 x) rfl rfl W A c hz hA)
  have H4 := Lib.hid (fun W A c hz hA => rput_own 4 4 8 (by decide) (by decide) m.r h.r.1 (by have := h.r; omega) (by decide) (zs := putOf 1 m.k ++ putOf 1 m.c ++ putOf 2 x) (ys := hdI m x) rfl (show _ = hdI m x by unfold hdI; rw [List.append_assoc (putOf 1 m.k ++ putOf 1 m.c)]) W A c hz hA)
  have B1 := Lib.hid (putOf_by 1 m.k)
  have B2 := Lib.hid ((putOf_by 1 m.k).app (putOf_by 1 m.c))
  have B3 := Lib.hid (((putOf_by 1 m.k).app (putOf_by 1 m.c)).app (putOf_by 2 x))
  have hd := h.d
  clear h hx0 hx1
  go_enter Try.func23, Try.ntmps23
  go_wp2_with fail
  refine Calls.mono (H1.out _) ?_
  rintro e w1 ⟨v1, rfl, ho, hb⟩
  obtain ⟨A1, c1, rfl, r1, ha1, -⟩ := own_ri B1.out.wf ho
  have K1 := Lib.hid (K0.out.below hb K0.out.lt)
  have L1 := Lib.hid (L0.out.trans (hb.mono L0.out.size))
  have R1 := Lib.hid r1
  have N1 := Lib.hid ha1
  clear hb ho r1 ha1 f0 f1 f2 f3 f4
  obtain ⟨f0, f1, f2, f3, f4⟩ := K1.out.i5
  go_wp2_with fail
  refine Calls.mono (H2.out _ _ _ R1.out N1.out) ?_
  rintro e w2 ⟨v2, rfl, ho, hb⟩
  obtain ⟨A2, c2, rfl, r2, ha2, -⟩ := own_ri B2.out.wf ho
  have K2 := Lib.hid (K1.out.below hb K1.out.lt)
  have L2 := Lib.hid (L1.out.trans (hb.mono L1.out.size))
  have R2 := Lib.hid r2
  have N2 := Lib.hid ha2
  clear hb ho r2 ha2 f0 f1 f2 f3 f4
  obtain ⟨f0, f1, f2, f3, f4⟩ := K2.out.i5
  go_wp2_with fail
  refine Calls.mono (H3.out _ _ _ R2.out N2.out) ?_
  rintro e w3 ⟨v3, rfl, ho, hb⟩
  obtain ⟨A3, c3, rfl, r3, ha3, -⟩ := own_ri B3.out.wf ho
  have K3 := Lib.hid (K2.out.below hb K2.out.lt)
  have L3 := Lib.hid (L2.out.trans (hb.mono L2.out.size))
  have R3 := Lib.hid r3
  have N3 := Lib.hid ha3
  clear hb ho r3 ha3 f0 f1 f2 f3 f4
  obtain ⟨f0, f1, f2, f3, f4⟩ := K3.out.i5
  go_wp2_with fail
  refine Calls.mono (H4.out _ _ _ R3.out N3.out) ?_
  rintro e w4 ⟨v4, rfl, ho, hb⟩
  have K4 := Lib.hid (K3.out.below hb K3.out.lt)
  have L4 := Lib.hid (L3.out.trans (hb.mono L3.out.size))
  have O4 := Lib.hid ho
  have S4 : Hid (w3.heap.size ≤ w4.heap.size) := Lib.hid hb.size
  have T3 := Lib.hid L3.out.size
  clear hb ho f0 f1 f2 f3 f4
  obtain ⟨f0, f1, f2, f3, f4⟩ := K4.out.i5
  go_wp2_with (at_builtin; refine wpList_apps _ rfl (.tmp 24) (.tmp 26) rfl w3.heap.size _ 8 (hdI m x) rfl O4.out m.d rfl (by omega) S4.out ?_; intro v5 w5 hown5 hg5; have O5 := Lib.hid hown5; have L5 := Lib.hid (L4.out.grown hg5 L4.out.size (fun k hk => Nat.le_trans T3.out (own_basek O4.out k hk))); clear hown5 hg5)
  go_ret
  exact ⟨_, rfl, ⟨O5.out.1, O5.out.2.imp id fun ⟨g, cap, cur, a, b, c⟩ => ⟨g, cap, cur, a, Nat.le_trans T3.out b, c⟩⟩, L5.out⟩

/-- The two addresses that a call begins with. -/
theorem s_args (a b : Ad) (w : World) : ∃ W0, W0 = (w.alloc (.cells (acs a) 26)).alloc (.cells (acs b) 26) ∧ Blk W0 w.heap.size 26 (acs a) ∧ Blk W0 (w.heap.size + 1) 26 (acs b) ∧ Below w.heap.size w W0 := by
  refine ⟨_, rfl, (Blk.new w _ _).alloc _, ?_, ((Below.refl _ w).alloc (Nat.le_refl _) _).alloc (by simp) _⟩
  have := Blk.new (w.alloc (.cells (acs a) 26)) 26 (acs b)
  simpa using this
set_option maxHeartbeats 4000000 in
theorem rsum_any (six : Bool) (a b : Ad) (ha : WfA a) (hb : WfA b) (hs : six = true → a.s = true) (w : World) (A : Option Addr) (n c : Nat) (zs : List Int) (hn : n + 9 ≤ 140737488355328) (hz : RI .u8 w w.heap.size A n zs) :
    Calls Try.prog 24 #[.slice A n c, .bool six, a.val, b.val] w fun e w' => e = .returned (.int .u16 (SumI six a b n zs)) ∧ Below w.heap.size w w' := by
  obtain ⟨W0, hW0, ka, kb, hL0⟩ := s_args a b w
  have KA := Lib.hid ka
  have KB := Lib.hid kb
  have L0 := Lib.hid hL0
  have H1 := Lib.hid (refSum_any W0 W0.heap.size A n c zs ((hz.below hL0).more hL0.size) (Nat.le_refl _) hn)
  have HT : Hid (0 ≤ tot 0 zs) := Lib.hid (tot_nonneg hz.by_.bysI 0)
  rw [hW0] at H1
  clear ka kb hL0 hz
  cases six with
  | false =>
    clear ha hb hs hn
    go_enter Try.func24, Try.ntmps24
    go_wp2_with fail
    refine Calls.mono H1.out ?_
    rintro e w1 ⟨rfl, hb⟩
    replace hb : Below W0.heap.size W0 w1 := by rw [hW0]; exact hb
    have L1 := Lib.hid (L0.out.trans (hb.mono L0.out.size))
    clear hb hW0
    go_wp2
    go_ret
    exact ⟨ret_k (by unfold SumI; rw [psI_four, Int.add_zero]), L1.out⟩
  | true =>
    have hsa := hs rfl
    have HP := Lib.hid (fun W => refPseudo_six W a.h a.l b.h b.l n 58 b.s ha.h.1 ha.l.1 hb.h.1 hb.l.1 ha.h.2 ha.l.2 hb.h.2 hb.l.2)
    have HQ : Hid (psI true a b n = tot 0 (psd6 a.h a.l b.h b.l n 58)) := Lib.hid rfl
    obtain ⟨PS, hPS⟩ : ∃ x, tot 0 (psd6 a.h a.l b.h b.l n 58) = x := ⟨_, rfl⟩
    have hP0 : 0 ≤ PS := by rw [← hPS]; exact tot_nonneg (psd6_bys _ _ _ _ _ _) 0
    rw [hPS] at HP HQ
    have HA := Lib.hid (fun W => refAdd_any (fo (tot 0 zs)) (fo PS) (W16.fo HT.out) (W16.fo hP0) W)
    have HF : Hid (ad (fo (tot 0 zs)) (fo PS) = SumI true a b n zs) := Lib.hid (by rw [ad_fo_fo HT.out hP0]; unfold SumI; rw [HQ.out])
    have HS := Lib.hid hsa
    clear ha hb hs hPS hP0 HQ hsa hn
    go_enter Try.func24, Try.ntmps24
    go_wp2_with fail
    refine Calls.mono H1.out ?_
    rintro e w1 ⟨rfl, hb⟩
    replace hb : Below W0.heap.size W0 w1 := by rw [hW0]; exact hb
    have L1 := Lib.hid (L0.out.trans (hb.mono L0.out.size))
    have KA1 := Lib.hid (KA.out.below hb KA.out.lt)
    have KB1 := Lib.hid (KB.out.below hb KB.out.lt)
    clear hb hW0
    obtain ⟨f0, f1, f2⟩ := KA1.out.i3
    obtain ⟨g0, g1, g2⟩ := KB1.out.i3
    rw [HS.out] at f0
    go_wp2_with fail
    refine Calls.mono (HP.out _) ?_
    rintro e w2 ⟨rfl, hb⟩
    have L2 := Lib.hid (L1.out.trans (hb.mono L1.out.size))
    clear hb f0 f1 f2 g0 g1 g2
    go_wp2_with fail
    refine Calls.mono (HA.out _) ?_
    rintro e w3 ⟨rfl, rfl⟩
    go_wp2
    go_ret
    exact ⟨ret_k HF.out, L2.out⟩

set_option maxHeartbeats 4000000 in
theorem rerr_any (m : Ms) (w : World) :
    Calls Try.prog 18 #[m.val] w fun e w' => e = .returned (.bool (errI m)) ∧ Below w.heap.size w w' := by
  have K0 := Blk.new w 23 (mcs m)
  have L0 := Lib.hid ((Below.refl _ w).alloc (Nat.le_refl _) (.cells (mcs m) 23))
  obtain ⟨f0, f1, f2, f3, f4⟩ := K0.i5
  clear K0
  obtain ⟨S, k, c, r, d⟩ := m
  cases S with
  | true =>
    have HX : Hid (errI ⟨true, k, c, r, d⟩ = (decide (0 ≤ k) && decide (k ≤ 127))) := Lib.hid rfl
    by_cases h0 : 0 ≤ k
    · have HY : Hid (decide (k ≤ 127) = errI ⟨true, k, c, r, d⟩) := Lib.hid (by rw [HX.out]; simp [h0])
      go_enter Try.func18, Try.ntmps18
      go_wp2
      go_ret
      exact ⟨ret_bool HY.out, L0.out⟩
    · have HY : Hid (false = errI ⟨true, k, c, r, d⟩) := Lib.hid (by rw [HX.out]; simp; intros; omega)
      go_enter Try.func18, Try.ntmps18
      go_wp2
      go_ret
      exact ⟨ret_bool HY.out, L0.out⟩
  | false =>
    have HX : Hid (errI ⟨false, k, c, r, d⟩ = (k == 3 || k == 4 || k == 5 || k == 11 || k == 12)) := Lib.hid rfl
    by_cases c0 : k = 3
    · subst c0
      go_enter Try.func18, Try.ntmps18
      go_wp2
      go_ret
      exact ⟨ret_bool (by rw [HX.out]; rfl), L0.out⟩
    have b0 : (k == 3) = false := by simpa using c0
    by_cases c1 : k = 4
    · subst c1
      clear c0
      go_enter Try.func18, Try.ntmps18
      go_wp2
      go_ret
      exact ⟨ret_bool (by rw [HX.out]; rfl), L0.out⟩
    have b1 : (k == 4) = false := by simpa using c1
    by_cases c2 : k = 5
    · subst c2
      clear c0 c1
      go_enter Try.func18, Try.ntmps18
      go_wp2
      go_ret
      exact ⟨ret_bool (by rw [HX.out]; rfl), L0.out⟩
    have b2 : (k == 5) = false := by simpa using c2
    by_cases c3 : k = 11
    · subst c3
      clear c0 c1 c2
      go_enter Try.func18, Try.ntmps18
      go_wp2
      go_ret
      exact ⟨ret_bool (by rw [HX.out]; rfl), L0.out⟩
    have b3 : (k == 11) = false := by simpa using c3
    have HX2 : Hid ((k == 12) = errI ⟨false, k, c, r, d⟩) := Lib.hid (by rw [HX.out, b0, b1, b2, b3]; rfl)
    clear c0 c1 c2 c3
    go_enter Try.func18, Try.ntmps18
    go_wp2
    go_ret
    exact ⟨ret_bool (by rw [← HX2.out]), L0.out⟩

set_option maxRecDepth 100000 in
set_option maxHeartbeats 8000000 in
theorem rrep_any (m : Ms) (w : World) :
    Calls Try.prog 16 #[m.val] w fun e w' => e = .returned (rpV m) ∧ Below w.heap.size w w' := by
  obtain ⟨W0, hW0, km, kr, hsz⟩ := an_args m 23 w
  have KR := Lib.hid kr
  have L0 := Lib.hid hsz
  obtain ⟨f0, f1, f2, f3, f4⟩ := km.i5
  obtain ⟨S, k, c, rr, d⟩ := m
  by_cases hc : c = 0
  · subst hc
    cases S with
    | true =>
      by_cases hk : k = 128
      · subst hk
        have HX : Hid (rpI ⟨true, 128, 0, rr, d⟩ = (⟨true, 129, 0, rr, d⟩, 0)) := Lib.hid (by unfold rpI; rw [if_pos ⟨rfl, rfl⟩]; rfl)
        obtain ⟨W1, hW1, km1, kr1, hL1⟩ := an_args ⟨true, 129, 0, rr, d⟩ 23 w
        have KR1 := Lib.hid kr1
        have L1 := Lib.hid hL1
        obtain ⟨g0, g1, g2, g3, g4⟩ := km1.i5
        rw [hW0] at f0 f1 f2 f3 f4
        rw [hW1] at g0 g1 g2 g3 g4 KR1 L1
        clear hsz km kr km1 kr1 hL1 hW0 hW1
        go_enter Try.func16, Try.ntmps16
        go_wp2_with (refine wpList_st5 rfl (.tmp 2) (.tmp 31) rfl (w.heap.size + 1) ⟨true, 129, 0, rr, d⟩ noM rfl rfl KR1.out ?_; intro w6 hk6 hb6; have K6 := Lib.hid hk6; have L6 := Lib.hid (L1.out.trans (hb6.mono (by omega))); clear hk6 hb6)
        obtain ⟨q0, q1, q2, q3, q4⟩ := K6.out.i5
        exact bodyPost_ret (v := .tuple #[Ms.val ⟨true, 129, 0, rr, d⟩, .int .i64 0]) (by simp [results, Try.results16, go_sem, q0, q1, q2, q3, q4]) rfl ⟨by unfold rpV; rw [HX.out], L6.out⟩
      · have HX : Hid (rpI ⟨true, k, 0, rr, d⟩ = (noM, 70)) := Lib.hid (by unfold rpI; rw [if_neg (fun h => hk h.2)])
        have bk : (k == 128) = false := by simpa using hk
        rw [hW0] at f0 f1 f2 f3 f4
        clear hsz km kr
        go_enter Try.func16, Try.ntmps16
        rw [hW0] at KR L0
        go_wp2_with (refine wpList_st5 rfl (.tmp 2) (.tmp 26) rfl (w.heap.size + 1) noM noM rfl rfl KR.out ?_; intro w6 hk6 hb6; have K6 := Lib.hid hk6; have L6 := Lib.hid (L0.out.trans (hb6.mono (by omega))); clear hk6 hb6)
        obtain ⟨q0, q1, q2, q3, q4⟩ := K6.out.i5
        exact bodyPost_ret (v := .tuple #[noM.val, .int .i64 70]) (by simp [results, Try.results16, go_sem, noM, q0, q1, q2, q3, q4]) rfl ⟨by unfold rpV; rw [HX.out], L6.out⟩
    | false =>
      by_cases hk : k = 8
      · subst hk
        have HX : Hid (rpI ⟨false, 8, 0, rr, d⟩ = (⟨false, 0, 0, rr, d⟩, 0)) := Lib.hid (by unfold rpI; rw [if_pos ⟨rfl, rfl⟩]; rfl)
        obtain ⟨W1, hW1, km1, kr1, hL1⟩ := an_args ⟨false, 0, 0, rr, d⟩ 23 w
        have KR1 := Lib.hid kr1
        have L1 := Lib.hid hL1
        obtain ⟨g0, g1, g2, g3, g4⟩ := km1.i5
        rw [hW0] at f0 f1 f2 f3 f4
        rw [hW1] at g0 g1 g2 g3 g4 KR1 L1
        clear hsz km kr km1 kr1 hL1 hW0 hW1
        go_enter Try.func16, Try.ntmps16
        go_wp2_with (refine wpList_st5 rfl (.tmp 2) (.tmp 31) rfl (w.heap.size + 1) ⟨false, 0, 0, rr, d⟩ noM rfl rfl KR1.out ?_; intro w6 hk6 hb6; have K6 := Lib.hid hk6; have L6 := Lib.hid (L1.out.trans (hb6.mono (by omega))); clear hk6 hb6)
        obtain ⟨q0, q1, q2, q3, q4⟩ := K6.out.i5
        exact bodyPost_ret (v := .tuple #[Ms.val ⟨false, 0, 0, rr, d⟩, .int .i64 0]) (by simp [results, Try.results16, go_sem, q0, q1, q2, q3, q4]) rfl ⟨by unfold rpV; rw [HX.out], L6.out⟩
      · have HX : Hid (rpI ⟨false, k, 0, rr, d⟩ = (noM, 70)) := Lib.hid (by unfold rpI; rw [if_neg (fun h => hk h.2)])
        have bk : (k == 8) = false := by simpa using hk
        rw [hW0] at f0 f1 f2 f3 f4
        clear hsz km kr
        go_enter Try.func16, Try.ntmps16
        rw [hW0] at KR L0
        go_wp2_with (refine wpList_st5 rfl (.tmp 2) (.tmp 26) rfl (w.heap.size + 1) noM noM rfl rfl KR.out ?_; intro w6 hk6 hb6; have K6 := Lib.hid hk6; have L6 := Lib.hid (L0.out.trans (hb6.mono (by omega))); clear hk6 hb6)
        obtain ⟨q0, q1, q2, q3, q4⟩ := K6.out.i5
        exact bodyPost_ret (v := .tuple #[noM.val, .int .i64 70]) (by simp [results, Try.results16, go_sem, noM, q0, q1, q2, q3, q4]) rfl ⟨by unfold rpV; rw [HX.out], L6.out⟩
  · have HX : Hid (rpI ⟨S, k, c, rr, d⟩ = (noM, 70)) := Lib.hid (by unfold rpI; rw [if_neg (fun h => hc h.1)])
    have bc : (c == 0) = false := by simpa using hc

    cases S with
    | true =>
      rw [hW0] at f0 f1 f2 f3 f4
      clear hsz km kr
      go_enter Try.func16, Try.ntmps16
      rw [hW0] at KR L0
      go_wp2
      exact bodyPost_ret (v := .tuple #[noM.val, .int .i64 70]) (by simp [results, Try.results16, go_sem, noM]) rfl ⟨by unfold rpV; rw [HX.out], L0.out⟩
    | false =>
      rw [hW0] at f0 f1 f2 f3 f4
      clear hsz km kr
      go_enter Try.func16, Try.ntmps16
      rw [hW0] at KR L0
      go_wp2
      exact bodyPost_ret (v := .tuple #[noM.val, .int .i64 70]) (by simp [results, Try.results16, go_sem, noM]) rfl ⟨by unfold rpV; rw [HX.out], L0.out⟩
end Go.Proofs.Ytljdebpemdjliaa
