/-
  crosswaylaw13.EpochRefuses returns true for every input, and leaves its arguments alone.
  Conditions: none of our own.
-/
import Derived.Test.YtakeodnebegbhaaEpW
namespace Go.Proofs.Ytakeodnebegbhaa
open Go.ChangeShapes Go.WideShapes Go.ChangeAt Go.RowKit
set_option linter.unusedVariables false
namespace ERef
set_option maxRecDepth 100000 in
set_option maxHeartbeats 4000000 in
theorem walk (w : World) (a0 : Int) (w0 : (Lit.int .i64 a0).wf = true) (a1 : Option Addr) (l1 c1 : Nat) (z1 : List Stp) (w1 : IsStp w a1 l1 z1) (a2 : Int) (w2 : (Lit.int .i64 a2).wf = true) :
    Calls Try.prog 7 #[.int .i64 a0, .slice a1 l1 c1, .int .i64 a2] w fun e w' => e = .returned (.bool true) ∧ Below w.heap.size w w' := by
  have hb0 := i64_bd w0
  have h15 := i64_and15 a0
  obtain ⟨k, hk⟩ : ∃ k : Nat, a0 % 16 = (k : Int) := ⟨(a0 % 16).toNat, by omega⟩
  have hk16 : k < 16 := by omega
  rw [hk] at h15
  obtain ⟨R, hR⟩ : ∃ R : Nat, k + 1 = R := ⟨_, rfl⟩
  have j0 : IntKind.i64.wrap (1 + (k : Int)) = (R : Int) := by rw [IntKind.wrap_i64]; omega
  have hR1 : 1 ≤ R ∧ R ≤ 16 := by omega
  have HNw := Lib.hid (fun W => newP_ok R 0 hR1.1 hR1.2 W)
  have HZ := Lib.hid w1
  clear hk hb0 w0 w1 hR hk16
  go_enter Try.func7, Try.ntmps7
  go_wp2_with fail
  refine Calls.mono (awake_yes w) ?_
  rintro e x1 ⟨rfl, hb1⟩
  have B1 := Lib.hid hb1
  clear hb1
  go_wp2_with fail
  refine Calls.mono (HNw.out x1) ?_
  rintro e x2 ⟨d, S2, rfl, hE, hb, hs⟩
  have E2 : Hid (Std w x2 d S2 [0] (List.replicate R (-1))) := Lib.hid ⟨hE, B1.out.trans (hb.mono B1.out.size), fun s h => Nat.le_trans B1.out.size (hs s h)⟩
  clear hE hb hs HNw
  go_wp2
  go_loopw [10] (fun iv wr => ∃ (j : Nat) (S : List Nat) (all ins : List Int), iv = .int .i64 (j : Int) ∧ j ≤ l1 ∧ j ≤ 100 ∧ Hid (all.length ≤ j + 1 ∧ ins.length = R) ∧ Hid (Std w wr d S all ins)) (fun iv _ => 100 - (intOf iv).toNat)
  case atStart => exact ⟨0, S2, [0], List.replicate R (-1), rfl, Nat.zero_le _, by omega, Lib.hid ⟨by simp, by simp⟩, E2⟩
  case round =>
    obtain ⟨j, S, all, ins, rfl, hj, hj2, hA, hE⟩ := hrel
    by_cases hlt : j < l1 ∧ j < 100
    · obtain ⟨h1, h2⟩ := hlt
      obtain ⟨g, o, q1, q2, rfl, hg, -, c0, c1, -, -⟩ := HZ.out.cells hE.out.bel h1
      have hjI : (j : Int) < l1 := by omega
      have hjI2 : (j : Int) < 100 := by omega
      have hj0 : (0 : Int) ≤ j := by omega
      have j3 : IntKind.i64.wrap ((j : Int) + 1) = (j : Int) + 1 := by rw [IntKind.wrap_i64]; omega
      have k3 := i64_and3 q1
      have k15 := i64_and15 q2
      have hm3 : 0 ≤ q1 % 4 ∧ q1 % 4 < 4 := by omega
      have hm15 : 0 ≤ q2 % 16 ∧ q2 % 16 < 16 := by omega
      obtain ⟨kd, hkd⟩ : ∃ kd, q1 % 4 = kd := ⟨_, rfl⟩
      obtain ⟨rr, hrr⟩ : ∃ rr, q2 % 16 = rr := ⟨_, rfl⟩
      rw [hkd] at k3 hm3
      rw [hrr] at k15 hm15
      have j5 : IntKind.i64.wrap (1 + rr) = 1 + rr := by rw [IntKind.wrap_i64]; omega
      have HLn : Hid (all.length ≤ 90000) := Lib.hid (by have := hA.out; omega)
      have HP := Lib.hid (pubP d S all ins ((j : Int) + 1) HLn.out wr hE.out.ep)
      have HN := Lib.hid (entP d S all ins (1 + rr) HLn.out wr hE.out.ep)
      have HV := Lib.hid (levP d S all ins (1 + rr) HLn.out wr hE.out.ep)
      clear hkd hrr hg
      by_cases kd0 : kd = 0
      · subst kd0
        have b0 : ((0 : Int) == 0) = true := by decide
        go_wp2_with fail
        refine Calls.mono HP.out ?_
        rintro e w4 ⟨A, c, S', rfl, hN, hE4, hG⟩
        have HE4 := Lib.hid (hE.out.go hE4 hG)
        clear hN hE4 hG HP HN HV
        go_wp2
        go_roundw
        case rel => exact ⟨j + 1, S', all ++ [(j : Int) + 1], ins, by go_num, h1, h2, Lib.hid (by have := hA.out; simp; omega), HE4⟩
        case measure => simp [intOf]; omega
      · by_cases kd1 : kd = 1
        · subst kd1
          have b0 : ((1 : Int) == 0) = false := by decide
          have b1 : ((1 : Int) == 1) = true := by decide
          go_wp2_with fail
          refine Calls.mono HN.out ?_
          rintro e w4 ⟨S', rfl, hE4, hG⟩
          have HE4 := Lib.hid (hE.out.go hE4 hG)
          clear hE4 hG HP HN HV
          go_wp2
          go_roundw
          case rel => exact ⟨j + 1, S', all, entI all ins (1 + rr), by go_num, h1, h2, Lib.hid (by have := hA.out; rw [entI_len]; omega), HE4⟩
          case measure => simp [intOf]; omega
        · have b0 : (kd == 0) = false := by simpa using kd0
          have b1 : (kd == 1) = false := by simpa using kd1
          go_wp2_with fail
          refine Calls.mono HV.out ?_
          rintro e w4 ⟨A, c, S', rfl, hN, hE4, hG⟩
          have HE4 := Lib.hid (hE.out.go hE4 hG)
          clear hN hE4 hG HP HN HV
          go_wp2
          go_roundw
          case rel => exact ⟨j + 1, S', all, levI ins (1 + rr), by go_num, h1, h2, Lib.hid (by have := hA.out; rw [levI_len]; omega), HE4⟩
          case measure => simp [intOf]; omega
    · have HLn : Hid (all.length ≤ 90000) := Lib.hid (by have := hA.out; omega)
      rcases (show ¬ j < l1 ∨ (j < l1 ∧ ¬ j < 100) by omega) with h1 | ⟨h1, h2⟩
      · have hjI : ¬ (j : Int) < l1 := by omega
        clear hlt h1
        have HA := Lib.hid hA.out
        have HWl : Hid ((wtE all ins).length ≤ 1000000) := Lib.hid (by have := HLn.out; have h9 := bkE_len (all := all) (lo := lowE all ins) (hi := all.length - 1) (by omega); show (bkE all (lowE all ins) (all.length - 1)).length ≤ 1000000; omega)
        have HW3 := Lib.hid (waitP d S all ins HLn.out wr hE.out.ep)
        go_wp2_with fail
        refine Calls.mono HW3.out ?_
        rintro e w3 ⟨A3, c3, rfl, hN3, hE3, hT3⟩
        obtain ⟨S3, hS⟩ : ∃ S3, S3 = S := ⟨_, rfl⟩
        have E3 := Lib.hid (hE.out.go hE3 (Goes.of_tch hT3))
        have K3 := Lib.hid hN3.kept
        rw [← hS] at E3 K3
        clear hN3 hE3 hT3 hS HW3 hE hA
        have HS := Lib.hid (seeP d S3 all ins a2 HLn.out w3 E3.out.ep)
        by_cases hin : inE ins a2 = true
        · have hrg := inE_rng hin
          have hri : a2 ≤ (R : Int) := by rw [← HA.out.2]; exact hrg.2
          have hr1 := hrg.1
          rw [hin] at HS
          have HIn := Lib.hid hin
          clear hin hrg
          go_wp2_with fail
          refine Calls.mono HS.out ?_
          rintro e w4 ⟨rfl, hE4, hT4⟩
          have E4 := Lib.hid (E3.out.go hE4 (Goes.of_tch hT4))
          have K4 := Lib.hid (K3.out.go (Goes.of_tch hT4))
          have HN := Lib.hid (entP d S3 all ins a2 HLn.out w4 E4.out.ep)
          rw [entV_no (outE_in HIn.out), entN_no (outE_in HIn.out), entI_no (outE_in HIn.out)] at HN
          clear hE4 hT4 HS E3 K3
          go_wp2_with fail
          refine Calls.mono HN.out ?_
          rintro e w5 ⟨S5, rfl, hE5, hG5⟩
          have E5 := Lib.hid (E4.out.go hE5 hG5)
          have K5 := Lib.hid (K4.out.go hG5)
          have HS := Lib.hid (seeP d S5 all ins a2 HLn.out w5 E5.out.ep)
          rw [HIn.out] at HS
          clear hE5 hG5 HN E4 K4
          go_wp2_with fail
          refine Calls.mono HS.out ?_
          rintro e w6 ⟨rfl, hE6, hT6⟩
          have E6 := Lib.hid (E5.out.go hE6 (Goes.of_tch hT6))
          have K6 := Lib.hid (K5.out.go (Goes.of_tch hT6))
          have HW := Lib.hid (waitP d S5 all ins HLn.out w6 E6.out.ep)
          have vv : (seeV all ins a2 == seeV all ins a2) = true := by simp
          clear hE6 hT6 HS E5 K5
          go_wp2_with fail
          refine Calls.mono HW.out ?_
          rintro e w8 ⟨A8, c8, rfl, hN8, hE8, hT8⟩
          have E8 := Lib.hid (E6.out.go hE8 (Goes.of_tch hT8))
          have K8 := Lib.hid (K6.out.go (Goes.of_tch hT8))
          have HSm := Lib.hid (ret_as (v' := .bool true) (same_any A8 A3 _ _ c8 c3 (wtE all ins) (wtE all ins) HWl.out HWl.out w8 hN8.sl K8.out.sl) (congrArg Value.bool (decide_eq_true rfl)))
          clear hN8 hE8 hT8 HW E6 K6
          go_wp2_with fail
          refine Calls.mono HSm.out ?_
          rintro e w9 ⟨rfl, hT9⟩
          have E9 := Lib.hid (E8.out.tch0 hT9)
          clear hT9 HSm E8
          go_wp2
          go_ret
          exact ⟨rfl, E9.out.bel⟩
        · have hin : inE ins a2 = false := by simpa using hin
          rw [hin, seeV_no hin] at HS
          have HIn := Lib.hid hin
          have hcase : (a2 < 1 ∨ (R : Int) < a2) ∨ (1 ≤ a2 ∧ a2 ≤ (R : Int)) := by omega
          clear hin
          go_wp2_with fail
          refine Calls.mono HS.out ?_
          rintro e w4 ⟨rfl, hE4, hT4⟩
          have E4 := Lib.hid (E3.out.go hE4 (Goes.of_tch hT4))
          have K4 := Lib.hid (K3.out.go (Goes.of_tch hT4))
          have HV := Lib.hid (levP d S3 all ins a2 HLn.out w4 E4.out.ep)
          rw [levV_no HIn.out, levN_no HIn.out, levI_no HIn.out] at HV
          clear hE4 hT4 HS E3 K3
          rcases hcase with (h1 | h1) | ⟨h1, h2⟩
          · have HO : Hid (outE ins a2 = false) := Lib.hid (inE_bad (.inl h1)).2
            have i1 : ¬ (1 : Int) ≤ a2 := by omega
            clear h1
            go_wp2_with fail
            refine Calls.mono HV.out ?_
            rintro e w5 ⟨A5, c5, S5, rfl, hN5, hE5, hG5⟩
            have E5 := Lib.hid (E4.out.go hE5 hG5)
            have K5 := Lib.hid (K4.out.go hG5)
            have HN := Lib.hid (entP d S5 all ins a2 HLn.out w5 E5.out.ep)
            rw [entV_no HO.out, entN_no HO.out] at HN
            clear hN5 hE5 hG5 HV E4 K4
            go_wp2_with fail
            refine Calls.mono HN.out ?_
            rintro e w6 ⟨S6, rfl, hE6, hG6⟩
            have E6 := Lib.hid (E5.out.go hE6 hG6)
            clear hE6 hG6 HN E5 K5
            go_wp2
            go_ret
            exact ⟨rfl, E6.out.bel⟩
          · have HO : Hid (outE ins a2 = false) := Lib.hid (inE_bad (.inr (by rw [HA.out.2]; exact h1))).2
            have i1 : (1 : Int) ≤ a2 := by omega
            have i2 : ¬ a2 ≤ (R : Int) := by omega
            have i3 : decide (a2 ≤ (R : Int)) = false := decide_eq_false i2
            go_wp2_with fail
            refine Calls.mono HV.out ?_
            rintro e w5 ⟨A5, c5, S5, rfl, hN5, hE5, hG5⟩
            have E5 := Lib.hid (E4.out.go hE5 hG5)
            have K5 := Lib.hid (K4.out.go hG5)
            have HN := Lib.hid (entP d S5 all ins a2 HLn.out w5 E5.out.ep)
            rw [entV_no HO.out, entN_no HO.out] at HN
            clear hN5 hE5 hG5 HV E4 K4
            go_wp2_with fail
            refine Calls.mono HN.out ?_
            rintro e w6 ⟨S6, rfl, hE6, hG6⟩
            have E6 := Lib.hid (E5.out.go hE6 hG6)
            clear hE6 hG6 HN E5 K5
            go_wp2
            go_ret
            exact ⟨rfl, E6.out.bel⟩
          · have HO : Hid (outE ins a2 = true) := Lib.hid (outE_of h1 (by rw [HA.out.2]; exact h2) HIn.out)
            go_wp2_with fail
            refine Calls.mono HV.out ?_
            rintro e w5 ⟨A5, c5, S5, rfl, hN5, hE5, hG5⟩
            have E5 := Lib.hid (E4.out.go hE5 hG5)
            have K5 := Lib.hid (K4.out.go hG5)
            have HN := Lib.hid (entP d S5 all ins a2 HLn.out w5 E5.out.ep)
            rw [entV_yes HO.out, entN_yes HO.out] at HN
            clear hN5 hE5 hG5 HV E4 K4
            go_wp2_with fail
            refine Calls.mono HN.out ?_
            rintro e w6 ⟨S6, rfl, hE6, hG6⟩
            have E6 := Lib.hid (E5.out.go hE6 hG6)
            have K6 := Lib.hid (K5.out.go hG6)
            have HC := Lib.hid (curP d S6 all (entI all ins a2) HLn.out w6 E6.out.ep)
            have vv : (curE all == curE all) = true := by simp
            clear hE6 hG6 HN E5 K5
            go_wp2_with fail
            refine Calls.mono HC.out ?_
            rintro e w7 ⟨rfl, hE7, hT7⟩
            have E7 := Lib.hid (E6.out.go hE7 (Goes.of_tch hT7))
            have K7 := Lib.hid (K6.out.go (Goes.of_tch hT7))
            have HW := Lib.hid (waitP d S6 all (entI all ins a2) HLn.out w7 E7.out.ep)
            rw [wtE_ent] at HW
            clear hE7 hT7 HC E6 K6
            go_wp2_with fail
            refine Calls.mono HW.out ?_
            rintro e w8 ⟨A8, c8, rfl, hN8, hE8, hT8⟩
            have E8 := Lib.hid (E7.out.go hE8 (Goes.of_tch hT8))
            have K8 := Lib.hid (K7.out.go (Goes.of_tch hT8))
            have HSm := Lib.hid (ret_as (v' := .bool true) (same_any A8 A3 _ _ c8 c3 (wtE all ins) (wtE all ins) HWl.out HWl.out w8 hN8.sl K8.out.sl) (congrArg Value.bool (decide_eq_true rfl)))
            clear hN8 hE8 hT8 HW E7 K7
            go_wp2_with fail
            refine Calls.mono HSm.out ?_
            rintro e w9 ⟨rfl, hT9⟩
            have E9 := Lib.hid (E8.out.tch0 hT9)
            clear hT9 HSm E8
            go_wp2
            go_ret
            exact ⟨rfl, E9.out.bel⟩
      · have hjI : (j : Int) < l1 := by omega
        have hjI2 : ¬ (j : Int) < 100 := by omega
        clear hlt h1 h2
        have HA := Lib.hid hA.out
        have HWl : Hid ((wtE all ins).length ≤ 1000000) := Lib.hid (by have := HLn.out; have h9 := bkE_len (all := all) (lo := lowE all ins) (hi := all.length - 1) (by omega); show (bkE all (lowE all ins) (all.length - 1)).length ≤ 1000000; omega)
        have HW3 := Lib.hid (waitP d S all ins HLn.out wr hE.out.ep)
        go_wp2_with fail
        refine Calls.mono HW3.out ?_
        rintro e w3 ⟨A3, c3, rfl, hN3, hE3, hT3⟩
        obtain ⟨S3, hS⟩ : ∃ S3, S3 = S := ⟨_, rfl⟩
        have E3 := Lib.hid (hE.out.go hE3 (Goes.of_tch hT3))
        have K3 := Lib.hid hN3.kept
        rw [← hS] at E3 K3
        clear hN3 hE3 hT3 hS HW3 hE hA
        have HS := Lib.hid (seeP d S3 all ins a2 HLn.out w3 E3.out.ep)
        by_cases hin : inE ins a2 = true
        · have hrg := inE_rng hin
          have hri : a2 ≤ (R : Int) := by rw [← HA.out.2]; exact hrg.2
          have hr1 := hrg.1
          rw [hin] at HS
          have HIn := Lib.hid hin
          clear hin hrg
          go_wp2_with fail
          refine Calls.mono HS.out ?_
          rintro e w4 ⟨rfl, hE4, hT4⟩
          have E4 := Lib.hid (E3.out.go hE4 (Goes.of_tch hT4))
          have K4 := Lib.hid (K3.out.go (Goes.of_tch hT4))
          have HN := Lib.hid (entP d S3 all ins a2 HLn.out w4 E4.out.ep)
          rw [entV_no (outE_in HIn.out), entN_no (outE_in HIn.out), entI_no (outE_in HIn.out)] at HN
          clear hE4 hT4 HS E3 K3
          go_wp2_with fail
          refine Calls.mono HN.out ?_
          rintro e w5 ⟨S5, rfl, hE5, hG5⟩
          have E5 := Lib.hid (E4.out.go hE5 hG5)
          have K5 := Lib.hid (K4.out.go hG5)
          have HS := Lib.hid (seeP d S5 all ins a2 HLn.out w5 E5.out.ep)
          rw [HIn.out] at HS
          clear hE5 hG5 HN E4 K4
          go_wp2_with fail
          refine Calls.mono HS.out ?_
          rintro e w6 ⟨rfl, hE6, hT6⟩
          have E6 := Lib.hid (E5.out.go hE6 (Goes.of_tch hT6))
          have K6 := Lib.hid (K5.out.go (Goes.of_tch hT6))
          have HW := Lib.hid (waitP d S5 all ins HLn.out w6 E6.out.ep)
          have vv : (seeV all ins a2 == seeV all ins a2) = true := by simp
          clear hE6 hT6 HS E5 K5
          go_wp2_with fail
          refine Calls.mono HW.out ?_
          rintro e w8 ⟨A8, c8, rfl, hN8, hE8, hT8⟩
          have E8 := Lib.hid (E6.out.go hE8 (Goes.of_tch hT8))
          have K8 := Lib.hid (K6.out.go (Goes.of_tch hT8))
          have HSm := Lib.hid (ret_as (v' := .bool true) (same_any A8 A3 _ _ c8 c3 (wtE all ins) (wtE all ins) HWl.out HWl.out w8 hN8.sl K8.out.sl) (congrArg Value.bool (decide_eq_true rfl)))
          clear hN8 hE8 hT8 HW E6 K6
          go_wp2_with fail
          refine Calls.mono HSm.out ?_
          rintro e w9 ⟨rfl, hT9⟩
          have E9 := Lib.hid (E8.out.tch0 hT9)
          clear hT9 HSm E8
          go_wp2
          go_ret
          exact ⟨rfl, E9.out.bel⟩
        · have hin : inE ins a2 = false := by simpa using hin
          rw [hin, seeV_no hin] at HS
          have HIn := Lib.hid hin
          have hcase : (a2 < 1 ∨ (R : Int) < a2) ∨ (1 ≤ a2 ∧ a2 ≤ (R : Int)) := by omega
          clear hin
          go_wp2_with fail
          refine Calls.mono HS.out ?_
          rintro e w4 ⟨rfl, hE4, hT4⟩
          have E4 := Lib.hid (E3.out.go hE4 (Goes.of_tch hT4))
          have K4 := Lib.hid (K3.out.go (Goes.of_tch hT4))
          have HV := Lib.hid (levP d S3 all ins a2 HLn.out w4 E4.out.ep)
          rw [levV_no HIn.out, levN_no HIn.out, levI_no HIn.out] at HV
          clear hE4 hT4 HS E3 K3
          rcases hcase with (h1 | h1) | ⟨h1, h2⟩
          · have HO : Hid (outE ins a2 = false) := Lib.hid (inE_bad (.inl h1)).2
            have i1 : ¬ (1 : Int) ≤ a2 := by omega
            clear h1
            go_wp2_with fail
            refine Calls.mono HV.out ?_
            rintro e w5 ⟨A5, c5, S5, rfl, hN5, hE5, hG5⟩
            have E5 := Lib.hid (E4.out.go hE5 hG5)
            have K5 := Lib.hid (K4.out.go hG5)
            have HN := Lib.hid (entP d S5 all ins a2 HLn.out w5 E5.out.ep)
            rw [entV_no HO.out, entN_no HO.out] at HN
            clear hN5 hE5 hG5 HV E4 K4
            go_wp2_with fail
            refine Calls.mono HN.out ?_
            rintro e w6 ⟨S6, rfl, hE6, hG6⟩
            have E6 := Lib.hid (E5.out.go hE6 hG6)
            clear hE6 hG6 HN E5 K5
            go_wp2
            go_ret
            exact ⟨rfl, E6.out.bel⟩
          · have HO : Hid (outE ins a2 = false) := Lib.hid (inE_bad (.inr (by rw [HA.out.2]; exact h1))).2
            have i1 : (1 : Int) ≤ a2 := by omega
            have i2 : ¬ a2 ≤ (R : Int) := by omega
            have i3 : decide (a2 ≤ (R : Int)) = false := decide_eq_false i2
            go_wp2_with fail
            refine Calls.mono HV.out ?_
            rintro e w5 ⟨A5, c5, S5, rfl, hN5, hE5, hG5⟩
            have E5 := Lib.hid (E4.out.go hE5 hG5)
            have K5 := Lib.hid (K4.out.go hG5)
            have HN := Lib.hid (entP d S5 all ins a2 HLn.out w5 E5.out.ep)
            rw [entV_no HO.out, entN_no HO.out] at HN
            clear hN5 hE5 hG5 HV E4 K4
            go_wp2_with fail
            refine Calls.mono HN.out ?_
            rintro e w6 ⟨S6, rfl, hE6, hG6⟩
            have E6 := Lib.hid (E5.out.go hE6 hG6)
            clear hE6 hG6 HN E5 K5
            go_wp2
            go_ret
            exact ⟨rfl, E6.out.bel⟩
          · have HO : Hid (outE ins a2 = true) := Lib.hid (outE_of h1 (by rw [HA.out.2]; exact h2) HIn.out)
            go_wp2_with fail
            refine Calls.mono HV.out ?_
            rintro e w5 ⟨A5, c5, S5, rfl, hN5, hE5, hG5⟩
            have E5 := Lib.hid (E4.out.go hE5 hG5)
            have K5 := Lib.hid (K4.out.go hG5)
            have HN := Lib.hid (entP d S5 all ins a2 HLn.out w5 E5.out.ep)
            rw [entV_yes HO.out, entN_yes HO.out] at HN
            clear hN5 hE5 hG5 HV E4 K4
            go_wp2_with fail
            refine Calls.mono HN.out ?_
            rintro e w6 ⟨S6, rfl, hE6, hG6⟩
            have E6 := Lib.hid (E5.out.go hE6 hG6)
            have K6 := Lib.hid (K5.out.go hG6)
            have HC := Lib.hid (curP d S6 all (entI all ins a2) HLn.out w6 E6.out.ep)
            have vv : (curE all == curE all) = true := by simp
            clear hE6 hG6 HN E5 K5
            go_wp2_with fail
            refine Calls.mono HC.out ?_
            rintro e w7 ⟨rfl, hE7, hT7⟩
            have E7 := Lib.hid (E6.out.go hE7 (Goes.of_tch hT7))
            have K7 := Lib.hid (K6.out.go (Goes.of_tch hT7))
            have HW := Lib.hid (waitP d S6 all (entI all ins a2) HLn.out w7 E7.out.ep)
            rw [wtE_ent] at HW
            clear hE7 hT7 HC E6 K6
            go_wp2_with fail
            refine Calls.mono HW.out ?_
            rintro e w8 ⟨A8, c8, rfl, hN8, hE8, hT8⟩
            have E8 := Lib.hid (E7.out.go hE8 (Goes.of_tch hT8))
            have K8 := Lib.hid (K7.out.go (Goes.of_tch hT8))
            have HSm := Lib.hid (ret_as (v' := .bool true) (same_any A8 A3 _ _ c8 c3 (wtE all ins) (wtE all ins) HWl.out HWl.out w8 hN8.sl K8.out.sl) (congrArg Value.bool (decide_eq_true rfl)))
            clear hN8 hE8 hT8 HW E7 K7
            go_wp2_with fail
            refine Calls.mono HSm.out ?_
            rintro e w9 ⟨rfl, hT9⟩
            have E9 := Lib.hid (E8.out.tch0 hT9)
            clear hT9 HSm E8
            go_wp2
            go_ret
            exact ⟨rfl, E9.out.bel⟩
set_option maxRecDepth 100000 in
theorem contract (H : Type) (enc : TypeId × Value → H) (W : World) (base : Nat) (args : Array Value) (ds gs : List (DataW H)) (before : List MemPlace)
    (hval0 : ∀ (j : Nat) t v, Try.f7.params[j]? = some t → args[j]? = some v → Value.okWide Try.prog W .any base t v)
    (hW : DataW.Whole enc Try.prog Try.f7.params.toList Rows.epochRefusesSpec.vars false W args.toList ds gs before)
    (hsz0 : (DataW.weightsEach Try.prog (Try.f7.params.toList ++ Rows.epochRefusesSpec.plain.varTypes Try.prog) (ds ++ gs)).all (· ≤ reachBytes) = true) :
    Calls Try.prog 7 args W fun e W' => ∃ v, e = .returned v ∧ Rows.epochRefusesSpec.post enc Try.prog Try.f7 false true false false W args v W' := by
  have hsz := hsz0
  clear hsz0
  have hval := hval0
  clear hval0
  have hW' := hW
  obtain ⟨p, q, hA0, hV, rfl, hfz, hnd⟩ := hW
  have hA : DataW.TrodAll enc Try.prog W 0 (fun _ => true) true Try.f7.params.toList args.toList ds p := hA0
  rw [Try.params7] at hA hval hsz
  obtain ⟨v0, vs0, d0, ds0, p0, q0, hargs, rfl, rfl, h0, r0⟩ := trodAll_cons hA
  obtain ⟨v1, vs1, d1, ds1, p1, q1, rfl, rfl, rfl, h1, r1⟩ := trodAll_cons r0
  obtain ⟨v2, vs2, d2, ds2, p2, q2, rfl, rfl, rfl, h2, r2⟩ := trodAll_cons r1
  obtain ⟨rfl, rfl, rfl⟩ := trodAll_nil r2
  obtain rfl : args = #[v0, v1, v2] := by cases args; simp_all
  obtain ⟨rfl, rfl⟩ := trodVars_none hV
  obtain ⟨a0, rfl, rfl, rfl, w0⟩ := open_int Try.underlying3 (hval 0 3 v0 rfl rfl) h0
  obtain ⟨a1, l1, c1, rfl⟩ := okWide_slice Try.underlying22 (hval 1 22 v1 rfl rfl)
  have k1 := h1
  have lt1 : ∀ x ∈ p1, x.block < W.heap.size := by obtain ⟨m, hm⟩ := k1; exact DataW.trod_lt m _ _ _ hm
  obtain ⟨z1, w1⟩ := isStp_of h1
  obtain ⟨a2, rfl, rfl, rfl, w2⟩ := open_int Try.underlying3 (hval 2 3 v2 rfl rfl) h2
  clear hA0
  refine (walk W a0 w0 a1 l1 c1 z1 w1 a2 w2).mono fun e W' ⟨he, bel⟩ => ?_
  subst he
  exact ⟨_, rfl, _, _, _, [], _, [], hW', trodAll_mk1 (shut_bool Try.underlying4 _), (trodAll_cons_mk (shut_int Try.underlying3 w0) (trodAll_cons_mk (Below.trod laidOut (by kernel_rfl) (of_decide_eq_true (by kernel_rfl)) k1 bel lt1) (trodAll_cons_mk (shut_int Try.underlying3 w2) trodAll_mk0))), rfl, bel.frame _, fun h => by cases h⟩

set_option maxRecDepth 100000 in
theorem lifted (os : Os) (started : os.Started) (H : Type) (enc : TypeId × Value → H) :
    ReturnsInHanded {} Try.checked os 7 .any (Rows.epochRefusesSpec.pre6 enc Try.prog Try.f7 Rows.epochRefusesRow.domain false) (Rows.epochRefusesSpec.post enc Try.prog Try.f7 false true false false) := by
  refine returnsInHanded_of_change_sized (C := Try.checked) own started (by kernel_rfl) Try.func7
    (ChangeSpec.witness6 (enc := enc) (C := Try.checked) false ⟨#[], #[.int .i64 0, .slice none 0 0, .int .i64 0], []⟩ 8 (by kernel_rfl) (by kernel_rfl) (by kernel_rfl) (by kernel_rfl)) ?_
  intro W base args ds gs before hval hW _ hsz _
  exact contract H enc W base args ds gs before hval hW hsz

theorem over : Rows.epochRefusesRow.holds Try.pinned (OpenSpec.ofChange Rows.epochRefusesSpec) :=
  OpenClaim.holds_of_wide 7 Try.f7 rfl rfl rfl rfl rfl rfl rfl ⟨rfl, rfl, rfl, rfl, rfl⟩ rfl rfl rfl rfl rfl (by kernel_rfl) Try.func7 (by kernel_rfl)
    (of_decide_eq_true (by kernel_rfl)) (by unfold Func.isWrapper; first | (rw [if_pos (by decide +kernel)]; kernel_rfl) | (rw [if_neg (by decide +kernel)]; exact ⟨rfl, rfl⟩))
    (fun os started H enc _ => lifted os started H enc)

theorem proved : Rows.EpochRefusesSaid := over
#print axioms proved
end ERef
end Go.Proofs.Ytakeodnebegbhaa
