/-
  crosswaylaw13.EpochEmpties returns true for every input, and leaves its arguments alone.
  Conditions: none of our own.
-/
import Derived.Test.YtakeodnebegbhaaEpW
namespace Go.Proofs.Ytakeodnebegbhaa
open Go.ChangeShapes Go.WideShapes Go.ChangeAt Go.RowKit
set_option linter.unusedVariables false
namespace EEmp
set_option maxRecDepth 100000 in
set_option maxHeartbeats 4000000 in
theorem walk (w : World) (a0 : Int) (w0 : (Lit.int .i64 a0).wf = true) (a1 : Option Addr) (l1 c1 : Nat) (z1 : List Stp) (w1 : IsStp w a1 l1 z1) :
    Calls Try.prog 5 #[.int .i64 a0, .slice a1 l1 c1] w fun e w' => e = .returned (.bool true) ∧ Below w.heap.size w w' := by
  have hb0 := i64_bd w0
  have h15 := i64_and15 a0
  obtain ⟨k, hk⟩ : ∃ k : Nat, a0 % 16 = (k : Int) := ⟨(a0 % 16).toNat, by omega⟩
  have hk16 : k < 16 := by omega
  rw [hk] at h15
  obtain ⟨R, hR⟩ : ∃ R : Nat, k + 1 = R := ⟨_, rfl⟩
  have j0 : IntKind.i64.wrap (1 + (k : Int)) = (R : Int) := by rw [IntKind.wrap_i64]; omega
  have hR1 : 1 ≤ R ∧ R ≤ 16 := by omega
  have HNw := Lib.hid (fun W => newP_ok R 0 hR1.1 hR1.2 W)
  have HZ := Lib.hid w1
  clear hk hb0 w0 w1 hR hk16
  go_enter Try.func5, Try.ntmps5
  go_wp2_with fail
  refine Calls.mono (awake_yes w) ?_
  rintro e x1 ⟨rfl, hb1⟩
  have B1 := Lib.hid hb1
  clear hb1
  go_wp2_with fail
  refine Calls.mono (HNw.out x1) ?_
  rintro e x2 ⟨d, S2, rfl, hE, hb, hs⟩
  have E2 : Hid (Std w x2 d S2 [0] (List.replicate R (-1))) := Lib.hid ⟨hE, B1.out.trans (hb.mono B1.out.size), fun s h => Nat.le_trans B1.out.size (hs s h)⟩
  clear hE hb hs HNw
  go_wp2
  go_loopw [8] (fun iv wr => ∃ (j : Nat) (S : List Nat) (all ins : List Int), iv = .int .i64 (j : Int) ∧ j ≤ l1 ∧ j ≤ 200 ∧ Hid (all.length ≤ j + 1 ∧ ins.length = R) ∧ Hid (Std w wr d S all ins)) (fun iv _ => 200 - (intOf iv).toNat)
  case atStart => exact ⟨0, S2, [0], List.replicate R (-1), rfl, Nat.zero_le _, by omega, Lib.hid ⟨by simp, by simp⟩, E2⟩
  case round =>
    obtain ⟨j, S, all, ins, rfl, hj, hj2, hA, hE⟩ := hrel
    by_cases hlt : j < l1 ∧ j < 200
    · obtain ⟨h1, h2⟩ := hlt
      obtain ⟨g, o, q1, q2, rfl, hg, -, c0, c1, -, -⟩ := HZ.out.cells hE.out.bel h1
      have hjI : (j : Int) < l1 := by omega
      have hjI2 : (j : Int) < 200 := by omega
      have hj0 : (0 : Int) ≤ j := by omega
      have j3 : IntKind.i64.wrap ((j : Int) + 1) = (j : Int) + 1 := by rw [IntKind.wrap_i64]; omega
      have k3 := i64_and3 q1
      have k15 := i64_and15 q2
      have hm3 : 0 ≤ q1 % 4 ∧ q1 % 4 < 4 := by omega
      have hm15 : 0 ≤ q2 % 16 ∧ q2 % 16 < 16 := by omega
      obtain ⟨kd, hkd⟩ : ∃ kd, q1 % 4 = kd := ⟨_, rfl⟩
      obtain ⟨rr, hrr⟩ : ∃ rr, q2 % 16 = rr := ⟨_, rfl⟩
      rw [hkd] at k3 hm3
      rw [hrr] at k15 hm15
      have j5 : IntKind.i64.wrap (1 + rr) = 1 + rr := by rw [IntKind.wrap_i64]; omega
      have HLn : Hid (all.length ≤ 90000) := Lib.hid (by have := hA.out; omega)
      have HP := Lib.hid (pubP d S all ins ((j : Int) + 1) HLn.out wr hE.out.ep)
      have HN := Lib.hid (entP d S all ins (1 + rr) HLn.out wr hE.out.ep)
      have HV := Lib.hid (levP d S all ins (1 + rr) HLn.out wr hE.out.ep)
      clear hkd hrr hg
      by_cases kd0 : kd = 0
      · subst kd0
        have b0 : ((0 : Int) == 0) = true := by decide
        go_wp2_with fail
        refine Calls.mono HP.out ?_
        rintro e w4 ⟨A, c, S', rfl, hN, hE4, hG⟩
        have HE4 := Lib.hid (hE.out.go hE4 hG)
        clear hN hE4 hG HP HN HV
        go_wp2
        go_roundw
        case rel => exact ⟨j + 1, S', all ++ [(j : Int) + 1], ins, by go_num, h1, h2, Lib.hid (by have := hA.out; simp; omega), HE4⟩
        case measure => simp [intOf]; omega
      · by_cases kd1 : kd = 1
        · subst kd1
          have b0 : ((1 : Int) == 0) = false := by decide
          have b1 : ((1 : Int) == 1) = true := by decide
          go_wp2_with fail
          refine Calls.mono HN.out ?_
          rintro e w4 ⟨S', rfl, hE4, hG⟩
          have HE4 := Lib.hid (hE.out.go hE4 hG)
          clear hE4 hG HP HN HV
          go_wp2
          go_roundw
          case rel => exact ⟨j + 1, S', all, entI all ins (1 + rr), by go_num, h1, h2, Lib.hid (by have := hA.out; rw [entI_len]; omega), HE4⟩
          case measure => simp [intOf]; omega
        · have b0 : (kd == 0) = false := by simpa using kd0
          have b1 : (kd == 1) = false := by simpa using kd1
          go_wp2_with fail
          refine Calls.mono HV.out ?_
          rintro e w4 ⟨A, c, S', rfl, hN, hE4, hG⟩
          have HE4 := Lib.hid (hE.out.go hE4 hG)
          clear hN hE4 hG HP HN HV
          go_wp2
          go_roundw
          case rel => exact ⟨j + 1, S', all, levI ins (1 + rr), by go_num, h1, h2, Lib.hid (by have := hA.out; rw [levI_len]; omega), HE4⟩
          case measure => simp [intOf]; omega
    · have HLn : Hid (all.length ≤ 90000) := Lib.hid (by have := hA.out; omega)
      rcases (show ¬ j < l1 ∨ (j < l1 ∧ ¬ j < 200) by omega) with h1 | ⟨h1, h2⟩
      · have hjI : ¬ (j : Int) < l1 := by omega
        clear hlt h1
        have HA := Lib.hid hA.out
        have HJ : Hid (j ≤ 200) := Lib.hid hj2
        obtain ⟨x3, hx3⟩ : ∃ x, x = wr := ⟨_, rfl⟩
        subst hx3
        have hE0 := hE
        clear hE hA
        go_wp2
        go_loopw [9] (fun iv wr => ∃ (m : Nat) (S3 : List Nat) (ins2 : List Int), iv = .int .i64 ((m : Int) + 1) ∧ m ≤ R ∧ Hid (ins2.length = R) ∧ Hid (outs ins2 m) ∧ Hid (Std w wr d S3 all ins2)) (fun iv _ => 17 - (intOf iv).toNat)
        case atStart => exact ⟨0, S, ins, rfl, Nat.zero_le _, Lib.hid HA.out.2, Lib.hid (fun i x hi => absurd hi (by omega)), hE0⟩
        case round =>
          obtain ⟨m, S3, ins2, rfl, hm, hL2, hO, hE2⟩ := hrel
          by_cases hmR : m < R
          · have i1 : (m : Int) + 1 ≤ (R : Int) := by omega
            have m2 : IntKind.i64.wrap ((m : Int) + 1 + 1) = (m : Int) + 1 + 1 := by rw [IntKind.wrap_i64]; omega
            have HV := Lib.hid (levP d S3 all ins2 ((m : Int) + 1) HLn.out wr hE2.out.ep)
            have HOn := Lib.hid (outs_lev hO.out (by rw [hL2.out]; exact hmR))
            go_wp2_with fail
            refine Calls.mono HV.out ?_
            rintro e w4 ⟨A4, c4, S4, rfl, hN4, hE4, hG4⟩
            have E4 := Lib.hid (hE2.out.go hE4 hG4)
            have HS := Lib.hid (seeP d S4 all (levI ins2 ((m : Int) + 1)) ((m : Int) + 1) HLn.out w4 E4.out.ep)
            rw [HOn.out.2] at HS
            clear hN4 hE4 hG4 HV
            go_wp2_with fail
            refine Calls.mono HS.out ?_
            rintro e w5 ⟨rfl, hE5, hT5⟩
            have E5 := Lib.hid (E4.out.go hE5 (Goes.of_tch hT5))
            clear hE5 hT5 HS
            go_wp2
            go_roundw
            case rel => exact ⟨m + 1, S4, levI ins2 ((m : Int) + 1), by go_num, hmR, Lib.hid (by rw [levI_len]; exact hL2.out), Lib.hid HOn.out.1, E5⟩
            case measure => simp [intOf]; omega
          · obtain rfl : m = R := by omega
            have i1 : ¬ (m : Int) + 1 ≤ (m : Int) := by omega
            clear hmR hm
            have HO : Hid (outs ins2 ins2.length) := Lib.hid (by rw [hL2.out]; exact hO.out)
            have HC := Lib.hid (curP d S3 all ins2 HLn.out wr hE2.out.ep)
            have H1 := hE2.out.ep.inv.one
            clear hO
            go_wp2_with fail
            refine Calls.mono HC.out ?_
            rintro e w4 ⟨rfl, hE4, hT4⟩
            have E4 := Lib.hid (hE2.out.go hE4 (Goes.of_tch hT4))
            have HW := Lib.hid (waitP d S3 all ins2 HLn.out w4 E4.out.ep)
            rw [outs_wt HO.out] at HW
            clear hE4 hT4 HC
            go_wp2_with fail
            refine Calls.mono HW.out ?_
            rintro e w5 ⟨A5, c5, rfl, hN5, hE5, hT5⟩
            have E5 := Lib.hid (E4.out.go hE5 (Goes.of_tch hT5))
            have HP := Lib.hid (pubP d S3 all ins2 (-5) HLn.out w5 E5.out.ep)
            rw [outs_pub (-5) HO.out H1] at HP
            clear hE5 hT5 HW hN5
            go_wp2_with fail
            refine Calls.mono HP.out ?_
            rintro e w6 ⟨A6, c6, S6, rfl, hN6, hE6, hG6⟩
            have E6 := Lib.hid (E5.out.go hE6 hG6)
            have K6 := Lib.hid hN6.kept
            clear hE6 hG6 HP hN6
            obtain ⟨v, hv⟩ : ∃ v, curE all = v := ⟨_, rfl⟩
            rw [hv] at K6 ⊢
            obtain ⟨w7, hw⟩ : ∃ x, w6.alloc (.cells #[.int .i64 v] 3) = x := ⟨_, rfl⟩
            have E7 := Lib.hid (hw ▸ E6.out.alloc (.cells #[.int .i64 v] 3))
            have K7 := Lib.hid (hw ▸ K6.out.alloc (.cells #[.int .i64 v] 3))
            have HL7 : Hid (SlI w7 (some ⟨w6.heap.size, 0, none⟩) 1 [v]) := Lib.hid (hw ▸ SlI.of_blk (zs := [v]) (Blk.new w6 3 #[.int .i64 v]))
            have HW7 := Lib.hid hw
            have HSm := Lib.hid (ret_as (v' := .bool true) (same_any A6 (some ⟨w6.heap.size, 0, none⟩) _ 1 c6 1 [v] [v] (by simp) (by decide) w7 K7.out.sl HL7.out) (congrArg Value.bool (decide_eq_true rfl)))
            clear hw hv E6 K6
            go_wp2_with fail
            rw [HW7.out]
            refine Calls.mono HSm.out ?_
            rintro e w8 ⟨rfl, hT8⟩
            have E8 := Lib.hid (E7.out.tch0 hT8)
            have HC := Lib.hid (curP d S6 (all ++ [-5]) ins2 (by have := HA.out; simp; omega) w8 E8.out.ep)
            rw [curE_app] at HC
            clear hT8 HSm E7 K7 HL7
            go_wp2_with fail
            refine Calls.mono HC.out ?_
            rintro e w9 ⟨rfl, hE9, hT9⟩
            have E9 := Lib.hid (E8.out.go hE9 (Goes.of_tch hT9))
            clear hE9 hT9 HC E8
            go_wp2
            go_ret
            exact ⟨rfl, E9.out.bel⟩
      · have hjI : (j : Int) < l1 := by omega
        have hjI2 : ¬ (j : Int) < 200 := by omega
        clear hlt h1 h2
        have HA := Lib.hid hA.out
        have HJ : Hid (j ≤ 200) := Lib.hid hj2
        obtain ⟨x3, hx3⟩ : ∃ x, x = wr := ⟨_, rfl⟩
        subst hx3
        have hE0 := hE
        clear hE hA
        go_wp2
        go_loopw [9] (fun iv wr => ∃ (m : Nat) (S3 : List Nat) (ins2 : List Int), iv = .int .i64 ((m : Int) + 1) ∧ m ≤ R ∧ Hid (ins2.length = R) ∧ Hid (outs ins2 m) ∧ Hid (Std w wr d S3 all ins2)) (fun iv _ => 17 - (intOf iv).toNat)
        case atStart => exact ⟨0, S, ins, rfl, Nat.zero_le _, Lib.hid HA.out.2, Lib.hid (fun i x hi => absurd hi (by omega)), hE0⟩
        case round =>
          obtain ⟨m, S3, ins2, rfl, hm, hL2, hO, hE2⟩ := hrel
          by_cases hmR : m < R
          · have i1 : (m : Int) + 1 ≤ (R : Int) := by omega
            have m2 : IntKind.i64.wrap ((m : Int) + 1 + 1) = (m : Int) + 1 + 1 := by rw [IntKind.wrap_i64]; omega
            have HV := Lib.hid (levP d S3 all ins2 ((m : Int) + 1) HLn.out wr hE2.out.ep)
            have HOn := Lib.hid (outs_lev hO.out (by rw [hL2.out]; exact hmR))
            go_wp2_with fail
            refine Calls.mono HV.out ?_
            rintro e w4 ⟨A4, c4, S4, rfl, hN4, hE4, hG4⟩
            have E4 := Lib.hid (hE2.out.go hE4 hG4)
            have HS := Lib.hid (seeP d S4 all (levI ins2 ((m : Int) + 1)) ((m : Int) + 1) HLn.out w4 E4.out.ep)
            rw [HOn.out.2] at HS
            clear hN4 hE4 hG4 HV
            go_wp2_with fail
            refine Calls.mono HS.out ?_
            rintro e w5 ⟨rfl, hE5, hT5⟩
            have E5 := Lib.hid (E4.out.go hE5 (Goes.of_tch hT5))
            clear hE5 hT5 HS
            go_wp2
            go_roundw
            case rel => exact ⟨m + 1, S4, levI ins2 ((m : Int) + 1), by go_num, hmR, Lib.hid (by rw [levI_len]; exact hL2.out), Lib.hid HOn.out.1, E5⟩
            case measure => simp [intOf]; omega
          · obtain rfl : m = R := by omega
            have i1 : ¬ (m : Int) + 1 ≤ (m : Int) := by omega
            clear hmR hm
            have HO : Hid (outs ins2 ins2.length) := Lib.hid (by rw [hL2.out]; exact hO.out)
            have HC := Lib.hid (curP d S3 all ins2 HLn.out wr hE2.out.ep)
            have H1 := hE2.out.ep.inv.one
            clear hO
            go_wp2_with fail
            refine Calls.mono HC.out ?_
            rintro e w4 ⟨rfl, hE4, hT4⟩
            have E4 := Lib.hid (hE2.out.go hE4 (Goes.of_tch hT4))
            have HW := Lib.hid (waitP d S3 all ins2 HLn.out w4 E4.out.ep)
            rw [outs_wt HO.out] at HW
            clear hE4 hT4 HC
            go_wp2_with fail
            refine Calls.mono HW.out ?_
            rintro e w5 ⟨A5, c5, rfl, hN5, hE5, hT5⟩
            have E5 := Lib.hid (E4.out.go hE5 (Goes.of_tch hT5))
            have HP := Lib.hid (pubP d S3 all ins2 (-5) HLn.out w5 E5.out.ep)
            rw [outs_pub (-5) HO.out H1] at HP
            clear hE5 hT5 HW hN5
            go_wp2_with fail
            refine Calls.mono HP.out ?_
            rintro e w6 ⟨A6, c6, S6, rfl, hN6, hE6, hG6⟩
            have E6 := Lib.hid (E5.out.go hE6 hG6)
            have K6 := Lib.hid hN6.kept
            clear hE6 hG6 HP hN6
            obtain ⟨v, hv⟩ : ∃ v, curE all = v := ⟨_, rfl⟩
            rw [hv] at K6 ⊢
            obtain ⟨w7, hw⟩ : ∃ x, w6.alloc (.cells #[.int .i64 v] 3) = x := ⟨_, rfl⟩
            have E7 := Lib.hid (hw ▸ E6.out.alloc (.cells #[.int .i64 v] 3))
            have K7 := Lib.hid (hw ▸ K6.out.alloc (.cells #[.int .i64 v] 3))
            have HL7 : Hid (SlI w7 (some ⟨w6.heap.size, 0, none⟩) 1 [v]) := Lib.hid (hw ▸ SlI.of_blk (zs := [v]) (Blk.new w6 3 #[.int .i64 v]))
            have HW7 := Lib.hid hw
            have HSm := Lib.hid (ret_as (v' := .bool true) (same_any A6 (some ⟨w6.heap.size, 0, none⟩) _ 1 c6 1 [v] [v] (by simp) (by decide) w7 K7.out.sl HL7.out) (congrArg Value.bool (decide_eq_true rfl)))
            clear hw hv E6 K6
            go_wp2_with fail
            rw [HW7.out]
            refine Calls.mono HSm.out ?_
            rintro e w8 ⟨rfl, hT8⟩
            have E8 := Lib.hid (E7.out.tch0 hT8)
            have HC := Lib.hid (curP d S6 (all ++ [-5]) ins2 (by have := HA.out; simp; omega) w8 E8.out.ep)
            rw [curE_app] at HC
            clear hT8 HSm E7 K7 HL7
            go_wp2_with fail
            refine Calls.mono HC.out ?_
            rintro e w9 ⟨rfl, hE9, hT9⟩
            have E9 := Lib.hid (E8.out.go hE9 (Goes.of_tch hT9))
            clear hE9 hT9 HC E8
            go_wp2
            go_ret
            exact ⟨rfl, E9.out.bel⟩
set_option maxRecDepth 100000 in
theorem contract (H : Type) (enc : TypeId × Value → H) (W : World) (base : Nat) (args : Array Value) (ds gs : List (DataW H)) (before : List MemPlace)
    (hval0 : ∀ (j : Nat) t v, Try.f5.params[j]? = some t → args[j]? = some v → Value.okWide Try.prog W .any base t v)
    (hW : DataW.Whole enc Try.prog Try.f5.params.toList Rows.epochEmptiesSpec.vars false W args.toList ds gs before)
    (hsz0 : (DataW.weightsEach Try.prog (Try.f5.params.toList ++ Rows.epochEmptiesSpec.plain.varTypes Try.prog) (ds ++ gs)).all (· ≤ reachBytes) = true) :
    Calls Try.prog 5 args W fun e W' => ∃ v, e = .returned v ∧ Rows.epochEmptiesSpec.post enc Try.prog Try.f5 false true false false W args v W' := by
  have hsz := hsz0
  clear hsz0
  have hval := hval0
  clear hval0
  have hW' := hW
  obtain ⟨p, q, hA0, hV, rfl, hfz, hnd⟩ := hW
  have hA : DataW.TrodAll enc Try.prog W 0 (fun _ => true) true Try.f5.params.toList args.toList ds p := hA0
  rw [Try.params5] at hA hval hsz
  obtain ⟨v0, vs0, d0, ds0, p0, q0, hargs, rfl, rfl, h0, r0⟩ := trodAll_cons hA
  obtain ⟨v1, vs1, d1, ds1, p1, q1, rfl, rfl, rfl, h1, r1⟩ := trodAll_cons r0
  obtain ⟨rfl, rfl, rfl⟩ := trodAll_nil r1
  obtain rfl : args = #[v0, v1] := by cases args; simp_all
  obtain ⟨rfl, rfl⟩ := trodVars_none hV
  obtain ⟨a0, rfl, rfl, rfl, w0⟩ := open_int Try.underlying3 (hval 0 3 v0 rfl rfl) h0
  obtain ⟨a1, l1, c1, rfl⟩ := okWide_slice Try.underlying22 (hval 1 22 v1 rfl rfl)
  have k1 := h1
  have lt1 : ∀ x ∈ p1, x.block < W.heap.size := by obtain ⟨m, hm⟩ := k1; exact DataW.trod_lt m _ _ _ hm
  obtain ⟨z1, w1⟩ := isStp_of h1
  clear hA0
  refine (walk W a0 w0 a1 l1 c1 z1 w1).mono fun e W' ⟨he, bel⟩ => ?_
  subst he
  exact ⟨_, rfl, _, _, _, [], _, [], hW', trodAll_mk1 (shut_bool Try.underlying4 _), (trodAll_cons_mk (shut_int Try.underlying3 w0) (trodAll_cons_mk (Below.trod laidOut (by kernel_rfl) (of_decide_eq_true (by kernel_rfl)) k1 bel lt1) trodAll_mk0)), rfl, bel.frame _, fun h => by cases h⟩

set_option maxRecDepth 100000 in
theorem lifted (os : Os) (started : os.Started) (H : Type) (enc : TypeId × Value → H) :
    ReturnsInHanded {} Try.checked os 5 .any (Rows.epochEmptiesSpec.pre6 enc Try.prog Try.f5 Rows.epochEmptiesRow.domain false) (Rows.epochEmptiesSpec.post enc Try.prog Try.f5 false true false false) := by
  refine returnsInHanded_of_change_sized (C := Try.checked) own started (by kernel_rfl) Try.func5
    (ChangeSpec.witness6 (enc := enc) (C := Try.checked) false ⟨#[], #[.int .i64 0, .slice none 0 0], []⟩ 8 (by kernel_rfl) (by kernel_rfl) (by kernel_rfl) (by kernel_rfl)) ?_
  intro W base args ds gs before hval hW _ hsz _
  exact contract H enc W base args ds gs before hval hW hsz

theorem over : Rows.epochEmptiesRow.holds Try.pinned (OpenSpec.ofChange Rows.epochEmptiesSpec) :=
  OpenClaim.holds_of_wide 5 Try.f5 rfl rfl rfl rfl rfl rfl rfl ⟨rfl, rfl, rfl, rfl, rfl⟩ rfl rfl rfl rfl rfl (by kernel_rfl) Try.func5 (by kernel_rfl)
    (of_decide_eq_true (by kernel_rfl)) (by unfold Func.isWrapper; first | (rw [if_pos (by decide +kernel)]; kernel_rfl) | (rw [if_neg (by decide +kernel)]; exact ⟨rfl, rfl⟩))
    (fun os started H enc _ => lifted os started H enc)

theorem proved : Rows.EpochEmptiesSaid := over
#print axioms proved
end EEmp
end Go.Proofs.Ytakeodnebegbhaa
