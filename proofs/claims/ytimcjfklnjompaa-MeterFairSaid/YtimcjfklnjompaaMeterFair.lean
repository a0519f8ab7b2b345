/-
  crosswaylaw18.MeterFair returns true for every input, and leaves its arguments alone.
  Conditions: none of our own.
-/
import Derived.Test.YtimcjfklnjompaaMtD
namespace Go.Proofs.Ytimcjfklnjompaa
open Go.ChangeShapes Go.WideShapes Go.ChangeAt Go.RowKit
set_option linter.unusedVariables false
namespace MFai
set_option maxRecDepth 100000 in
set_option maxHeartbeats 3000000 in
theorem walk (w : World) (a0 : Int) (w0 : (Lit.int .i64 a0).wf = true) (a1 : Int) (w1 : (Lit.int .i64 a1).wf = true) (a2 : Option Addr) (l2 c2 : Nat) (z2 : List Stp) (w2 : IsStp w a2 l2 z2) (a3 : Int) (w3 : (Lit.int .i64 a3).wf = true) :
    Calls Try.prog 6 #[.int .i64 a0, .int .i64 a1, .slice a2 l2 c2, .int .i64 a3] w fun e w' => e = .returned (.bool true) ∧ Below w.heap.size w w' := by
  have HZ := Lib.hid w2
  have hb3 := i64_bd w3
  clear w0 w1 w2 w3
  have qa := i64_and1023 a0
  have qb := i64_and1023 a1
  obtain ⟨q0, hq0⟩ : ∃ q, a0 % 1024 = q := ⟨_, rfl⟩
  obtain ⟨q1, hq1⟩ : ∃ q, a1 % 1024 = q := ⟨_, rfl⟩
  rw [hq0] at qa
  rw [hq1] at qb
  have hR0 : 1 ≤ 1 + q0 ∧ 1 + q0 ≤ 1024 := by omega
  have hB0 : 1 ≤ 1 + q1 ∧ 1 + q1 ≤ 1024 := by omega
  have wR : IntKind.i64.wrap (1 + q0) = 1 + q0 := by rw [IntKind.wrap_i64]; omega
  have wB : IntKind.i64.wrap (1 + q1) = 1 + q1 := by rw [IntKind.wrap_i64]; omega
  obtain ⟨R, hR⟩ : ∃ R, 1 + q0 = R := ⟨_, rfl⟩
  obtain ⟨Bu, hBu⟩ : ∃ R, 1 + q1 = R := ⟨_, rfl⟩
  rw [hR] at wR hR0
  rw [hBu] at wB hB0
  have wR : IntKind.i64.wrap (1 + q0) = R := by rw [hR]; exact wR
  have wB : IntKind.i64.wrap (1 + q1) = Bu := by rw [hBu]; exact wB
  obtain ⟨C, hC⟩ : ∃ C, Bu + 1 = C := ⟨_, rfl⟩
  have wC : IntKind.i64.wrap (Bu + 1) = C := by rw [IntKind.wrap_i64]; omega
  have HBd := Lib.hid (And.intro hR0 (And.intro hB0 hC))
  have nC : ¬ C = 0 := by omega
  have hok : (rtB R && rtB Bu) = true := by
    have h1 : rtB R = true := rt_iff.2 (by omega)
    have h2 : rtB Bu = true := rt_iff.2 (by omega)
    rw [h1, h2]; rfl
  have HBk := Lib.hid (fun W hb => bucketS (w := w) (wr := W) hb R Bu hok)
  obtain ⟨y, hy0, hy⟩ : ∃ y : Int, 0 ≤ y ∧ (if a3 < 0 then -(a3 + 1) else a3) = y := ⟨_, by split <;> omega, rfl⟩
  have hyb : y ≤ 9223372036854775807 := by rw [← hy]; split <;> omega
  obtain ⟨T, hT⟩ : ∃ T, Int.tmod y C = T := ⟨_, rfl⟩
  have hT0 : 0 ≤ T ∧ T ≤ Bu := by
    rw [← hT, Int.tmod_eq_emod_of_nonneg hy0]
    have h1 := Int.emod_nonneg y (show C ≠ 0 by omega)
    have h2 := Int.emod_lt_of_pos y (show 0 < C by omega)
    omega
  have wT : IntKind.i64.wrap T = T := by rw [IntKind.wrap_i64]; omega
  have HT0 := Lib.hid hT0
  have HY : Hid ((a3 < 0 ∧ IntKind.i64.wrap (a3 + 1) = a3 + 1 ∧ IntKind.i64.wrap (-(a3 + 1)) = y) ∨ (¬ a3 < 0 ∧ a3 = y)) := Lib.hid (by
    by_cases h : a3 < 0
    · rw [if_pos h] at hy
      exact .inl ⟨h, by rw [IntKind.wrap_i64]; omega, by rw [hy, IntKind.wrap_i64]; omega⟩
    · rw [if_neg h] at hy
      exact .inr ⟨h, hy⟩)
  clear hb3 hq0 hq1 hR hBu hR0 hB0 hC hok hy hyb hy0 hT0
  go_enter Try.func6, Try.ntmps6
  go_wp2_with fail
  refine Calls.mono (awake_yes w) ?_
  rintro e x1 ⟨rfl, hb1⟩
  have H := Lib.hid (HBk.out x1 hb1)
  clear hb1 HBk
  go_wp2_with fail
  refine Calls.mono H.out ?_
  rintro e x2 ⟨p, rfl, hS⟩
  have S2 := Lib.hid hS
  clear hS H
  go_wp2
  go_loopw [12] (fun iv wr => ∃ (j : Nat) (l : Int), iv = .int .i64 (j : Int) ∧ j ≤ 100 ∧ Hid (BStd w wr p R Bu l)) (fun iv _ => 100 - (intOf iv).toNat)
  case atStart => exact ⟨0, Bu, rfl, by omega, S2⟩
  case round =>
      obtain ⟨j, l, rfl, hj2, hE⟩ := hrel
      by_cases hlt : j < l2 ∧ j < 100
      · obtain ⟨h1, h2⟩ := hlt
        obtain ⟨g, o, t, n, rfl, hg, -, hnw, hcl⟩ := HZ.out.step h1
        have HCl := Lib.hid hcl
        obtain ⟨c0, c1⟩ := hcl wr hE.out.bel
        have hjI : (j : Int) < l2 := by omega
        have hjI2 : (j : Int) < 100 := by omega
        have hj0 : (0 : Int) ≤ j := by omega
        have j3 : IntKind.i64.wrap ((j : Int) + 1) = (j : Int) + 1 := by rw [IntKind.wrap_i64]; omega
        have HG := Lib.hid hg
        clear hcl hg
        cases t
        · have H1 := Lib.hid (hE.out.take n)
          go_wp2_with fail
          refine Calls.mono H1.out ?_
          rintro e w4 ⟨rfl, hb4, -⟩
          have E4 := Lib.hid hb4
          clear hb4 H1 c0 c1
          go_wp2
          go_roundw
          case rel => exact ⟨j + 1, tkL l n, by go_num, by omega, E4⟩
          case measure => simp [intOf]; omega
        · have H1 := Lib.hid hE.out.tick
          go_wp2_with fail
          refine Calls.mono H1.out ?_
          rintro e w4 ⟨rfl, hb4, -⟩
          have E4 := Lib.hid hb4
          clear hb4 H1 c0 c1
          go_wp2
          go_roundw
          case rel => exact ⟨j + 1, tiL R Bu l, by go_num, by omega, E4⟩
          case measure => simp [intOf]; omega
      · have hc : ((j : Int) < l2 ∧ ¬ (j : Int) < 100) ∨ ¬ ((j : Int) < l2) := by omega
        clear hlt hj2
        have hy := HY.out
        rcases hc with ⟨h1, h2⟩ | h1
        all_goals
          rcases hy with ⟨k1, k2, k3⟩ | ⟨k1, rfl⟩
          all_goals
            go_wp2
            go_loopw [13] (fun iv w5 => ∃ (i : Nat) (l' : Int), iv = .int .i64 (i : Int) ∧ Hid ((i : Int) ≤ l') ∧ Hid (BStd w w5 p R Bu l')) (fun iv _ => 2000 - (intOf iv).toNat)
            case atStart => exact ⟨0, l, rfl, Lib.hid hE.out.bd.1, hE⟩
            case round =>
              obtain ⟨i, l', rfl, hi, hE'⟩ := hrel
              have HL := Lib.hid hE'.out.level
              have hbd := hE'.out.bd
              by_cases hlt' : l' < T
              · have i1 : ¬ (1024 : Int) < (i : Int) := by have := hi.out; have := HBd.out; have := HT0.out; omega
                have i3 : IntKind.i64.wrap ((i : Int) + 1) = (i : Int) + 1 := by rw [IntKind.wrap_i64]; have := hi.out; have := HBd.out; have := HT0.out; omega
                have him : i < 2000 := by have := hi.out; have := HBd.out; have := HT0.out; omega
                have HM := Lib.hid him
                have H1 := hE'.out.take T
                rw [show tkB l' T = false from decide_eq_false (by omega), show tkL l' T = l' from if_neg (by omega)] at H1
                have H1 := Lib.hid H1
                have HI : Hid (((i + 1 : Nat) : Int) ≤ tiL R Bu l') := Lib.hid (by have := hi.out; have := HBd.out; have := HT0.out; unfold tiL; split <;> omega)
                clear hbd him
                go_wp2_with fail
                refine Calls.mono HL.out ?_
                rintro e w' ⟨rfl, rfl⟩
                go_wp2_with fail
                refine Calls.mono H1.out ?_
                rintro e w6 ⟨rfl, hb6, -⟩
                have E6 := Lib.hid hb6
                have H2 := Lib.hid hb6.tick
                clear hb6 H1 HL
                go_wp2_with fail
                refine Calls.mono H2.out ?_
                rintro e w7 ⟨rfl, hb7, -⟩
                have E7 := Lib.hid hb7
                clear hb7 H2 E6
                go_wp2
                go_roundw
                case rel => exact ⟨i + 1, tiL R Bu l', by go_num, HI, E7⟩
                case measure => have := HM.out; simp [intOf]; omega
              · have H1 := hE'.out.take T
                rw [show tkB l' T = true from decide_eq_true (by have := HT0.out; omega)] at H1
                have H1 := Lib.hid H1
                clear hbd
                go_wp2_with fail
                refine Calls.mono HL.out ?_
                rintro e w' ⟨rfl, rfl⟩
                go_wp2_with fail
                refine Calls.mono H1.out ?_
                rintro e w6 ⟨rfl, hb6, -⟩
                have E6 := Lib.hid hb6.bel
                clear hb6 H1 HL
                go_wp2
                go_ret
                exact ⟨rfl, E6.out⟩
set_option maxRecDepth 100000 in
theorem contract (H : Type) (enc : TypeId × Value → H) (W : World) (base : Nat) (args : Array Value) (ds gs : List (DataW H)) (before : List MemPlace)
    (hval0 : ∀ (j : Nat) t v, Try.f6.params[j]? = some t → args[j]? = some v → Value.okWide Try.prog W .any base t v)
    (hW : DataW.Whole enc Try.prog Try.f6.params.toList Rows.meterFairSpec.vars false W args.toList ds gs before)
    (hsz0 : (DataW.weightsEach Try.prog (Try.f6.params.toList ++ Rows.meterFairSpec.plain.varTypes Try.prog) (ds ++ gs)).all (· ≤ reachBytes) = true) :
    Calls Try.prog 6 args W fun e W' => ∃ v, e = .returned v ∧ Rows.meterFairSpec.post enc Try.prog Try.f6 false true false false W args v W' := by
  have hsz := hsz0
  clear hsz0
  have hval := hval0
  clear hval0
  have hW' := hW
  obtain ⟨p, q, hA0, hV, rfl, hfz, hnd⟩ := hW
  have hA : DataW.TrodAll enc Try.prog W 0 (fun _ => true) true Try.f6.params.toList args.toList ds p := hA0
  rw [Try.params6] at hA hval hsz
  obtain ⟨v0, vs0, d0, ds0, p0, q0, hargs, rfl, rfl, h0, r0⟩ := trodAll_cons hA
  obtain ⟨v1, vs1, d1, ds1, p1, q1, rfl, rfl, rfl, h1, r1⟩ := trodAll_cons r0
  obtain ⟨v2, vs2, d2, ds2, p2, q2, rfl, rfl, rfl, h2, r2⟩ := trodAll_cons r1
  obtain ⟨v3, vs3, d3, ds3, p3, q3, rfl, rfl, rfl, h3, r3⟩ := trodAll_cons r2
  obtain ⟨rfl, rfl, rfl⟩ := trodAll_nil r3
  obtain rfl : args = #[v0, v1, v2, v3] := by cases args; simp_all
  obtain ⟨rfl, rfl⟩ := trodVars_none hV
  obtain ⟨a0, rfl, rfl, rfl, w0⟩ := open_int Try.underlying3 (hval 0 3 v0 rfl rfl) h0
  obtain ⟨a1, rfl, rfl, rfl, w1⟩ := open_int Try.underlying3 (hval 1 3 v1 rfl rfl) h1
  obtain ⟨a2, l2, c2, rfl⟩ := okWide_slice Try.underlying28 (hval 2 28 v2 rfl rfl)
  have k2 := h2
  have lt2 : ∀ x ∈ p2, x.block < W.heap.size := by obtain ⟨m, hm⟩ := k2; exact DataW.trod_lt m _ _ _ hm
  obtain ⟨z2, w2⟩ := isStp_of h2
  obtain ⟨a3, rfl, rfl, rfl, w3⟩ := open_int Try.underlying3 (hval 3 3 v3 rfl rfl) h3
  clear hA0
  refine (walk W a0 w0 a1 w1 a2 l2 c2 z2 w2 a3 w3).mono fun e W' ⟨he, bel⟩ => ?_
  subst he
  exact ⟨_, rfl, _, _, _, [], _, [], hW', trodAll_mk1 (shut_bool Try.underlying4 _), (trodAll_cons_mk (shut_int Try.underlying3 w0) (trodAll_cons_mk (shut_int Try.underlying3 w1) (trodAll_cons_mk (Below.trod laidOut (by kernel_rfl) (of_decide_eq_true (by kernel_rfl)) k2 bel lt2) (trodAll_cons_mk (shut_int Try.underlying3 w3) trodAll_mk0)))), rfl, bel.frame _, fun h => by cases h⟩

set_option maxRecDepth 100000 in
theorem lifted (os : Os) (started : os.Started) (H : Type) (enc : TypeId × Value → H) :
    ReturnsInHanded {} Try.checked os 6 .any (Rows.meterFairSpec.pre6 enc Try.prog Try.f6 Rows.meterFairRow.domain false) (Rows.meterFairSpec.post enc Try.prog Try.f6 false true false false) := by
  refine returnsInHanded_of_change_sized (C := Try.checked) own started (by kernel_rfl) Try.func6
    (ChangeSpec.witness6 (enc := enc) (C := Try.checked) false ⟨#[], #[.int .i64 0, .int .i64 0, .slice none 0 0, .int .i64 0], []⟩ 8 (by kernel_rfl) (by kernel_rfl) (by kernel_rfl) (by kernel_rfl)) ?_
  intro W base args ds gs before hval hW _ hsz _
  exact contract H enc W base args ds gs before hval hW hsz

theorem over : Rows.meterFairRow.holds Try.pinned (OpenSpec.ofChange Rows.meterFairSpec) :=
  OpenClaim.holds_of_wide 6 Try.f6 rfl rfl rfl rfl rfl rfl rfl ⟨rfl, rfl, rfl, rfl, rfl⟩ rfl rfl rfl rfl rfl (by kernel_rfl) Try.func6 (by kernel_rfl)
    (of_decide_eq_true (by kernel_rfl)) (by unfold Func.isWrapper; first | (rw [if_pos (by decide +kernel)]; kernel_rfl) | (rw [if_neg (by decide +kernel)]; exact ⟨rfl, rfl⟩))
    (fun os started H enc _ => lifted os started H enc)

theorem proved : Rows.MeterFairSaid := over
#print axioms proved
end MFai
end Go.Proofs.Ytimcjfklnjompaa
