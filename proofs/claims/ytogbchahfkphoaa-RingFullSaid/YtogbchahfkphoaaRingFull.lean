/-
  crosswaylaw12.RingFull returns true for every input, and leaves its arguments alone.
  Conditions: none of our own.
-/
import Derived.Test.YtogbchahfkphoaaRgW
namespace Go.Proofs.Ytogbchahfkphoaa
open Go.ChangeShapes Go.WideShapes Go.ChangeAt Go.RowKit
set_option linter.unusedVariables false
namespace RFul
theorem len_of {n m : Nat} {out : Nat} (h : n = out + m) : ((n : Nat) : Int) - (out : Int) = (m : Int) := by omega
set_option maxRecDepth 100000 in
set_option maxHeartbeats 4000000 in
theorem walk (w : World) (a0 : Int) (w0 : (Lit.int .i64 a0).wf = true) (a1 : Int) (w1 : (Lit.int .i64 a1).wf = true) :
    Calls Try.prog 7 #[.int .i64 a0, .int .i64 a1] w fun e w' => e = .returned (.bool true) ∧ Below w.heap.size w w' := by
  have hb0 := i64_bd w0
  have hb1 := i64_bd w1
  have h7 := i64_and7 a0
  obtain ⟨k, hk⟩ : ∃ k : Nat, a0 % 8 = (k : Int) := ⟨(a0 % 8).toNat, by omega⟩
  have hk8 : k < 8 := by omega
  rw [hk] at h7
  have hp := two_pow16 (k := k) (by omega)
  have hp2 : 2 ^ k ≤ 128 := by
    have : 2 ^ k ≤ 2 ^ 7 := Nat.pow_le_pow_right (by decide) (by omega)
    have h7' : (2 : Nat) ^ 7 = 128 := by decide
    omega
  have HNw := Lib.hid (fun W => newI_ok k (by omega) W)
  obtain ⟨y, hy⟩ : ∃ y : Int, (if a1 < 0 then -(a1 + 1) else a1) = y := ⟨_, rfl⟩
  have y0 : 0 ≤ y := by split at hy <;> omega
  have y1 : IntKind.i64.wrap (a1 + 1) = a1 + 1 ∨ ¬ a1 < 0 := by
    by_cases h : a1 < 0
    · left; rw [IntKind.wrap_i64]; omega
    · right; exact h
  have HY := Lib.hid hy
  obtain ⟨T, hT⟩ : ∃ T : Nat, Int.tmod y 1000 = (T : Int) := ⟨(y % 1000).toNat, by rw [Int.tmod_eq_emod_of_nonneg y0]; omega⟩
  have hT1 : T < 1000 := by rw [Int.tmod_eq_emod_of_nonneg y0] at hT; omega
  have HW := Lib.hid (And.intro hb0 hb1)
  have HKP : ∀ j : Nat, j ≤ k → 0 < 2 ^ j ∧ 2 ^ j ≤ 65536 := fun j hj => two_pow16 (by omega)
  have HKQ := Lib.hid HKP
  clear hk hb0 hb1 w0 w1 HKP hy
  go_enter Try.func7, Try.ntmps7
  go_wp2_with fail
  refine Calls.mono (awake_yes w) ?_
  rintro e x1 ⟨rfl, hb1⟩
  have B1 := Lib.hid hb1
  clear hb1
  go_wp2_with fail
  refine Calls.mono (HNw.out x1) ?_
  rintro e x2 ⟨r, b, rfl, hR, hb, hr, hbb⟩
  have R2 := Lib.hid hR
  have B2 := Lib.hid (And.intro (B1.out.trans (hb.mono B1.out.size)) (And.intro (Nat.le_trans B1.out.size hr) (Nat.le_trans B1.out.size hbb)))
  clear hR hb hr hbb HNw
  go_wp2
  go_loop [7, 8] (fun n i => ∃ j : Nat, j ≤ k ∧ i = .int .i64 (j : Int) ∧ n = .int .i64 ((2 ^ j : Nat) : Int)) (fun _ i => k - (intOf i).toNat)
  case atStart => exact ⟨0, Nat.zero_le _, rfl, rfl⟩
  case round =>
    obtain ⟨j, hj, rfl, rfl⟩ := hrel
    have hq := HKQ.out j hj
    have hs : 2 ^ (j + 1) = 2 * 2 ^ j := by rw [Nat.pow_succ]; omega
    obtain ⟨P, hP⟩ : ∃ P : Nat, 2 ^ j = P := ⟨_, rfl⟩
    rw [hP] at hq hs ⊢
    by_cases hlt : j < k
    · have h1 : (j : Int) < k := by omega
      have HS := Lib.hid hs
      have j1 : IntKind.i64.wrap (2 * (P : Int)) = 2 * (P : Int) := by rw [IntKind.wrap_i64]; omega
      have j2 : IntKind.i64.wrap ((j : Int) + 1) = (j : Int) + 1 := by rw [IntKind.wrap_i64]; omega
      clear hs hP
      go_wp2
      go_round
      case rel => exact ⟨j + 1, hlt, by go_num, by rw [HS.out]; exact congrArg (Value.int .i64) (by omega)⟩
      case measure => simp [intOf]; omega
    · obtain rfl : j = k := by omega
      have h1 : ¬ (j : Int) < j := by omega
      rw [hP] at hp hp2 R2
      clear hs hP hq HKQ
      have hP1 := hp.1
      have hcase : (a1 < 0 ∧ y = -(a1 + 1)) ∨ (¬ a1 < 0 ∧ a1 = y) := by
        have := HY.out
        split at this
        · left; exact ⟨‹_›, this.symm⟩
        · right; exact ⟨‹_›, this⟩
      have HTT := Lib.hid (And.intro hT hT1)
      have t0 : IntKind.i64.wrap (T : Int) = (T : Int) := by rw [IntKind.wrap_i64]; omega
      clear HY
      rcases hcase with ⟨hn, he⟩ | ⟨hn, he⟩
      · have y2 : IntKind.i64.wrap (a1 + 1) = a1 + 1 := by have := HW.out; rw [IntKind.wrap_i64]; omega
        have y3 : wrap64 (-(a1 + 1)) = y := by have := HW.out; unfold wrap64; omega
        have y4 : IntKind.i64.wrap (-(a1 + 1)) = y := by have := HW.out; rw [IntKind.wrap_i64]; omega
        have HX := Lib.hid he
        clear he y1
        go_wp2
        go_loopw [9] (fun iv wr => ∃ (j : Nat) (all : List (List Value)), iv = .int .i64 (j : Int) ∧ j ≤ T ∧ Hid (all.length = j) ∧ Hid (RgI wr r b P all j) ∧ Hid (Tch x2 wr [r, b])) (fun iv _ => T - (intOf iv).toNat)
        case atStart => exact ⟨0, [], rfl, Nat.zero_le _, Lib.hid rfl, R2, Lib.hid (Tch.refl _ _)⟩
        case round =>
          obtain ⟨i, all, rfl, hi, hA, hR, hT2⟩ := hrel
          by_cases hlt : i < T
          · have i1 : (i : Int) < (T : Int) := by omega
            have i2 : IntKind.i64.wrap ((i : Int) + 1) = (i : Int) + 1 := by rw [IntKind.wrap_i64]; omega
            have q1 : ((i : Int) != (i : Int)) = false := by simp
            have HP1 := Lib.hid (pushI_ok r b P all i (i : Int) (by rw [hA.out]; omega) (by rw [hA.out]; omega) wr hR.out)
            go_wp2_with fail
            refine Calls.mono HP1.out ?_
            rintro e w3 ⟨rfl, hR3, hT3⟩
            have HR3 := Lib.hid hR3
            have HT3 := Lib.hid (hT2.out.trans hT3)
            have HP2 := Lib.hid (popI_ok r b P (all ++ [[.int .i64 (i : Int)]]) i (i : Int) (by rw [← hA.out]; simp) (by rw [List.length_append, hA.out]; simp; omega) w3 hR3)
            clear hR3 hT3 HP1
            go_wp2_with fail
            refine Calls.mono HP2.out ?_
            rintro e w4 ⟨rfl, hR4, hT4⟩
            have HR4 := Lib.hid hR4
            have HT4 := Lib.hid (HT3.out.trans hT4)
            clear hR4 hT4 HP2
            go_wp2
            go_roundw
            case rel => exact ⟨i + 1, all ++ [[.int .i64 (i : Int)]], by go_num, hlt, Lib.hid (by rw [List.length_append, hA.out]; rfl), HR4, HT4⟩
            case measure => simp [intOf]; omega
          · obtain rfl : i = T := by omega
            have i1 : ¬ (i : Int) < (i : Int) := by omega
            clear hlt
            go_wp2
            obtain ⟨wo, hwo⟩ : ∃ x, x = wr := ⟨_, rfl⟩
            subst hwo
            go_loopw [13] (fun iv wr => ∃ (j : Nat) (all : List (List Value)), iv = .int .i64 (j : Int) ∧ j ≤ P ∧ Hid (all.length = i + j) ∧ Hid (RgI wr r b P all i) ∧ Hid (Tch x2 wr [r, b])) (fun iv _ => P - (intOf iv).toNat)
            case atStart => exact ⟨0, all, rfl, Nat.zero_le _, hA, hR, hT2⟩
            case round =>
              obtain ⟨m, al, rfl, hm, hA, hR, hT2⟩ := hrel
              have m2 : IntKind.i64.wrap ((m : Int) + 1) = (m : Int) + 1 := by rw [IntKind.wrap_i64]; omega
              have m3 : IntKind.i64.wrap ((P : Int) - (m : Int)) = (P : Int) - (m : Int) := by rw [IntKind.wrap_i64]; omega
              have HRo := Lib.hid (ret_as (v' := .int .i64 ((P : Int) - (m : Int))) (roomI_any r b P al i (by rw [hA.out]; omega) wr hR.out) (by rw [len_of hA.out]))
              by_cases hlt : m < P
              · have m1 : (m : Int) < (P : Int) := by omega
                have q2 : ((P : Int) - (m : Int) != (P : Int) - (m : Int)) = false := by simp
                go_wp2_with fail
                refine Calls.mono HRo.out ?_
                rintro e w3 ⟨rfl, hT3⟩
                have HR3 := Lib.hid (hR.out.tch hT3 (by simp) (by simp))
                have HT3 := Lib.hid (hT2.out.trans (hT3.mono (by simp)))
                have HP1 := Lib.hid (pushI_ok r b P al i (m : Int) (by rw [hA.out]; omega) (by rw [hA.out]; omega) w3 HR3.out)
                clear hT3 HRo
                go_wp2_with fail
                refine Calls.mono HP1.out ?_
                rintro e w4 ⟨rfl, hR4, hT4⟩
                have HR4 := Lib.hid hR4
                have HT4 := Lib.hid (HT3.out.trans hT4)
                clear hR4 hT4 HP1
                go_wp2
                go_roundw
                case rel => exact ⟨m + 1, al ++ [[.int .i64 (m : Int)]], by go_num, hlt, Lib.hid (by rw [List.length_append, hA.out]; rfl), HR4, HT4⟩
                case measure => simp [intOf]; omega
              · obtain rfl : m = P := by omega
                have m1 : ¬ (m : Int) < (m : Int) := by omega
                have HP1 := Lib.hid (pushI_full r b m al i (-1) (by rw [hA.out]) (by rw [hA.out]; omega) wr hR.out)
                have q3 : ((0 : Int) == 0) = true := by simp
                have q4 : ((m : Int) == (m : Int)) = true := by simp
                clear HRo hlt
                go_wp2_with fail
                refine Calls.mono HP1.out ?_
                rintro e w3 ⟨rfl, hR3, hT3⟩
                have HR3 := Lib.hid hR3
                have HT3 := Lib.hid (hT2.out.trans hT3)
                have HRo := Lib.hid (ret_as (v' := .int .i64 0) (roomI_any r b m al i (by rw [hA.out]; omega) w3 hR3) (by rw [len_of hA.out]; simp))
                clear hR3 hT3 HP1
                go_wp2_with fail
                refine Calls.mono HRo.out ?_
                rintro e w4 ⟨rfl, hT4⟩
                have HR4 := Lib.hid (HR3.out.tch hT4 (by simp) (by simp))
                have HT4 := Lib.hid (HT3.out.trans (hT4.mono (by simp)))
                have HL := Lib.hid (ret_as (v' := .int .i64 (m : Int)) (lenI_any r b m al i (by rw [hA.out]; omega) w4 HR4.out) (by rw [len_of hA.out]))
                clear hT4 HRo
                go_wp2_with fail
                refine Calls.mono HL.out ?_
                rintro e w5 ⟨rfl, hw5⟩
                have HT5 : Hid (Tch x2 w5 [r, b]) := Lib.hid (hw5 ▸ HT4.out)
                clear hw5 HL
                go_wp2
                go_ret
                exact ⟨rfl, B2.out.1.trans (HT5.out.below B2.out.1.size (by simp; exact ⟨B2.out.2.1, B2.out.2.2⟩))⟩
      · subst he
        clear y1
        go_wp2
        go_loopw [9] (fun iv wr => ∃ (j : Nat) (all : List (List Value)), iv = .int .i64 (j : Int) ∧ j ≤ T ∧ Hid (all.length = j) ∧ Hid (RgI wr r b P all j) ∧ Hid (Tch x2 wr [r, b])) (fun iv _ => T - (intOf iv).toNat)
        case atStart => exact ⟨0, [], rfl, Nat.zero_le _, Lib.hid rfl, R2, Lib.hid (Tch.refl _ _)⟩
        case round =>
          obtain ⟨i, all, rfl, hi, hA, hR, hT2⟩ := hrel
          by_cases hlt : i < T
          · have i1 : (i : Int) < (T : Int) := by omega
            have i2 : IntKind.i64.wrap ((i : Int) + 1) = (i : Int) + 1 := by rw [IntKind.wrap_i64]; omega
            have q1 : ((i : Int) != (i : Int)) = false := by simp
            have HP1 := Lib.hid (pushI_ok r b P all i (i : Int) (by rw [hA.out]; omega) (by rw [hA.out]; omega) wr hR.out)
            go_wp2_with fail
            refine Calls.mono HP1.out ?_
            rintro e w3 ⟨rfl, hR3, hT3⟩
            have HR3 := Lib.hid hR3
            have HT3 := Lib.hid (hT2.out.trans hT3)
            have HP2 := Lib.hid (popI_ok r b P (all ++ [[.int .i64 (i : Int)]]) i (i : Int) (by rw [← hA.out]; simp) (by rw [List.length_append, hA.out]; simp; omega) w3 hR3)
            clear hR3 hT3 HP1
            go_wp2_with fail
            refine Calls.mono HP2.out ?_
            rintro e w4 ⟨rfl, hR4, hT4⟩
            have HR4 := Lib.hid hR4
            have HT4 := Lib.hid (HT3.out.trans hT4)
            clear hR4 hT4 HP2
            go_wp2
            go_roundw
            case rel => exact ⟨i + 1, all ++ [[.int .i64 (i : Int)]], by go_num, hlt, Lib.hid (by rw [List.length_append, hA.out]; rfl), HR4, HT4⟩
            case measure => simp [intOf]; omega
          · obtain rfl : i = T := by omega
            have i1 : ¬ (i : Int) < (i : Int) := by omega
            clear hlt
            go_wp2
            obtain ⟨wo, hwo⟩ : ∃ x, x = wr := ⟨_, rfl⟩
            subst hwo
            go_loopw [13] (fun iv wr => ∃ (j : Nat) (all : List (List Value)), iv = .int .i64 (j : Int) ∧ j ≤ P ∧ Hid (all.length = i + j) ∧ Hid (RgI wr r b P all i) ∧ Hid (Tch x2 wr [r, b])) (fun iv _ => P - (intOf iv).toNat)
            case atStart => exact ⟨0, all, rfl, Nat.zero_le _, hA, hR, hT2⟩
            case round =>
              obtain ⟨m, al, rfl, hm, hA, hR, hT2⟩ := hrel
              have m2 : IntKind.i64.wrap ((m : Int) + 1) = (m : Int) + 1 := by rw [IntKind.wrap_i64]; omega
              have m3 : IntKind.i64.wrap ((P : Int) - (m : Int)) = (P : Int) - (m : Int) := by rw [IntKind.wrap_i64]; omega
              have HRo := Lib.hid (ret_as (v' := .int .i64 ((P : Int) - (m : Int))) (roomI_any r b P al i (by rw [hA.out]; omega) wr hR.out) (by rw [len_of hA.out]))
              by_cases hlt : m < P
              · have m1 : (m : Int) < (P : Int) := by omega
                have q2 : ((P : Int) - (m : Int) != (P : Int) - (m : Int)) = false := by simp
                go_wp2_with fail
                refine Calls.mono HRo.out ?_
                rintro e w3 ⟨rfl, hT3⟩
                have HR3 := Lib.hid (hR.out.tch hT3 (by simp) (by simp))
                have HT3 := Lib.hid (hT2.out.trans (hT3.mono (by simp)))
                have HP1 := Lib.hid (pushI_ok r b P al i (m : Int) (by rw [hA.out]; omega) (by rw [hA.out]; omega) w3 HR3.out)
                clear hT3 HRo
                go_wp2_with fail
                refine Calls.mono HP1.out ?_
                rintro e w4 ⟨rfl, hR4, hT4⟩
                have HR4 := Lib.hid hR4
                have HT4 := Lib.hid (HT3.out.trans hT4)
                clear hR4 hT4 HP1
                go_wp2
                go_roundw
                case rel => exact ⟨m + 1, al ++ [[.int .i64 (m : Int)]], by go_num, hlt, Lib.hid (by rw [List.length_append, hA.out]; rfl), HR4, HT4⟩
                case measure => simp [intOf]; omega
              · obtain rfl : m = P := by omega
                have m1 : ¬ (m : Int) < (m : Int) := by omega
                have HP1 := Lib.hid (pushI_full r b m al i (-1) (by rw [hA.out]) (by rw [hA.out]; omega) wr hR.out)
                have q3 : ((0 : Int) == 0) = true := by simp
                have q4 : ((m : Int) == (m : Int)) = true := by simp
                clear HRo hlt
                go_wp2_with fail
                refine Calls.mono HP1.out ?_
                rintro e w3 ⟨rfl, hR3, hT3⟩
                have HR3 := Lib.hid hR3
                have HT3 := Lib.hid (hT2.out.trans hT3)
                have HRo := Lib.hid (ret_as (v' := .int .i64 0) (roomI_any r b m al i (by rw [hA.out]; omega) w3 hR3) (by rw [len_of hA.out]; simp))
                clear hR3 hT3 HP1
                go_wp2_with fail
                refine Calls.mono HRo.out ?_
                rintro e w4 ⟨rfl, hT4⟩
                have HR4 := Lib.hid (HR3.out.tch hT4 (by simp) (by simp))
                have HT4 := Lib.hid (HT3.out.trans (hT4.mono (by simp)))
                have HL := Lib.hid (ret_as (v' := .int .i64 (m : Int)) (lenI_any r b m al i (by rw [hA.out]; omega) w4 HR4.out) (by rw [len_of hA.out]))
                clear hT4 HRo
                go_wp2_with fail
                refine Calls.mono HL.out ?_
                rintro e w5 ⟨rfl, hw5⟩
                have HT5 : Hid (Tch x2 w5 [r, b]) := Lib.hid (hw5 ▸ HT4.out)
                clear hw5 HL
                go_wp2
                go_ret
                exact ⟨rfl, B2.out.1.trans (HT5.out.below B2.out.1.size (by simp; exact ⟨B2.out.2.1, B2.out.2.2⟩))⟩
set_option maxRecDepth 100000 in
theorem contract (H : Type) (enc : TypeId × Value → H) (W : World) (base : Nat) (args : Array Value) (ds gs : List (DataW H)) (before : List MemPlace)
    (hval0 : ∀ (j : Nat) t v, Try.f7.params[j]? = some t → args[j]? = some v → Value.okWide Try.prog W .any base t v)
    (hW : DataW.Whole enc Try.prog Try.f7.params.toList Rows.ringFullSpec.vars false W args.toList ds gs before)
    (hsz0 : (DataW.weightsEach Try.prog (Try.f7.params.toList ++ Rows.ringFullSpec.plain.varTypes Try.prog) (ds ++ gs)).all (· ≤ reachBytes) = true) :
    Calls Try.prog 7 args W fun e W' => ∃ v, e = .returned v ∧ Rows.ringFullSpec.post enc Try.prog Try.f7 false true false false W args v W' := by
  have hsz := hsz0
  clear hsz0
  have hval := hval0
  clear hval0
  have hW' := hW
  obtain ⟨p, q, hA0, hV, rfl, hfz, hnd⟩ := hW
  have hA : DataW.TrodAll enc Try.prog W 0 (fun _ => true) true Try.f7.params.toList args.toList ds p := hA0
  rw [Try.params7] at hA hval hsz
  obtain ⟨v0, vs0, d0, ds0, p0, q0, hargs, rfl, rfl, h0, r0⟩ := trodAll_cons hA
  obtain ⟨v1, vs1, d1, ds1, p1, q1, rfl, rfl, rfl, h1, r1⟩ := trodAll_cons r0
  obtain ⟨rfl, rfl, rfl⟩ := trodAll_nil r1
  obtain rfl : args = #[v0, v1] := by cases args; simp_all
  obtain ⟨rfl, rfl⟩ := trodVars_none hV
  obtain ⟨a0, rfl, rfl, rfl, w0⟩ := open_int Try.underlying3 (hval 0 3 v0 rfl rfl) h0
  obtain ⟨a1, rfl, rfl, rfl, w1⟩ := open_int Try.underlying3 (hval 1 3 v1 rfl rfl) h1
  clear hA0
  refine (walk W a0 w0 a1 w1).mono fun e W' ⟨he, bel⟩ => ?_
  subst he
  exact ⟨_, rfl, _, _, _, [], _, [], hW', trodAll_mk1 (shut_bool Try.underlying4 _), (trodAll_cons_mk (shut_int Try.underlying3 w0) (trodAll_cons_mk (shut_int Try.underlying3 w1) trodAll_mk0)), rfl, bel.frame _, fun h => by cases h⟩

set_option maxRecDepth 100000 in
theorem lifted (os : Os) (started : os.Started) (H : Type) (enc : TypeId × Value → H) :
    ReturnsInHanded {} Try.checked os 7 .any (Rows.ringFullSpec.pre6 enc Try.prog Try.f7 Rows.ringFullRow.domain false) (Rows.ringFullSpec.post enc Try.prog Try.f7 false true false false) := by
  refine returnsInHanded_of_change_sized (C := Try.checked) own started (by kernel_rfl) Try.func7
    (ChangeSpec.witness6 (enc := enc) (C := Try.checked) false ⟨#[], #[.int .i64 0, .int .i64 0], []⟩ 8 (by kernel_rfl) (by kernel_rfl) (by kernel_rfl) (by kernel_rfl)) ?_
  intro W base args ds gs before hval hW _ hsz _
  exact contract H enc W base args ds gs before hval hW hsz

theorem over : Rows.ringFullRow.holds Try.pinned (OpenSpec.ofChange Rows.ringFullSpec) :=
  OpenClaim.holds_of_wide 7 Try.f7 rfl rfl rfl rfl rfl rfl rfl ⟨rfl, rfl, rfl, rfl, rfl⟩ rfl rfl rfl rfl rfl (by kernel_rfl) Try.func7 (by kernel_rfl)
    (of_decide_eq_true (by kernel_rfl)) (by unfold Func.isWrapper; first | (rw [if_pos (by decide +kernel)]; kernel_rfl) | (rw [if_neg (by decide +kernel)]; exact ⟨rfl, rfl⟩))
    (fun os started H enc _ => lifted os started H enc)

theorem proved : Rows.RingFullSaid := over
#print axioms proved
end RFul
end Go.Proofs.Ytogbchahfkphoaa
