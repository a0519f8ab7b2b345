/-
  crosswaylaw18.MeterShares returns true for every input, and leaves its arguments alone.
  Conditions: none of our own.
-/
import Derived.Test.YtimcjfklnjompaaMtD
namespace Go.Proofs.Ytimcjfklnjompaa
open Go.ChangeShapes Go.WideShapes Go.ChangeAt Go.RowKit
set_option linter.unusedVariables false
namespace MSha
/-- A number, none below 0, below 2^52. -/
def fewN (a : Int) : Nat := (if a < 0 then -(a + 1) else a).toNat % 4503599627370496
theorem few_lt (a : Int) : fewN a < 4503599627370496 := Nat.mod_lt _ (by decide)
set_option maxRecDepth 100000 in
theorem few_any (w : World) (a : Int) (h : (Lit.int .i64 a).wf = true) : Calls Try.prog 8 #[.int .i64 a] w fun e w' => e = .returned (.float .f64 (fN (fewN a))) ∧ w' = w := by
  have hb := i64_bd h
  obtain ⟨r, hr⟩ : ∃ r, fewN a = r := ⟨_, rfl⟩
  have hr6 : r < 4503599627370496 := by rw [← hr]; exact few_lt a
  have w2 : IntKind.i64.wrap (r : Int) = (r : Int) := by rw [IntKind.wrap_i64]; omega
  have hf := floatN r
  rw [hr]
  by_cases hc : a < 0
  · obtain ⟨y, hy⟩ : ∃ y : Nat, -(a + 1) = (y : Int) := ⟨(-(a + 1)).toNat, by omega⟩
    have w0 : IntKind.i64.wrap (a + 1) = a + 1 := by rw [IntKind.wrap_i64]; omega
    have w1 : IntKind.i64.wrap (-(a + 1)) = (y : Int) := by rw [← hy, IntKind.wrap_i64]; omega
    have r1 : Int.tmod (y : Int) 4503599627370496 = (r : Int) := by rw [Int.tmod_eq_emod_of_nonneg (by omega), ← hr]; unfold fewN; rw [if_pos hc, hy]; rfl
    clear hr hb hy h hr6
    go_enter Try.func8, Try.ntmps8
    go_wp2
    go_ret
    exact ⟨rfl, rfl⟩
  · obtain ⟨y, hy⟩ : ∃ y : Nat, a = (y : Int) := ⟨a.toNat, by omega⟩
    have r1 : Int.tmod (y : Int) 4503599627370496 = (r : Int) := by rw [Int.tmod_eq_emod_of_nonneg (by omega), ← hr]; unfold fewN; rw [if_neg hc, hy]; rfl
    subst hy
    clear hr hb h hr6
    go_enter Try.func8, Try.ntmps8
    go_wp2
    go_ret
    exact ⟨rfl, rfl⟩
abbrev od (a b : Nat) : Option Ordering := FloatKind.f64.format.order a b
theorem od_eq {r : Nat} (h : r ≤ 4607182418800017408) : (od r r == some .eq) = true := by
  show (Ieee.double.order r r == some .eq) = true
  rw [(ord_low h).1]; rfl
theorem od_ge {r : Nat} (h : r ≤ 4607182418800017408) : (od r 0 == some .gt || od r 0 == some .eq) = true := by
  show (Ieee.double.order r 0 == some .gt || Ieee.double.order r 0 == some .eq) = true
  rcases (ord_low h).2.1 with e | e <;> rw [e] <;> rfl
theorem od_le {r : Nat} (h : r ≤ 4607182418800017408) : (od r 4607182418800017408 == some .lt || od r 4607182418800017408 == some .eq) = true := by
  show (Ieee.double.order r 4607182418800017408 == some .lt || Ieee.double.order r 4607182418800017408 == some .eq) = true
  rcases (ord_low h).2.2 with e | e <;> rw [e] <;> rfl
theorem od_z {n : Nat} (h : n < 9007199254740992) (h0 : n = 0) : (od (fN n) 0 == some .eq) = true := by rw [ord_z h, h0]; rfl
theorem od_nz {n : Nat} (h : n < 9007199254740992) (h0 : ¬ n = 0) : (od (fN n) 0 == some .eq) = false ∧ (od (fN n) 0 != some .eq) = true := by
  have e := ord_z h
  rw [decide_eq_false h0] at e
  exact ⟨e, by show (!(od (fN n) 0 == some .eq)) = true; rw [e]; rfl⟩
/-- The three ways: nothing at all, none of some, some of some. -/
theorem ways {x z : Nat} (hx : x ≤ z) (h : z < 9007199254740992) :
    ((od (fN z) 0 == some .eq) = true ∧ (od (qN x z) 0 == some .eq) = true ∧ (od (fN x) 0 == some .eq) = true ∧ (od (qN x x) 0 == some .eq) = true) ∨
    (((od (fN z) 0 == some .eq) = false ∧ (od (fN z) 0 != some .eq) = true ∧ (∀ W : World, (binOp .quo 23 (.float .f64 (fN x)) (.float .f64 (fN z))).run Try.prog W = .ok (.float .f64 (qN x z)) W) ∧ (od (qN x z) (qN x z) == some .eq) = true) ∧
      (((od (fN x) 0 == some .eq) = true ∧ (od (qN x x) 0 == some .eq) = true) ∨ ((od (fN x) 0 == some .eq) = false ∧ (od (fN x) 0 != some .eq) = true ∧ (od (qN x x) 4607182418800017408 == some .eq) = true))) := by
  have hxl : x < 9007199254740992 := by omega
  have q0 : (od 0 0 == some .eq) = true := od_eq (by decide)
  have q1 : (od 4607182418800017408 4607182418800017408 == some .eq) = true := od_eq (by decide)
  by_cases hz : z = 0
  · left
    have h0 : x = 0 := by omega
    refine ⟨od_z h hz, ?_, od_z hxl h0, ?_⟩
    · rw [hz, qN_zero]; exact q0
    · rw [h0, qN_zero]; exact q0
  · right
    refine ⟨⟨(od_nz h hz).1, (od_nz h hz).2, fun W => run_float_arith W .quo _ .f64 _ _ _ (qN_quo hx hz h), od_eq (qN_le hx h)⟩, ?_⟩
    by_cases h0 : x = 0
    · left; exact ⟨od_z hxl h0, by rw [h0, qN_zero]; exact q0⟩
    · right; exact ⟨(od_nz hxl h0).1, (od_nz hxl h0).2, by rw [qN_one h0 hxl]; exact q1⟩
set_option maxRecDepth 100000 in
set_option maxHeartbeats 3000000 in
theorem walk (w : World) (a0 : Int) (w0 : (Lit.int .i64 a0).wf = true) (a1 : Int) (w1 : (Lit.int .i64 a1).wf = true) (a2 : Int) (w2 : (Lit.int .i64 a2).wf = true) (a3 : Int) (w3 : (Lit.int .i64 a3).wf = true) :
    Calls Try.prog 3 #[.int .i64 a0, .int .i64 a1, .int .i64 a2, .int .i64 a3] w fun e w' => e = .returned (.bool true) ∧ Below w.heap.size w w' := by
  have F0 := Lib.hid (fun W => few_any W a0 w0)
  have F1 := Lib.hid (fun W => few_any W a1 w1)
  have F2 := Lib.hid (fun W => few_any W a2 w2)
  have F3 := Lib.hid (fun W => few_any W a3 w3)
  clear w0 w1 w2 w3
  have l0 := few_lt a0
  have l1 := few_lt a1
  have l2 := few_lt a2
  have l3 := few_lt a3
  obtain ⟨X, hX⟩ : ∃ X, fewN a0 = X := ⟨_, rfl⟩
  obtain ⟨Y, hY⟩ : ∃ X, fewN a1 = X := ⟨_, rfl⟩
  obtain ⟨U, hU⟩ : ∃ X, fewN a2 = X := ⟨_, rfl⟩
  obtain ⟨V, hV⟩ : ∃ X, fewN a3 = X := ⟨_, rfl⟩
  rw [hX] at F0 l0
  rw [hY] at F1 l1
  rw [hU] at F2 l2
  rw [hV] at F3 l3
  clear hX hY hU hV
  have A1 : ∀ W : World, (binOp .add 23 (.float .f64 (fN X)) (.float .f64 (fN Y))).run Try.prog W = .ok (.float .f64 (fN (X + Y))) W := fun W => run_float_arith W .add _ .f64 _ _ _ (fN_add (by omega))
  have A2 : ∀ W : World, (binOp .add 23 (.float .f64 (fN U)) (.float .f64 (fN V))).run Try.prog W = .ok (.float .f64 (fN (U + V))) W := fun W => run_float_arith W .add _ .f64 _ _ _ (fN_add (by omega))
  have S1 := Lib.hid (fun W => share_any W (x := X) (z := X + Y) (u := U) (v := U + V) (by omega) (by omega) (by omega) (by omega))
  have S2 := Lib.hid (fun W => share_any W (x := Y) (z := X + Y) (u := V) (v := U + V) (by omega) (by omega) (by omega) (by omega))
  have S3 := Lib.hid (fun W => share_any W (x := X) (z := X) (u := U) (v := U) (by omega) (by omega) (by omega) (by omega))
  have g1 := od_ge (qN_le (x := X) (z := X + Y) (by omega) (by omega))
  have g2 := od_le (qN_le (x := X) (z := X + Y) (by omega) (by omega))
  have g3 := od_ge (qN_le (x := V) (z := U + V) (by omega) (by omega))
  have g4 := od_le (qN_le (x := V) (z := U + V) (by omega) (by omega))
  have W1 := ways (x := X) (z := X + Y) (by omega) (by omega)
  have W2 := ways (x := U) (z := U + V) (by omega) (by omega)
  generalize qN X (X + Y) = s1 at S1 g1 g2 W1
  generalize qN U (U + V) = s2 at S1 W2
  generalize qN Y (X + Y) = t1 at S2
  generalize qN V (U + V) = t2 at S2 g3 g4
  generalize qN X X = r1 at S3 W1
  generalize qN U U = r2 at S3 W2
  generalize fN (X + Y) = z1 at A1 S1 S2 W1
  generalize fN (U + V) = z2 at A2 S1 S2 W2
  generalize fN X = x1 at F0 A1 S1 S3 W1
  generalize fN Y = x2 at F1 A1 S2
  generalize fN U = u1 at F2 A2 S1 S3 W2
  generalize fN V = u2 at F3 A2 S2
  clear l0 l1 l2 l3
  rcases W1 with ⟨b1, b2, b3, b4⟩ | ⟨⟨b1, b2, b3, b4⟩, ⟨b5, b6⟩ | ⟨b5, b6, b7⟩⟩
  all_goals
    rcases W2 with ⟨c1, c2, c3, c4⟩ | ⟨⟨c1, c2, c3, c4⟩, ⟨c5, c6⟩ | ⟨c5, c6, c7⟩⟩
    all_goals
      go_enter Try.func3, Try.ntmps3
      go_wp2_with fail
      refine Calls.mono (awake_yes w) ?_
      rintro e y1 ⟨rfl, hb1⟩
      have B1 := Lib.hid hb1
      clear hb1
      go_wp2_with fail
      refine Calls.mono (F0.out _) ?_
      rintro e w' ⟨rfl, rfl⟩
      go_wp2_with fail
      refine Calls.mono (F1.out _) ?_
      rintro e w' ⟨rfl, rfl⟩
      go_wp2_with fail
      refine Calls.mono (F2.out _) ?_
      rintro e w' ⟨rfl, rfl⟩
      go_wp2_with fail
      refine Calls.mono (F3.out _) ?_
      rintro e w' ⟨rfl, rfl⟩
      go_wp2_with fail
      refine Calls.mono (S1.out _) ?_
      rintro e w' ⟨rfl, rfl⟩
      go_wp2_with fail
      refine Calls.mono (S2.out _) ?_
      rintro e w' ⟨rfl, rfl⟩
      go_wp2_with fail
      refine Calls.mono (S3.out _) ?_
      rintro e w' ⟨rfl, rfl⟩
      go_wp2
      go_ret
      exact ⟨rfl, B1.out⟩
set_option maxRecDepth 100000 in
theorem contract (H : Type) (enc : TypeId × Value → H) (W : World) (base : Nat) (args : Array Value) (ds gs : List (DataW H)) (before : List MemPlace)
    (hval0 : ∀ (j : Nat) t v, Try.f3.params[j]? = some t → args[j]? = some v → Value.okWide Try.prog W .any base t v)
    (hW : DataW.Whole enc Try.prog Try.f3.params.toList Rows.meterSharesSpec.vars false W args.toList ds gs before)
    (hsz0 : (DataW.weightsEach Try.prog (Try.f3.params.toList ++ Rows.meterSharesSpec.plain.varTypes Try.prog) (ds ++ gs)).all (· ≤ reachBytes) = true) :
    Calls Try.prog 3 args W fun e W' => ∃ v, e = .returned v ∧ Rows.meterSharesSpec.post enc Try.prog Try.f3 false true false false W args v W' := by
  have hsz := hsz0
  clear hsz0
  have hval := hval0
  clear hval0
  have hW' := hW
  obtain ⟨p, q, hA0, hV, rfl, hfz, hnd⟩ := hW
  have hA : DataW.TrodAll enc Try.prog W 0 (fun _ => true) true Try.f3.params.toList args.toList ds p := hA0
  rw [Try.params3] at hA hval hsz
  obtain ⟨v0, vs0, d0, ds0, p0, q0, hargs, rfl, rfl, h0, r0⟩ := trodAll_cons hA
  obtain ⟨v1, vs1, d1, ds1, p1, q1, rfl, rfl, rfl, h1, r1⟩ := trodAll_cons r0
  obtain ⟨v2, vs2, d2, ds2, p2, q2, rfl, rfl, rfl, h2, r2⟩ := trodAll_cons r1
  obtain ⟨v3, vs3, d3, ds3, p3, q3, rfl, rfl, rfl, h3, r3⟩ := trodAll_cons r2
  obtain ⟨rfl, rfl, rfl⟩ := trodAll_nil r3
  obtain rfl : args = #[v0, v1, v2, v3] := by cases args; simp_all
  obtain ⟨rfl, rfl⟩ := trodVars_none hV
  obtain ⟨a0, rfl, rfl, rfl, w0⟩ := open_int Try.underlying3 (hval 0 3 v0 rfl rfl) h0
  obtain ⟨a1, rfl, rfl, rfl, w1⟩ := open_int Try.underlying3 (hval 1 3 v1 rfl rfl) h1
  obtain ⟨a2, rfl, rfl, rfl, w2⟩ := open_int Try.underlying3 (hval 2 3 v2 rfl rfl) h2
  obtain ⟨a3, rfl, rfl, rfl, w3⟩ := open_int Try.underlying3 (hval 3 3 v3 rfl rfl) h3
  clear hA0
  refine (walk W a0 w0 a1 w1 a2 w2 a3 w3).mono fun e W' ⟨he, bel⟩ => ?_
  subst he
  exact ⟨_, rfl, _, _, _, [], _, [], hW', trodAll_mk1 (shut_bool Try.underlying4 _), (trodAll_cons_mk (shut_int Try.underlying3 w0) (trodAll_cons_mk (shut_int Try.underlying3 w1) (trodAll_cons_mk (shut_int Try.underlying3 w2) (trodAll_cons_mk (shut_int Try.underlying3 w3) trodAll_mk0)))), rfl, bel.frame _, fun h => by cases h⟩

set_option maxRecDepth 100000 in
theorem lifted (os : Os) (started : os.Started) (H : Type) (enc : TypeId × Value → H) :
    ReturnsInHanded {} Try.checked os 3 .any (Rows.meterSharesSpec.pre6 enc Try.prog Try.f3 Rows.meterSharesRow.domain false) (Rows.meterSharesSpec.post enc Try.prog Try.f3 false true false false) := by
  refine returnsInHanded_of_change_sized (C := Try.checked) own started (by kernel_rfl) Try.func3
    (ChangeSpec.witness6 (enc := enc) (C := Try.checked) false ⟨#[], #[.int .i64 0, .int .i64 0, .int .i64 0, .int .i64 0], []⟩ 8 (by kernel_rfl) (by kernel_rfl) (by kernel_rfl) (by kernel_rfl)) ?_
  intro W base args ds gs before hval hW _ hsz _
  exact contract H enc W base args ds gs before hval hW hsz

theorem over : Rows.meterSharesRow.holds Try.pinned (OpenSpec.ofChange Rows.meterSharesSpec) :=
  OpenClaim.holds_of_wide 3 Try.f3 rfl rfl rfl rfl rfl rfl rfl ⟨rfl, rfl, rfl, rfl, rfl⟩ rfl rfl rfl rfl rfl (by kernel_rfl) Try.func3 (by kernel_rfl)
    (of_decide_eq_true (by kernel_rfl)) (by unfold Func.isWrapper; first | (rw [if_pos (by decide +kernel)]; kernel_rfl) | (rw [if_neg (by decide +kernel)]; exact ⟨rfl, rfl⟩))
    (fun os started H enc _ => lifted os started H enc)

theorem proved : Rows.MeterSharesSaid := over
#print axioms proved
end MSha
end Go.Proofs.Ytimcjfklnjompaa
