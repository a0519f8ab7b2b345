/-
  I4: what is asked is taken as what was asked, what is told as what was told, and neither as the other; what may not be is refused with no message: for everything that may be asked or told.
-/
import Derived.Test.YtnligeelbajnpaaNBk1
import Derived.Test.YtnligeelbajnpaaNBk2
import Derived.Test.YtnligeelbajnpaaNBk3
import Derived.Test.YtnligeelbajnpaaNBk4
namespace Go.Proofs.Ytnligeelbajnpaa.Back
open Go.ChangeShapes Go.WideShapes Go.ChangeAt Go.RowKit
set_option linter.unusedVariables false

theorem walkB (x : Sol) (y : Adv) (hx : U6 x.h ∧ U6 x.l ∧ U6 x.m) (hy : U6 y.h ∧ U6 y.l ∧ U6 y.m) (w : World) :
    Calls Try.prog 5 #[x.val, y.val] w fun e w' => e = .returned (.bool true) ∧ Below w.heap.size w w' := by
  have H1 := Lib.hid (fun W => nask_any x hx W)
  have H2 := Lib.hid (fun W => ntka_any (askR x).1 (by have := ask_size x; omega) W)
  have H3 := Lib.hid (fun W => ntkt_any (askR x).1 (by have := ask_size x; omega) false false false (ask_r x) W)
  have H4 := Lib.hid (fun W => ntell_any y hy W)
  obtain ⟨p5, a5, o5, hr5⟩ := tel_r y
  have H5 := Lib.hid (fun W => ntkt_any (telR y).1 (by have := tel_size y; omega) p5 a5 o5 hr5 W)
  clear hr5
  have H6 := Lib.hid (fun W => ntka_any (telR y).1 (by have := tel_size y; omega) W)
  unfold askV at H1
  unfold tkaV at H2 H6
  unfold tktV at H3 H5
  unfold telV at H4
  rcases Bool.eq_false_or_eq_true (rgtB x.s x.h x.l x.y x.m) with rx | rx
  · obtain ⟨e1, e2⟩ := ask_back ⟨hx.1, hx.2.1, hx.2.2.1⟩ rx
    have e0 : (askR x).2 = 0 := by unfold askR; rw [if_pos rx]
    rw [e0] at H1
    rw [e1] at H2
    rw [e2] at H3
    rcases Bool.eq_false_or_eq_true (rgtB y.s y.h y.l y.y y.m) with ry | ry
    · obtain ⟨d1, d2⟩ := tel_back ⟨hy.1, hy.2.1, hy.2.2.1⟩ ry
      have d0 : (telR y).2 = 0 := by unfold telR; rw [if_pos ry]
      rw [d0] at H4
      rw [d1] at H5
      rw [d2] at H6
      exact leaf_yy x y _ _ H1 H2 H3 H4 H5 H6 w
    · have d0 : telR y = (⟨false, 0, 0, 0, ⟨#[]⟩⟩, 80) := by unfold telR; rw [if_neg (by rw [ry]; decide)]; rfl
      rw [d0] at H4
      exact leaf_yn x y _ H1 H2 H3 H4 w
  · have e0 : askR x = (⟨false, 0, 0, 0, ⟨#[]⟩⟩, 80) := by unfold askR; rw [if_neg (by rw [rx]; decide)]; rfl
    rw [e0] at H1
    rcases Bool.eq_false_or_eq_true (rgtB y.s y.h y.l y.y y.m) with ry | ry
    · obtain ⟨d1, d2⟩ := tel_back ⟨hy.1, hy.2.1, hy.2.2.1⟩ ry
      have d0 : (telR y).2 = 0 := by unfold telR; rw [if_pos ry]
      rw [d0] at H4
      rw [d1] at H5
      rw [d2] at H6
      exact leaf_ny x y _ H1 H4 H5 H6 w
    · have d0 : telR y = (⟨false, 0, 0, 0, ⟨#[]⟩⟩, 80) := by unfold telR; rw [if_neg (by rw [ry]; decide)]; rfl
      rw [d0] at H4
      exact leaf_nn x y H1 H4 w
theorem walk (w : World) (a0_0 : Bool) (a0_1 : Int) (w0_1 : (Lit.int .u64 a0_1).wf = true) (a0_2 : Int) (w0_2 : (Lit.int .u64 a0_2).wf = true) (a0_3 : Bool) (a0_4 : Int) (w0_4 : (Lit.int .u64 a0_4).wf = true) (a1_0 : Bool) (a1_1 : Int) (w1_1 : (Lit.int .u64 a1_1).wf = true) (a1_2 : Int) (w1_2 : (Lit.int .u64 a1_2).wf = true) (a1_3 : Bool) (a1_4 : Bool) (a1_5 : Bool) (a1_6 : Bool) (a1_7 : Int) (w1_7 : (Lit.int .u64 a1_7).wf = true) :
    Calls Try.prog 5 #[.agg #[.bool a0_0, .int .u64 a0_1, .int .u64 a0_2, .bool a0_3, .int .u64 a0_4], .agg #[.bool a1_0, .int .u64 a1_1, .int .u64 a1_2, .bool a1_3, .bool a1_4, .bool a1_5, .bool a1_6, .int .u64 a1_7]] w fun e w' => e = .returned (.bool true) ∧ Below w.heap.size w w' := by
  exact walkB ⟨a0_0, a0_1, a0_2, a0_3, a0_4⟩ ⟨a1_0, a1_1, a1_2, a1_3, a1_4, a1_5, a1_6, a1_7⟩ ⟨wf_uI w0_1, wf_uI w0_2, wf_uI w0_4⟩ ⟨wf_uI w1_1, wf_uI w1_2, wf_uI w1_7⟩ w
set_option maxRecDepth 100000 in
theorem contract (H : Type) (enc : TypeId × Value → H) (W : World) (base : Nat) (args : Array Value) (ds gs : List (DataW H)) (before : List MemPlace)
    (hval0 : ∀ (j : Nat) t v, Try.f5.params[j]? = some t → args[j]? = some v → Value.okWide Try.prog W .any base t v)
    (hW : DataW.Whole enc Try.prog Try.f5.params.toList Rows.ndBackSpec.vars false W args.toList ds gs before)
    (hsz0 : (DataW.weightsEach Try.prog (Try.f5.params.toList ++ Rows.ndBackSpec.plain.varTypes Try.prog) (ds ++ gs)).all (· ≤ reachBytes) = true) :
    Calls Try.prog 5 args W fun e W' => ∃ v, e = .returned v ∧ Rows.ndBackSpec.post enc Try.prog Try.f5 false true false false W args v W' := by
  have hsz := hsz0
  clear hsz0
  have hval := hval0
  clear hval0
  have hW' := hW
  obtain ⟨p, q, hA0, hV, rfl, hfz, hnd⟩ := hW
  have hA : DataW.TrodAll enc Try.prog W 0 (fun _ => true) true Try.f5.params.toList args.toList ds p := hA0
  rw [Try.params5] at hA hval hsz
  obtain ⟨v0, vs0, d0, ds0, p0, q0, hargs, rfl, rfl, h0, r0⟩ := trodAll_cons hA
  obtain ⟨v1, vs1, d1, ds1, p1, q1, rfl, rfl, rfl, h1, r1⟩ := trodAll_cons r0
  obtain ⟨rfl, rfl, rfl⟩ := trodAll_nil r1
  obtain rfl : args = #[v0, v1] := by cases args; simp_all
  obtain ⟨rfl, rfl⟩ := trodVars_none hV
  have k0 := h0
  have lt0 : ∀ x ∈ p0, x.block < W.heap.size := by obtain ⟨m, hm⟩ := k0; exact DataW.trod_lt m _ _ _ hm
  obtain ⟨a0_0, a0_1, a0_2, a0_3, a0_4, rfl, w0_1, w0_2, w0_4, ep0⟩ := open_sol (hval 0 27 v0 rfl rfl) h0
  have k1 := h1
  have lt1 : ∀ x ∈ p1, x.block < W.heap.size := by obtain ⟨m, hm⟩ := k1; exact DataW.trod_lt m _ _ _ hm
  obtain ⟨a1_0, a1_1, a1_2, a1_3, a1_4, a1_5, a1_6, a1_7, rfl, w1_1, w1_2, w1_7, ep1⟩ := open_adv (hval 1 29 v1 rfl rfl) h1
  clear hA0
  refine (walk W a0_0 a0_1 w0_1 a0_2 w0_2 a0_3 a0_4 w0_4 a1_0 a1_1 w1_1 a1_2 w1_2 a1_3 a1_4 a1_5 a1_6 a1_7 w1_7).mono fun e W' ⟨he, bel⟩ => ?_
  subst he
  exact ⟨_, rfl, _, _, _, [], _, [], hW', trodAll_mk1 (shut_bool Try.underlying4 _), (trodAll_cons_mk (Below.trod laidOut (by kernel_rfl) (of_decide_eq_true (by kernel_rfl)) k0 bel lt0) (trodAll_cons_mk (Below.trod laidOut (by kernel_rfl) (of_decide_eq_true (by kernel_rfl)) k1 bel lt1) trodAll_mk0)), rfl, bel.frame _, fun h => by cases h⟩

set_option maxRecDepth 100000 in
theorem lifted (os : Os) (started : os.Started) (H : Type) (enc : TypeId × Value → H) :
    ReturnsInHanded {} Try.checked os 5 .any (Rows.ndBackSpec.pre6 enc Try.prog Try.f5 Rows.ndBackRow.domain false) (Rows.ndBackSpec.post enc Try.prog Try.f5 false true false false) := by
  refine returnsInHanded_of_change_sized (C := Try.checked) own started (by kernel_rfl) Try.func5
    (ChangeSpec.witness6 (enc := enc) (C := Try.checked) false ⟨#[], #[.agg #[.bool false, .int .u64 0, .int .u64 0, .bool false, .int .u64 0], .agg #[.bool false, .int .u64 0, .int .u64 0, .bool false, .bool false, .bool false, .bool false, .int .u64 0]], []⟩ 8 (by kernel_rfl) (by kernel_rfl) (by kernel_rfl) (by kernel_rfl)) ?_
  intro W base args ds gs before hval hW _ hsz _
  exact contract H enc W base args ds gs before hval hW hsz

theorem over : Rows.ndBackRow.holds Try.pinned (OpenSpec.ofChange Rows.ndBackSpec) :=
  OpenClaim.holds_of_wide 5 Try.f5 rfl rfl rfl rfl rfl rfl rfl ⟨rfl, rfl, rfl, rfl, rfl⟩ rfl rfl rfl rfl rfl (by kernel_rfl) Try.func5 (by kernel_rfl)
    (of_decide_eq_true (by kernel_rfl)) (by unfold Func.isWrapper; first | (rw [if_pos (by decide +kernel)]; kernel_rfl) | (rw [if_neg (by decide +kernel)]; exact ⟨rfl, rfl⟩))
    (fun os started H enc _ => lifted os started H enc)

theorem proved : Rows.NdBackSaid := over
#print axioms proved
end Go.Proofs.Ytnligeelbajnpaa.Back
