/-
  F5: what a packet is laid as is taken up as that packet, whatever stands behind, and nothing that is cut short is: for every packet, every text behind and every cut.
-/
import Derived.Test.YtbaeokimacpobaaFBk1
import Derived.Test.YtbaeokimacpobaaFBk2
import Derived.Test.YtbaeokimacpobaaFBk3
import Derived.Test.YtbaeokimacpobaaFBk4
import Derived.Test.YtbaeokimacpobaaFBk5
namespace Go.Proofs.Ytbaeokimacpobaa.Back
open Go.ChangeShapes Go.WideShapes Go.ChangeAt Go.RowKit
set_option linter.unusedVariables false

set_option maxRecDepth 100000 in
set_option maxHeartbeats 8000000 in
theorem walk (w : World) (a0_0 : Int) (w0_0 : (Lit.int .i64 a0_0).wf = true) (a0_1 : Int) (w0_1 : (Lit.int .i64 a0_1).wf = true) (a0_2 : Bool) (a0_3 : Bool) (a0_4 : Int) (w0_4 : (Lit.int .i64 a0_4).wf = true) (a0_5 : Int) (w0_5 : (Lit.int .i64 a0_5).wf = true) (a0_6 : Int) (w0_6 : (Lit.int .i64 a0_6).wf = true) (a0_7 : Bool) (a0_8 : Int) (w0_8 : (Lit.int .u64 a0_8).wf = true) (a0_9 : Int) (w0_9 : (Lit.int .u64 a0_9).wf = true) (a0_10 : Bool) (a0_11 : Int) (w0_11 : (Lit.int .u64 a0_11).wf = true) (a0_12 : Int) (w0_12 : (Lit.int .u64 a0_12).wf = true) (a0_13 : ByteArray) (w0_13 : a0_13.size ≤ maxLen) (a0_14 : ByteArray) (w0_14 : a0_14.size ≤ maxLen) (a1 : ByteArray) (w1 : a1.size ≤ maxLen) (a2 : Int) (w2 : (Lit.int .i64 a2).wf = true)  :
    Calls Try.prog 6 #[.agg #[.int .i64 a0_0, .int .i64 a0_1, .bool a0_2, .bool a0_3, .int .i64 a0_4, .int .i64 a0_5, .int .i64 a0_6, .bool a0_7, .int .u64 a0_8, .int .u64 a0_9, .bool a0_10, .int .u64 a0_11, .int .u64 a0_12, .string a0_13, .string a0_14], .string a1, .int .i64 a2] w fun e w' => e = .returned (.bool true) ∧ Below w.heap.size w w' := by
  by_cases hok : Rg (⟨a0_0, a0_1, a0_2, a0_3, a0_4, a0_5, a0_6, a0_7, a0_8, a0_9, a0_10, a0_11, a0_12, a0_13, a0_14⟩ : Pk) ∧ 20 + a0_13.size + a0_14.size ≤ 65535
  · by_cases hb : 5000 < a1.size
    · by_cases hc : a2 < 0
      · exact walk_1 w a0_0 w0_0 a0_1 w0_1 a0_2 a0_3 a0_4 w0_4 a0_5 w0_5 a0_6 w0_6 a0_7 a0_8 w0_8 a0_9 w0_9 a0_10 a0_11 w0_11 a0_12 w0_12 a0_13 w0_13 a0_14 w0_14 a1 w1 a2 w2 hok hb hc
      · exact walk_2 w a0_0 w0_0 a0_1 w0_1 a0_2 a0_3 a0_4 w0_4 a0_5 w0_5 a0_6 w0_6 a0_7 a0_8 w0_8 a0_9 w0_9 a0_10 a0_11 w0_11 a0_12 w0_12 a0_13 w0_13 a0_14 w0_14 a1 w1 a2 w2 hok hb hc
    · by_cases hc : a2 < 0
      · exact walk_3 w a0_0 w0_0 a0_1 w0_1 a0_2 a0_3 a0_4 w0_4 a0_5 w0_5 a0_6 w0_6 a0_7 a0_8 w0_8 a0_9 w0_9 a0_10 a0_11 w0_11 a0_12 w0_12 a0_13 w0_13 a0_14 w0_14 a1 w1 a2 w2 hok hb hc
      · exact walk_4 w a0_0 w0_0 a0_1 w0_1 a0_2 a0_3 a0_4 w0_4 a0_5 w0_5 a0_6 w0_6 a0_7 a0_8 w0_8 a0_9 w0_9 a0_10 a0_11 w0_11 a0_12 w0_12 a0_13 w0_13 a0_14 w0_14 a1 w1 a2 w2 hok hb hc
  · exact walk_5 w a0_0 w0_0 a0_1 w0_1 a0_2 a0_3 a0_4 w0_4 a0_5 w0_5 a0_6 w0_6 a0_7 a0_8 w0_8 a0_9 w0_9 a0_10 a0_11 w0_11 a0_12 w0_12 a0_13 w0_13 a0_14 w0_14 a1 w1 a2 w2 hok
set_option maxRecDepth 100000 in
theorem contract (H : Type) (enc : TypeId × Value → H) (W : World) (base : Nat) (args : Array Value) (ds gs : List (DataW H)) (before : List MemPlace)
    (hval0 : ∀ (j : Nat) t v, Try.f6.params[j]? = some t → args[j]? = some v → Value.okWide Try.prog W .any base t v)
    (hW : DataW.Whole enc Try.prog Try.f6.params.toList Rows.fourBackSpec.vars false W args.toList ds gs before)
    (hsz0 : (DataW.weightsEach Try.prog (Try.f6.params.toList ++ Rows.fourBackSpec.plain.varTypes Try.prog) (ds ++ gs)).all (· ≤ reachBytes) = true) :
    Calls Try.prog 6 args W fun e W' => ∃ v, e = .returned v ∧ Rows.fourBackSpec.post enc Try.prog Try.f6 false true false false W args v W' := by
  have hsz := hsz0
  clear hsz0
  have hval := hval0
  clear hval0
  have hW' := hW
  obtain ⟨p, q, hA0, hV, rfl, hfz, hnd⟩ := hW
  have hA : DataW.TrodAll enc Try.prog W 0 (fun _ => true) true Try.f6.params.toList args.toList ds p := hA0
  rw [Try.params6] at hA hval hsz
  obtain ⟨v0, vs0, d0, ds0, p0, q0, hargs, rfl, rfl, h0, r0⟩ := trodAll_cons hA
  obtain ⟨v1, vs1, d1, ds1, p1, q1, rfl, rfl, rfl, h1, r1⟩ := trodAll_cons r0
  obtain ⟨v2, vs2, d2, ds2, p2, q2, rfl, rfl, rfl, h2, r2⟩ := trodAll_cons r1
  obtain ⟨rfl, rfl, rfl⟩ := trodAll_nil r2
  obtain rfl : args = #[v0, v1, v2] := by cases args; simp_all
  obtain ⟨rfl, rfl⟩ := trodVars_none hV
  have k0 := h0
  have lt0 : ∀ x ∈ p0, x.block < W.heap.size := by obtain ⟨m, hm⟩ := k0; exact DataW.trod_lt m _ _ _ hm
  obtain ⟨a0_0, a0_1, a0_2, a0_3, a0_4, a0_5, a0_6, a0_7, a0_8, a0_9, a0_10, a0_11, a0_12, a0_13, a0_14, rfl, w0_0, w0_1, w0_4, w0_5, w0_6, w0_8, w0_9, w0_11, w0_12, w0_13, w0_14, ep0⟩ := open_four (hval 0 26 v0 rfl rfl) h0
  obtain ⟨a1, rfl, rfl, rfl, w1⟩ := Go.ChangeMaps.open_string Try.underlying9 (hval 1 9 v1 rfl rfl) h1
  obtain ⟨a2, rfl, rfl, rfl, w2⟩ := open_int Try.underlying3 (hval 2 3 v2 rfl rfl) h2
  clear hA0
  refine (walk W a0_0 w0_0 a0_1 w0_1 a0_2 a0_3 a0_4 w0_4 a0_5 w0_5 a0_6 w0_6 a0_7 a0_8 w0_8 a0_9 w0_9 a0_10 a0_11 w0_11 a0_12 w0_12 a0_13 w0_13 a0_14 w0_14 a1 w1 a2 w2).mono fun e W' ⟨he, bel⟩ => ?_
  subst he
  exact ⟨_, rfl, _, _, _, [], _, [], hW', trodAll_mk1 (shut_bool Try.underlying4 _), (trodAll_cons_mk (Below.trod laidOut (by kernel_rfl) (of_decide_eq_true (by kernel_rfl)) k0 bel lt0) (trodAll_cons_mk (Go.ChangeMaps.shut_string Try.underlying9 w1) (trodAll_cons_mk (shut_int Try.underlying3 w2) trodAll_mk0))), rfl, bel.frame _, fun h => by cases h⟩

set_option maxRecDepth 100000 in
theorem lifted (os : Os) (started : os.Started) (H : Type) (enc : TypeId × Value → H) :
    ReturnsInHanded {} Try.checked os 6 .any (Rows.fourBackSpec.pre6 enc Try.prog Try.f6 Rows.fourBackRow.domain false) (Rows.fourBackSpec.post enc Try.prog Try.f6 false true false false) := by
  refine returnsInHanded_of_change_sized (C := Try.checked) own started (by kernel_rfl) Try.func6
    (ChangeSpec.witness6 (enc := enc) (C := Try.checked) false ⟨#[], #[.agg #[.int .i64 0, .int .i64 0, .bool false, .bool false, .int .i64 0, .int .i64 0, .int .i64 0, .bool false, .int .u64 0, .int .u64 0, .bool false, .int .u64 0, .int .u64 0, .string ByteArray.empty, .string ByteArray.empty], .string ByteArray.empty, .int .i64 0], []⟩ 8 (by kernel_rfl) (by kernel_rfl) (by kernel_rfl) (by kernel_rfl)) ?_
  intro W base args ds gs before hval hW _ hsz _
  exact contract H enc W base args ds gs before hval hW hsz

theorem over : Rows.fourBackRow.holds Try.pinned (OpenSpec.ofChange Rows.fourBackSpec) :=
  OpenClaim.holds_of_wide 6 Try.f6 rfl rfl rfl rfl rfl rfl rfl ⟨rfl, rfl, rfl, rfl, rfl⟩ rfl rfl rfl rfl rfl (by kernel_rfl) Try.func6 (by kernel_rfl)
    (of_decide_eq_true (by kernel_rfl)) (by unfold Func.isWrapper; first | (rw [if_pos (by decide +kernel)]; kernel_rfl) | (rw [if_neg (by decide +kernel)]; exact ⟨rfl, rfl⟩))
    (fun os started H enc _ => lifted os started H enc)

theorem proved : Rows.FourBackSaid := over
#print axioms proved
end Go.Proofs.Ytbaeokimacpobaa.Back
