/-
  H1: a message between two ends is laid as the document's own answer says, or is refused: for every message and any two ends.
-/
import Derived.Test.YtljdebpemdjliaaILw
import Derived.Test.YtljdebpemdjliaaIRl
namespace Go.Proofs.Ytljdebpemdjliaa.Lays
open Go.ChangeShapes Go.WideShapes Go.ChangeAt Go.RowKit
set_option linter.unusedVariables false

set_option maxRecDepth 100000 in
set_option maxHeartbeats 8000000 in
theorem walkL (m : Ms) (a b : Ad) (ha : WfA a) (hb : WfA b) (w : World) :
    Calls Try.prog 3 #[m.val, .agg (ecs a b)] w fun e w' => e = .returned (.bool true) ∧ Below w.heap.size w w' := by
  obtain ⟨W0, hW0, km, ke, hL0⟩ := l_args m a b w
  have K0 := Lib.hid km
  have E0 := Lib.hid ke
  have L0 := Lib.hid hL0
  have HA := Lib.hid (fun W => iawake_yes W)
  have HL := Lib.hid (fun W => ilay_any m a b ha hb W)
  have HR := Lib.hid (fun W => rlay_any m a b ha hb W)
  unfold lyIV at HL HR
  obtain ⟨S, hS⟩ : ∃ S, (lyIR m a b).1 = S := ⟨_, rfl⟩
  obtain ⟨E, hE⟩ : ∃ E, (lyIR m a b).2 = E := ⟨_, rfl⟩
  rw [hS, hE] at HL HR
  clear km ke hL0 hS hE ha hb
  go_enter Try.func3, Try.ntmps3
  go_wp2_with fail
  refine Calls.mono (HA.out _) ?_
  rintro e w1 ⟨rfl, hb⟩
  replace hb : Below W0.heap.size W0 w1 := by rw [hW0]; exact hb
  have K1 := Lib.hid (K0.out.below hb K0.out.lt)
  have E1 := Lib.hid (E0.out.below hb E0.out.lt)
  have L1 := Lib.hid (L0.out.trans (hb.mono L0.out.size))
  clear hb hW0
  obtain ⟨f0, f1, f2, f3, f4⟩ := K1.out.i5
  obtain ⟨g0, g1, g2, g3, g4, g5⟩ := E1.out.i6
  go_wp2_with fail
  refine Calls.mono (HL.out _) ?_
  rintro e w2 ⟨rfl, hb⟩
  have K2 := Lib.hid (K1.out.below hb K1.out.lt)
  have E2 := Lib.hid (E1.out.below hb E1.out.lt)
  have L2 := Lib.hid (L1.out.trans (hb.mono L1.out.size))
  clear hb f0 f1 f2 f3 f4 g0 g1 g2 g3 g4 g5
  obtain ⟨f0, f1, f2, f3, f4⟩ := K2.out.i5
  obtain ⟨g0, g1, g2, g3, g4, g5⟩ := E2.out.i6
  go_wp2_with fail
  refine Calls.mono (HR.out _) ?_
  rintro e w3 ⟨rfl, hb⟩
  have L3 := Lib.hid (L2.out.trans (hb.mono L2.out.size))
  clear hb f0 f1 f2 f3 f4 g0 g1 g2 g3 g4 g5
  go_wp2
  go_ret
  exact ⟨ret_bool (by simp), L3.out⟩
theorem walk (w : World) (a0_0 : Bool) (a0_1 : Int) (w0_1 : (Lit.int .i64 a0_1).wf = true) (a0_2 : Int) (w0_2 : (Lit.int .i64 a0_2).wf = true) (a0_3 : Int) (w0_3 : (Lit.int .i64 a0_3).wf = true) (a0_4 : ByteArray) (w0_4 : a0_4.size ≤ maxLen) (a1_0 : Bool) (a1_1 : Int) (w1_1 : (Lit.int .u64 a1_1).wf = true) (a1_2 : Int) (w1_2 : (Lit.int .u64 a1_2).wf = true) (a1_3 : Bool) (a1_4 : Int) (w1_4 : (Lit.int .u64 a1_4).wf = true) (a1_5 : Int) (w1_5 : (Lit.int .u64 a1_5).wf = true) :
    Calls Try.prog 3 #[.agg #[.bool a0_0, .int .i64 a0_1, .int .i64 a0_2, .int .i64 a0_3, .string a0_4], .agg #[.bool a1_0, .int .u64 a1_1, .int .u64 a1_2, .bool a1_3, .int .u64 a1_4, .int .u64 a1_5]] w fun e w' => e = .returned (.bool true) ∧ Below w.heap.size w w' := by
  exact walkL ⟨a0_0, a0_1, a0_2, a0_3, a0_4⟩ ⟨a1_0, a1_1, a1_2⟩ ⟨a1_3, a1_4, a1_5⟩ ⟨wf_uI w1_1, wf_uI w1_2⟩ ⟨wf_uI w1_4, wf_uI w1_5⟩ w
set_option maxRecDepth 100000 in
theorem contract (H : Type) (enc : TypeId × Value → H) (W : World) (base : Nat) (args : Array Value) (ds gs : List (DataW H)) (before : List MemPlace)
    (hval0 : ∀ (j : Nat) t v, Try.f3.params[j]? = some t → args[j]? = some v → Value.okWide Try.prog W .any base t v)
    (hW : DataW.Whole enc Try.prog Try.f3.params.toList Rows.icmpLaysSpec.vars false W args.toList ds gs before)
    (hsz0 : (DataW.weightsEach Try.prog (Try.f3.params.toList ++ Rows.icmpLaysSpec.plain.varTypes Try.prog) (ds ++ gs)).all (· ≤ reachBytes) = true) :
    Calls Try.prog 3 args W fun e W' => ∃ v, e = .returned v ∧ Rows.icmpLaysSpec.post enc Try.prog Try.f3 false true false false W args v W' := by
  have hsz := hsz0
  clear hsz0
  have hval := hval0
  clear hval0
  have hW' := hW
  obtain ⟨p, q, hA0, hV, rfl, hfz, hnd⟩ := hW
  have hA : DataW.TrodAll enc Try.prog W 0 (fun _ => true) true Try.f3.params.toList args.toList ds p := hA0
  rw [Try.params3] at hA hval hsz
  obtain ⟨v0, vs0, d0, ds0, p0, q0, hargs, rfl, rfl, h0, r0⟩ := trodAll_cons hA
  obtain ⟨v1, vs1, d1, ds1, p1, q1, rfl, rfl, rfl, h1, r1⟩ := trodAll_cons r0
  obtain ⟨rfl, rfl, rfl⟩ := trodAll_nil r1
  obtain rfl : args = #[v0, v1] := by cases args; simp_all
  obtain ⟨rfl, rfl⟩ := trodVars_none hV
  have k0 := h0
  have lt0 : ∀ x ∈ p0, x.block < W.heap.size := by obtain ⟨m, hm⟩ := k0; exact DataW.trod_lt m _ _ _ hm
  obtain ⟨a0_0, a0_1, a0_2, a0_3, a0_4, rfl, w0_1, w0_2, w0_3, w0_4, ep0⟩ := open_icmp (hval 0 23 v0 rfl rfl) h0
  have k1 := h1
  have lt1 : ∀ x ∈ p1, x.block < W.heap.size := by obtain ⟨m, hm⟩ := k1; exact DataW.trod_lt m _ _ _ hm
  obtain ⟨a1_0, a1_1, a1_2, a1_3, a1_4, a1_5, rfl, w1_1, w1_2, w1_4, w1_5, ep1⟩ := open_ends (hval 1 28 v1 rfl rfl) h1
  clear hA0
  refine (walk W a0_0 a0_1 w0_1 a0_2 w0_2 a0_3 w0_3 a0_4 w0_4 a1_0 a1_1 w1_1 a1_2 w1_2 a1_3 a1_4 w1_4 a1_5 w1_5).mono fun e W' ⟨he, bel⟩ => ?_
  subst he
  exact ⟨_, rfl, _, _, _, [], _, [], hW', trodAll_mk1 (shut_bool Try.underlying4 _), (trodAll_cons_mk (Below.trod laidOut (by kernel_rfl) (of_decide_eq_true (by kernel_rfl)) k0 bel lt0) (trodAll_cons_mk (Below.trod laidOut (by kernel_rfl) (of_decide_eq_true (by kernel_rfl)) k1 bel lt1) trodAll_mk0)), rfl, bel.frame _, fun h => by cases h⟩

set_option maxRecDepth 100000 in
theorem lifted (os : Os) (started : os.Started) (H : Type) (enc : TypeId × Value → H) :
    ReturnsInHanded {} Try.checked os 3 .any (Rows.icmpLaysSpec.pre6 enc Try.prog Try.f3 Rows.icmpLaysRow.domain false) (Rows.icmpLaysSpec.post enc Try.prog Try.f3 false true false false) := by
  refine returnsInHanded_of_change_sized (C := Try.checked) own started (by kernel_rfl) Try.func3
    (ChangeSpec.witness6 (enc := enc) (C := Try.checked) false ⟨#[], #[.agg #[.bool false, .int .i64 0, .int .i64 0, .int .i64 0, .string ByteArray.empty], .agg #[.bool false, .int .u64 0, .int .u64 0, .bool false, .int .u64 0, .int .u64 0]], []⟩ 8 (by kernel_rfl) (by kernel_rfl) (by kernel_rfl) (by kernel_rfl)) ?_
  intro W base args ds gs before hval hW _ hsz _
  exact contract H enc W base args ds gs before hval hW hsz

theorem over : Rows.icmpLaysRow.holds Try.pinned (OpenSpec.ofChange Rows.icmpLaysSpec) :=
  OpenClaim.holds_of_wide 3 Try.f3 rfl rfl rfl rfl rfl rfl rfl ⟨rfl, rfl, rfl, rfl, rfl⟩ rfl rfl rfl rfl rfl (by kernel_rfl) Try.func3 (by kernel_rfl)
    (of_decide_eq_true (by kernel_rfl)) (by unfold Func.isWrapper; first | (rw [if_pos (by decide +kernel)]; kernel_rfl) | (rw [if_neg (by decide +kernel)]; exact ⟨rfl, rfl⟩))
    (fun os started H enc _ => lifted os started H enc)

theorem proved : Rows.IcmpLaysSaid := over
#print axioms proved
end Go.Proofs.Ytljdebpemdjliaa.Lays
