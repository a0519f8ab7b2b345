/-
  A packet that comes in, opened: numbers, two addresses by value, two texts.
-/
import Derived.Test.YtbaeokimacpobaaFrame
import Derived.Test.YtbaeokimacpobaaFNum
namespace Go.Proofs.Ytbaeokimacpobaa
open Go.ChangeShapes Go.WideShapes Go.ChangeAt Go.RowKit
set_option linter.unusedVariables false

theorem wf_nonneg {n : Int} (h : (Lit.int .u64 n).wf = true) : 0 ≤ n := by
  simp [Lit.wf, IntKind.min, IntKind.max, IntKind.bits, IntKind.signed] at h
  omega
section
variable {H : Type} {enc : TypeId × Value → H} {W : World}
theorem array15 {cs : Array Value} (h : cs.size = 15) : ∃ c0 c1 c2 c3 c4 c5 c6 c7 c8 c9 c10 c11 c12 c13 c14, cs = #[c0, c1, c2, c3, c4, c5, c6, c7, c8, c9, c10, c11, c12, c13, c14] := by
  obtain ⟨l⟩ := cs
  match l, h with
  | [c0, c1, c2, c3, c4, c5, c6, c7, c8, c9, c10, c11, c12, c13, c14], _ => exact ⟨c0, c1, c2, c3, c4, c5, c6, c7, c8, c9, c10, c11, c12, c13, c14, rfl⟩
set_option maxRecDepth 100000 in
set_option maxHeartbeats 4000000 in
theorem open_four {b0 base : Nat} {spare : Nat → Bool} {held : Bool} {v : Value} {d : DataW H} {ps : List MemPlace}
    (hval : Value.okWide Try.prog W .any b0 26 v) (h : DataW.Trod enc Try.prog W base spare held 26 v d ps) :
    ∃ x0 x1 x2 x3 x4 x5 x6 x7 x8 x9 x10 x11 x12 x13 x14, v = .agg #[.int .i64 x0, .int .i64 x1, .bool x2, .bool x3, .int .i64 x4, .int .i64 x5, .int .i64 x6, .bool x7, .int .u64 x8, .int .u64 x9, .bool x10, .int .u64 x11, .int .u64 x12, .string x13, .string x14] ∧ (Lit.int .i64 x0).wf = true ∧ (Lit.int .i64 x1).wf = true ∧ (Lit.int .i64 x4).wf = true ∧ (Lit.int .i64 x5).wf = true ∧ (Lit.int .i64 x6).wf = true ∧ (Lit.int .u64 x8).wf = true ∧ (Lit.int .u64 x9).wf = true ∧ (Lit.int .u64 x11).wf = true ∧ (Lit.int .u64 x12).wf = true ∧ x13.size ≤ maxLen ∧ x14.size ≤ maxLen ∧ (ps = [] ∧ d = .agg [.lit (.int .i64 x0), .lit (.int .i64 x1), .lit (.bool x2), .lit (.bool x3), .lit (.int .i64 x4), .lit (.int .i64 x5), .lit (.int .i64 x6), .agg [.lit (.bool x7), .lit (.int .u64 x8), .lit (.int .u64 x9)], .agg [.lit (.bool x10), .lit (.int .u64 x11), .lit (.int .u64 x12)], .lit (.string x13.data.toList), .lit (.string x14.data.toList)]) := by
  obtain ⟨cs, rfl, hsz⟩ := okWide_struct Try.underlying26 hval
  have eC : Try.prog.cellsOf 26 = 15 := by kernel_rfl
  rw [eC] at hsz
  obtain ⟨c0, c1, c2, c3, c4, c5, c6, c7, c8, c9, c10, c11, c12, c13, c14, rfl⟩ := array15 hsz
  obtain ⟨fuel, hf⟩ := h
  have e0 : Try.prog.cellsOf 24 = 3 := by kernel_rfl
  have e1 : Try.prog.cellsOf 3 = 1 := by kernel_rfl
  have e2 : Try.prog.cellsOf 4 = 1 := by kernel_rfl
  have e3 : Try.prog.cellsOf 22 = 1 := by kernel_rfl
  have e4 : Try.prog.cellsOf 9 = 1 := by kernel_rfl
  cases fuel with
  | zero => simp [DataW.trod] at hf
  | succ fuel =>
    simp only [DataW.trod, Try.underlying26, Value.cells] at hf
    split at hf
    · obtain ⟨xs, hm, hx⟩ := Option.map_eq_some_iff.1 hf
      simp only [List.mapM_cons, List.mapM_nil, bind, Option.bind_eq_some_iff, pure, Option.some.injEq] at hm
      obtain ⟨y0, g0, r0, ⟨y1, g1, r1, ⟨y2, g2, r2, ⟨y3, g3, r3, ⟨y4, g4, r4, ⟨y5, g5, r5, ⟨y6, g6, r6, ⟨y7, g7, r7, ⟨y8, g8, r8, ⟨y9, g9, r9, ⟨y10, g10, r10, rfl, rfl⟩, rfl⟩, rfl⟩, rfl⟩, rfl⟩, rfl⟩, rfl⟩, rfl⟩, rfl⟩, rfl⟩, rfl⟩ := hm
      simp only [e0, e1, e2, e4, List.drop_zero, List.take_succ_cons, List.take_zero, List.drop_succ_cons] at g0 g1 g2 g3 g4 g5 g6 g7 g8 g9 g10
      obtain ⟨z0, z1, z2, m, hz, _, k0, k1, k2⟩ := Go.Deep.trod_struct3 Try.underlying24 g7
      obtain ⟨u0, u1, u2, m', hu, _, l0, l1, l2⟩ := Go.Deep.trod_struct3 Try.underlying24 g8
      simp only [e2, e3, List.drop_zero, List.take_succ_cons, List.take_zero, List.drop_succ_cons] at k0 k1 k2 l0 l1 l2
      obtain ⟨x0, t0, q0, w0⟩ := DataW.trod_int Try.underlying3 g0
      obtain ⟨x1, t1, q1, w1⟩ := DataW.trod_int Try.underlying3 g1
      obtain ⟨x2, t2, q2⟩ := DataW.trod_bool Try.underlying4 g2
      obtain ⟨x3, t3, q3⟩ := DataW.trod_bool Try.underlying4 g3
      obtain ⟨x4, t4, q4, w4⟩ := DataW.trod_int Try.underlying3 g4
      obtain ⟨x5, t5, q5, w5⟩ := DataW.trod_int Try.underlying3 g5
      obtain ⟨x6, t6, q6, w6⟩ := DataW.trod_int Try.underlying3 g6
      obtain ⟨x7, t7, q7⟩ := DataW.trod_bool Try.underlying4 k0
      obtain ⟨x8, t8, q8, w8⟩ := DataW.trod_int Try.underlying22 k1
      obtain ⟨x9, t9, q9, w9⟩ := DataW.trod_int Try.underlying22 k2
      obtain ⟨x10, t10, q10⟩ := DataW.trod_bool Try.underlying4 l0
      obtain ⟨x11, t11, q11, w11⟩ := DataW.trod_int Try.underlying22 l1
      obtain ⟨x12, t12, q12, w12⟩ := DataW.trod_int Try.underlying22 l2
      obtain ⟨x13, t13, q13, w13⟩ := DataW.trod_string Try.underlying9 g9
      obtain ⟨x14, t14, q14, w14⟩ := DataW.trod_string Try.underlying9 g10
      injection t0 with t0 _
      injection t1 with t1 _
      injection t2 with t2 _
      injection t3 with t3 _
      injection t4 with t4 _
      injection t5 with t5 _
      injection t6 with t6 _
      injection t7 with t7 _
      injection t8 with t8 _
      injection t9 with t9 _
      injection t10 with t10 _
      injection t11 with t11 _
      injection t12 with t12 _
      injection t13 with t13 _
      injection t14 with t14 _
      subst t0 t1 t2 t3 t4 t5 t6 t7 t8 t9 t10 t11 t12 t13 t14
      simp only [Prod.mk.injEq] at hx
      refine ⟨x0, x1, x2, x3, x4, x5, x6, x7, x8, x9, x10, x11, x12, x13, x14, rfl, w0, w1, w4, w5, w6, w8, w9, w11, w12, w13, w14, ?_, ?_⟩
      · rw [← hx.2]; simp [hz, hu, q0, q1, q2, q3, q4, q5, q6, q7, q8, q9, q10, q11, q12, q13, q14]
      · rw [← hx.1]; simp [hz, hu, q0, q1, q2, q3, q4, q5, q6, q7, q8, q9, q10, q11, q12, q13, q14]
    · cases hf
end
end Go.Proofs.Ytbaeokimacpobaa
