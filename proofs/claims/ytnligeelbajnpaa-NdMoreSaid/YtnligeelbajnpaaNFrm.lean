/-
  What is asked and what is told, as they come in, opened.
-/
import Derived.Test.YtnligeelbajnpaaIFrmB
import Derived.Test.YtnligeelbajnpaaNMsg
namespace Go.Proofs.Ytnligeelbajnpaa
open Go.ChangeShapes Go.WideShapes Go.ChangeAt Go.RowKit
set_option linter.unusedVariables false

section
variable {H : Type} {enc : TypeId × Value → H} {W : World}
theorem arrayN8 {cs : Array Value} (h : cs.size = 8) : ∃ c0 c1 c2 c3 c4 c5 c6 c7, cs = #[c0, c1, c2, c3, c4, c5, c6, c7] := by
  obtain ⟨l⟩ := cs
  match l, h with
  | [c0, c1, c2, c3, c4, c5, c6, c7], _ => exact ⟨c0, c1, c2, c3, c4, c5, c6, c7, rfl⟩
set_option maxRecDepth 100000 in
set_option maxHeartbeats 4000000 in
theorem open_sol {b0 base : Nat} {spare : Nat → Bool} {held : Bool} {v : Value} {d : DataW H} {ps : List MemPlace}
    (hval : Value.okWide Try.prog W .any b0 27 v) (h : DataW.Trod enc Try.prog W base spare held 27 v d ps) :
    ∃ x4 x5 x6 x7 x8, v = .agg #[.bool x4, .int .u64 x5, .int .u64 x6, .bool x7, .int .u64 x8] ∧ (Lit.int .u64 x5).wf = true ∧ (Lit.int .u64 x6).wf = true ∧ (Lit.int .u64 x8).wf = true ∧ (ps = [] ∧ d = .agg [.agg [.lit (.bool x4), .lit (.int .u64 x5), .lit (.int .u64 x6)], .lit (.bool x7), .lit (.int .u64 x8)]) := by
  obtain ⟨cs, rfl, hsz⟩ := okWide_struct Try.underlying27 hval
  have eC : Try.prog.cellsOf 27 = 5 := by kernel_rfl
  rw [eC] at hsz
  obtain ⟨c0, c1, c2, c3, c4, rfl⟩ := arrayI5 hsz
  obtain ⟨fuel, hf⟩ := h
  have e0 : Try.prog.cellsOf 24 = 3 := by kernel_rfl
  have e2 : Try.prog.cellsOf 4 = 1 := by kernel_rfl
  have e3 : Try.prog.cellsOf 22 = 1 := by kernel_rfl
  have e4 : Try.prog.cellsOf 25 = 1 := by kernel_rfl
  cases fuel with
  | zero => simp [DataW.trod] at hf
  | succ fuel =>
    simp only [DataW.trod, Try.underlying27, Value.cells] at hf
    split at hf
    · obtain ⟨xs, hm, hx⟩ := Option.map_eq_some_iff.1 hf
      simp only [List.mapM_cons, List.mapM_nil, bind, Option.bind_eq_some_iff, pure, Option.some.injEq] at hm
      obtain ⟨y0, g0, r0, ⟨y1, g1, r1, ⟨y2, g2, r2, rfl, rfl⟩, rfl⟩, rfl⟩ := hm
      simp only [e0, e2, e4, List.drop_zero, List.take_succ_cons, List.take_zero, List.drop_succ_cons] at g0 g1 g2
      obtain ⟨z0, z1, z2, m, hz, _, k0, k1, k2⟩ := Go.Deep.trod_struct3 Try.underlying24 g0
      simp only [e2, e3, List.drop_zero, List.take_succ_cons, List.take_zero, List.drop_succ_cons] at k0 k1 k2
      obtain ⟨x4, t4, q4⟩ := DataW.trod_bool Try.underlying4 k0
      obtain ⟨x5, t5, q5, w5⟩ := DataW.trod_int Try.underlying22 k1
      obtain ⟨x6, t6, q6, w6⟩ := DataW.trod_int Try.underlying22 k2
      obtain ⟨x7, t7, q7⟩ := DataW.trod_bool Try.underlying4 g1
      obtain ⟨x8, t8, q8, w8⟩ := DataW.trod_int Try.underlying25 g2
      injection t4 with t4 _
      injection t5 with t5 _
      injection t6 with t6 _
      injection t7 with t7 _
      injection t8 with t8 _
      subst t4 t5 t6 t7 t8
      simp only [Prod.mk.injEq] at hx
      refine ⟨x4, x5, x6, x7, x8, rfl, w5, w6, w8, ?_, ?_⟩
      · rw [← hx.2]; simp [hz, q4, q5, q6, q7, q8]
      · rw [← hx.1]; simp [hz, q4, q5, q6, q7, q8]
    · cases hf
set_option maxRecDepth 100000 in
set_option maxHeartbeats 4000000 in
theorem open_adv {b0 base : Nat} {spare : Nat → Bool} {held : Bool} {v : Value} {d : DataW H} {ps : List MemPlace}
    (hval : Value.okWide Try.prog W .any b0 29 v) (h : DataW.Trod enc Try.prog W base spare held 29 v d ps) :
    ∃ x4 x5 x6 x7 x8 x9 x10 x11, v = .agg #[.bool x4, .int .u64 x5, .int .u64 x6, .bool x7, .bool x8, .bool x9, .bool x10, .int .u64 x11] ∧ (Lit.int .u64 x5).wf = true ∧ (Lit.int .u64 x6).wf = true ∧ (Lit.int .u64 x11).wf = true ∧ (ps = [] ∧ d = .agg [.agg [.lit (.bool x4), .lit (.int .u64 x5), .lit (.int .u64 x6)], .lit (.bool x7), .lit (.bool x8), .lit (.bool x9), .lit (.bool x10), .lit (.int .u64 x11)]) := by
  obtain ⟨cs, rfl, hsz⟩ := okWide_struct Try.underlying29 hval
  have eC : Try.prog.cellsOf 29 = 8 := by kernel_rfl
  rw [eC] at hsz
  obtain ⟨c0, c1, c2, c3, c4, c5, c6, c7, rfl⟩ := arrayN8 hsz
  obtain ⟨fuel, hf⟩ := h
  have e0 : Try.prog.cellsOf 24 = 3 := by kernel_rfl
  have e2 : Try.prog.cellsOf 4 = 1 := by kernel_rfl
  have e3 : Try.prog.cellsOf 22 = 1 := by kernel_rfl
  have e4 : Try.prog.cellsOf 25 = 1 := by kernel_rfl
  cases fuel with
  | zero => simp [DataW.trod] at hf
  | succ fuel =>
    simp only [DataW.trod, Try.underlying29, Value.cells] at hf
    split at hf
    · obtain ⟨xs, hm, hx⟩ := Option.map_eq_some_iff.1 hf
      simp only [List.mapM_cons, List.mapM_nil, bind, Option.bind_eq_some_iff, pure, Option.some.injEq] at hm
      obtain ⟨y0, g0, r0, ⟨y1, g1, r1, ⟨y2, g2, r2, ⟨y3, g3, r3, ⟨y4, g4, r4, ⟨y5, g5, r5, rfl, rfl⟩, rfl⟩, rfl⟩, rfl⟩, rfl⟩, rfl⟩ := hm
      simp only [e0, e2, e4, List.drop_zero, List.take_succ_cons, List.take_zero, List.drop_succ_cons] at g0 g1 g2 g3 g4 g5
      obtain ⟨z0, z1, z2, m, hz, _, k0, k1, k2⟩ := Go.Deep.trod_struct3 Try.underlying24 g0
      simp only [e2, e3, List.drop_zero, List.take_succ_cons, List.take_zero, List.drop_succ_cons] at k0 k1 k2
      obtain ⟨x4, t4, q4⟩ := DataW.trod_bool Try.underlying4 k0
      obtain ⟨x5, t5, q5, w5⟩ := DataW.trod_int Try.underlying22 k1
      obtain ⟨x6, t6, q6, w6⟩ := DataW.trod_int Try.underlying22 k2
      obtain ⟨x7, t7, q7⟩ := DataW.trod_bool Try.underlying4 g1
      obtain ⟨x8, t8, q8⟩ := DataW.trod_bool Try.underlying4 g2
      obtain ⟨x9, t9, q9⟩ := DataW.trod_bool Try.underlying4 g3
      obtain ⟨x10, t10, q10⟩ := DataW.trod_bool Try.underlying4 g4
      obtain ⟨x11, t11, q11, w11⟩ := DataW.trod_int Try.underlying25 g5
      injection t4 with t4 _
      injection t5 with t5 _
      injection t6 with t6 _
      injection t7 with t7 _
      injection t8 with t8 _
      injection t9 with t9 _
      injection t10 with t10 _
      injection t11 with t11 _
      subst t4 t5 t6 t7 t8 t9 t10 t11
      simp only [Prod.mk.injEq] at hx
      refine ⟨x4, x5, x6, x7, x8, x9, x10, x11, rfl, w5, w6, w11, ?_, ?_⟩
      · rw [← hx.2]; simp [hz, q4, q5, q6, q7, q8, q9, q10, q11]
      · rw [← hx.1]; simp [hz, q4, q5, q6, q7, q8, q9, q10, q11]
    · cases hf
end
end Go.Proofs.Ytnligeelbajnpaa
