/-
  A message that comes in, opened; a text within a struct is no longer than memory allows.
-/
import Derived.Test.YtnligeelbajnpaaFrame
import Derived.Test.YtnligeelbajnpaaINum
namespace Go.Proofs.Ytnligeelbajnpaa
open Go.ChangeShapes Go.WideShapes Go.ChangeAt Go.RowKit
set_option linter.unusedVariables false

theorem wf_uI {n : Int} (h : (Lit.int .u64 n).wf = true) : 0 ≤ n ∧ n ≤ 18446744073709551615 := by
  simp [Lit.wf, IntKind.min, IntKind.max, IntKind.bits, IntKind.signed] at h
  omega
theorem sized_agg_str {H : Type} {P : Program} {ts : List TypeId} {ds : List (DataW H)} (h : (DataW.weightsEach P ts ds).all (· ≤ reachBytes) = true) {j i : Nat} {t u : TypeId} {fs : Array Field} {parts : List (DataW H)} {bytes : List UInt8}
    (ht : ts[j]? = some t) (hd : ds[j]? = some (.agg parts)) (hu : P.underlying t = some (.struct fs)) (hf : (fs.toList.map (·.type))[i]? = some u) (hp : parts[i]? = some (.lit (.string bytes))) : bytes.length ≤ 140737488351232 := by
  have h1 : bytes.length ∈ DataW.weights P t (.agg parts : DataW H) := by
    simp only [DataW.weights, hu]
    exact DataW.weights_mem_each hf hp bytes.length (by simp [DataW.weights])
  have h2 := List.all_eq_true.1 h _ (DataW.weights_mem_each ht hd bytes.length h1)
  have h3 : reachBytes = 140737488351232 := by decide
  rw [← h3]
  simpa using h2
section
variable {H : Type} {enc : TypeId × Value → H} {W : World}
theorem arrayI5 {cs : Array Value} (h : cs.size = 5) : ∃ c0 c1 c2 c3 c4, cs = #[c0, c1, c2, c3, c4] := by
  obtain ⟨l⟩ := cs
  match l, h with
  | [c0, c1, c2, c3, c4], _ => exact ⟨c0, c1, c2, c3, c4, rfl⟩
theorem arrayI6 {cs : Array Value} (h : cs.size = 6) : ∃ c0 c1 c2 c3 c4 c5, cs = #[c0, c1, c2, c3, c4, c5] := by
  obtain ⟨l⟩ := cs
  match l, h with
  | [c0, c1, c2, c3, c4, c5], _ => exact ⟨c0, c1, c2, c3, c4, c5, rfl⟩
set_option maxRecDepth 100000 in
set_option maxHeartbeats 4000000 in
theorem open_icmp {b0 base : Nat} {spare : Nat → Bool} {held : Bool} {v : Value} {d : DataW H} {ps : List MemPlace}
    (hval : Value.okWide Try.prog W .any b0 32 v) (h : DataW.Trod enc Try.prog W base spare held 32 v d ps) :
    ∃ x0 x1 x2 x3 x4, v = .agg #[.bool x0, .int .i64 x1, .int .i64 x2, .int .i64 x3, .string x4] ∧ (Lit.int .i64 x1).wf = true ∧ (Lit.int .i64 x2).wf = true ∧ (Lit.int .i64 x3).wf = true ∧ x4.size ≤ maxLen ∧ (ps = [] ∧ d = .agg [.lit (.bool x0), .lit (.int .i64 x1), .lit (.int .i64 x2), .lit (.int .i64 x3), .lit (.string x4.data.toList)]) := by
  obtain ⟨cs, rfl, hsz⟩ := okWide_struct Try.underlying32 hval
  have eC : Try.prog.cellsOf 32 = 5 := by kernel_rfl
  rw [eC] at hsz
  obtain ⟨c0, c1, c2, c3, c4, rfl⟩ := arrayI5 hsz
  obtain ⟨fuel, hf⟩ := h
  have e1 : Try.prog.cellsOf 3 = 1 := by kernel_rfl
  have e2 : Try.prog.cellsOf 4 = 1 := by kernel_rfl
  have e4 : Try.prog.cellsOf 9 = 1 := by kernel_rfl
  cases fuel with
  | zero => simp [DataW.trod] at hf
  | succ fuel =>
    simp only [DataW.trod, Try.underlying32, Value.cells] at hf
    split at hf
    · obtain ⟨xs, hm, hx⟩ := Option.map_eq_some_iff.1 hf
      simp only [List.mapM_cons, List.mapM_nil, bind, Option.bind_eq_some_iff, pure, Option.some.injEq] at hm
      obtain ⟨y0, g0, r0, ⟨y1, g1, r1, ⟨y2, g2, r2, ⟨y3, g3, r3, ⟨y4, g4, r4, rfl, rfl⟩, rfl⟩, rfl⟩, rfl⟩, rfl⟩ := hm
      simp only [e1, e2, e4, List.drop_zero, List.take_succ_cons, List.take_zero, List.drop_succ_cons] at g0 g1 g2 g3 g4
      obtain ⟨x0, t0, q0⟩ := DataW.trod_bool Try.underlying4 g0
      obtain ⟨x1, t1, q1, w1⟩ := DataW.trod_int Try.underlying3 g1
      obtain ⟨x2, t2, q2, w2⟩ := DataW.trod_int Try.underlying3 g2
      obtain ⟨x3, t3, q3, w3⟩ := DataW.trod_int Try.underlying3 g3
      obtain ⟨x4, t4, q4, w4⟩ := DataW.trod_string Try.underlying9 g4
      injection t0 with t0 _
      injection t1 with t1 _
      injection t2 with t2 _
      injection t3 with t3 _
      injection t4 with t4 _
      subst t0 t1 t2 t3 t4
      simp only [Prod.mk.injEq] at hx
      refine ⟨x0, x1, x2, x3, x4, rfl, w1, w2, w3, w4, ?_, ?_⟩
      · rw [← hx.2]; simp [q0, q1, q2, q3, q4]
      · rw [← hx.1]; simp [q0, q1, q2, q3, q4]
    · cases hf
end
end Go.Proofs.Ytnligeelbajnpaa
