/-
  An ARP message that comes in, opened: numbers and two addresses by value.
-/
import Derived.Test.YtnhlgonldffgoaaDoorFrame
import Derived.Test.YtnhlgonldffgoaaDoorEMac
import Derived.Test.YtnhlgonldffgoaaDoorValid
namespace Go.Proofs.YtnhlgonldffgoaaDoor
open Go.ChangeShapes Go.WideShapes Go.ChangeAt Go.RowKit
set_option linter.unusedVariables false

section
variable {H : Type} {enc : TypeId × Value → H} {W : World}
theorem array9 {cs : Array Value} (h : cs.size = 9) : ∃ a b c d e f g i j, cs = #[a, b, c, d, e, f, g, i, j] := by
  obtain ⟨l⟩ := cs
  match l, h with
  | [a, b, c, d, e, f, g, i, j], _ => exact ⟨a, b, c, d, e, f, g, i, j, rfl⟩
set_option maxRecDepth 100000 in
set_option maxHeartbeats 1000000 in
theorem open_arp {b0 base : Nat} {spare : Nat → Bool} {held : Bool} {v : Value} {d : DataW H} {ps : List MemPlace}
    (hval : Value.okWide Tryd.prog W .any b0 45 v) (h : DataW.Trod enc Tryd.prog W base spare held 45 v d ps) :
    ∃ op fm s h l tm s' h' l', v = arpv op fm s h l tm s' h' l' ∧ (Lit.int .i64 op).wf = true ∧ (Lit.int .u64 fm).wf = true ∧ (Lit.int .u64 h).wf = true ∧ (Lit.int .u64 l).wf = true ∧ (Lit.int .u64 tm).wf = true ∧ (Lit.int .u64 h').wf = true ∧ (Lit.int .u64 l').wf = true ∧ ps = [] := by
  obtain ⟨cs, rfl, hsz⟩ := okWide_struct Tryd.underlying45 hval
  have eC : Tryd.prog.cellsOf 45 = 9 := by kernel_rfl
  rw [eC] at hsz
  obtain ⟨c0, c1, c2, c3, c4, c5, c6, c7, c8, rfl⟩ := array9 hsz
  obtain ⟨fuel, hf⟩ := h
  have e0 : Tryd.prog.cellsOf 25 = 3 := by kernel_rfl
  have e1 : Tryd.prog.cellsOf 3 = 1 := by kernel_rfl
  have e2 : Tryd.prog.cellsOf 4 = 1 := by kernel_rfl
  have e3 : Tryd.prog.cellsOf 23 = 1 := by kernel_rfl
  have e4 : Tryd.prog.cellsOf 41 = 1 := by kernel_rfl
  cases fuel with
  | zero => simp [DataW.trod] at hf
  | succ fuel =>
    simp only [DataW.trod, Tryd.underlying45, Value.cells] at hf
    split at hf
    · obtain ⟨xs, hm, hx⟩ := Option.map_eq_some_iff.1 hf
      simp only [List.mapM_cons, List.mapM_nil, bind, Option.bind_eq_some_iff, pure, Option.some.injEq] at hm
      obtain ⟨y0, g0, r0, ⟨y1, g1, r1, ⟨y2, g2, r2, ⟨y3, g3, r3, ⟨y4, g4, r4, rfl, rfl⟩, rfl⟩, rfl⟩, rfl⟩, rfl⟩ := hm
      simp only [e0, e1, e4, List.drop_zero, List.take_succ_cons, List.take_zero, List.drop_succ_cons] at g0 g1 g2 g3 g4
      obtain ⟨z0, z1, z2, m, hz, _, k0, k1, k2⟩ := Go.Deep.trod_struct3 Tryd.underlying25 g2
      obtain ⟨u0, u1, u2, m', hu, _, l0, l1, l2⟩ := Go.Deep.trod_struct3 Tryd.underlying25 g4
      simp only [e2, e3, List.drop_zero, List.take_succ_cons, List.take_zero, List.drop_succ_cons] at k0 k1 k2 l0 l1 l2
      obtain ⟨op, eop, q0, w0⟩ := DataW.trod_int Tryd.underlying3 g0
      obtain ⟨fm, efm, q1, w1⟩ := DataW.trod_int Tryd.underlying41 g1
      obtain ⟨s, es, q2⟩ := DataW.trod_bool Tryd.underlying4 k0
      obtain ⟨h, eh, q3, w3⟩ := DataW.trod_int Tryd.underlying23 k1
      obtain ⟨l, el, q4, w4⟩ := DataW.trod_int Tryd.underlying23 k2
      obtain ⟨tm, etm, q5, w5⟩ := DataW.trod_int Tryd.underlying41 g3
      obtain ⟨s', es', q6⟩ := DataW.trod_bool Tryd.underlying4 l0
      obtain ⟨h', eh', q7, w7⟩ := DataW.trod_int Tryd.underlying23 l1
      obtain ⟨l', el', q8, w8⟩ := DataW.trod_int Tryd.underlying23 l2
      injection eop with eop _
      injection efm with efm _
      injection es with es _
      injection eh with eh _
      injection el with el _
      injection etm with etm _
      injection es' with es' _
      injection eh' with eh' _
      injection el' with el' _
      subst eop efm es eh el etm es' eh' el'
      refine ⟨op, fm, s, h, l, tm, s', h', l', rfl, w0, w1, w3, w4, w5, w7, w8, ?_⟩
      simp only [Prod.mk.injEq] at hx
      rw [← hx.2]
      simp [q0, q1, hz, hu, q2, q3, q4, q5, q6, q7, q8]
    · cases hf
end
theorem u6_of' {n : Int} (h : (Lit.int .u64 n).wf = true) : U6 n := by
  simp [Lit.wf, IntKind.min, IntKind.max, IntKind.bits, IntKind.signed] at h
  exact ⟨by omega, by omega⟩
end Go.Proofs.YtnhlgonldffgoaaDoor
