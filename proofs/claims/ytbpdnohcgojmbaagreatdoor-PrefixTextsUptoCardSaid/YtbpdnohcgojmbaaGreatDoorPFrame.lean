/-
  A range of first bits that comes in, opened: an address by value, and a number.
-/
import Derived.Test.YtbpdnohcgojmbaaGreatDoorFrame
import Derived.Test.YtbpdnohcgojmbaaGreatDoorMgB
namespace Go.Proofs.YtbpdnohcgojmbaaGreatDoor
open Go.ChangeShapes Go.WideShapes Go.ChangeAt Go.RowKit
set_option linter.unusedVariables false

section
variable {H : Type} {enc : TypeId × Value → H} {W : World}
set_option maxRecDepth 100000 in
theorem open_pfx {b0 base : Nat} {spare : Nat → Bool} {held : Bool} {v : Value} {d : DataW H} {ps : List MemPlace}
    (hval : Value.okWide Tryz.prog W .any b0 26 v) (h : DataW.Trod enc Tryz.prog W base spare held 26 v d ps) :
    ∃ s x y b, v = pfx s x y b ∧ (Lit.int .u64 x).wf = true ∧ (Lit.int .u64 y).wf = true ∧ (Lit.int .i64 b).wf = true ∧ ps = [] := by
  obtain ⟨cs, rfl, hsz⟩ := okWide_struct Tryz.underlying26 hval
  have eC : Tryz.prog.cellsOf 26 = 4 := by kernel_rfl
  rw [eC] at hsz
  obtain ⟨c0, c1, c2, c3, rfl⟩ := Go.Joins.array4 hsz
  obtain ⟨fuel, hf⟩ := h
  obtain ⟨y0, y1, n, hx, _, h0, h1⟩ := trod_struct2 Tryz.underlying26 hf
  have e0 : Tryz.prog.cellsOf 24 = 3 := by kernel_rfl
  have e1 : Tryz.prog.cellsOf 3 = 1 := by kernel_rfl
  simp only [Value.cells, e0, e1, List.drop_zero, List.take_succ_cons, List.take_zero, List.drop_succ_cons] at h0 h1
  obtain ⟨z0, z1, z2, m, hz, _, g0, g1, g2⟩ := Go.Deep.trod_struct3 Tryz.underlying24 h0
  have e2 : Tryz.prog.cellsOf 4 = 1 := by kernel_rfl
  have e3 : Tryz.prog.cellsOf 22 = 1 := by kernel_rfl
  simp only [e2, e3, List.drop_zero, List.take_succ_cons, List.take_zero, List.drop_succ_cons] at g0 g1 g2
  obtain ⟨s, es, q0⟩ := DataW.trod_bool Tryz.underlying4 g0
  obtain ⟨x, ex, q1, w1⟩ := DataW.trod_int Tryz.underlying22 g1
  obtain ⟨y, ey, q2, w2⟩ := DataW.trod_int Tryz.underlying22 g2
  obtain ⟨b, eb, q3, w3⟩ := DataW.trod_int Tryz.underlying3 h1
  injection es with es _
  injection ex with ex _
  injection ey with ey _
  injection eb with eb _
  subst es ex ey eb
  refine ⟨s, x, y, b, rfl, w1, w2, w3, ?_⟩
  simp only [Prod.mk.injEq] at hx
  rw [hx.2, hz, q0, q1, q2, q3]
  rfl
end
theorem n64_of {x : Int} (h : (Lit.int .u64 x).wf = true) : ∃ n : Nat, x = n ∧ N64 n := by
  have : 0 ≤ x ∧ x ≤ 18446744073709551615 := by
    simp [Lit.wf, IntKind.min, IntKind.max, IntKind.bits, IntKind.signed] at h; omega
  exact ⟨x.toNat, by omega, by unfold N64; omega⟩
theorem i64_of {x : Int} (h : (Lit.int .i64 x).wf = true) : -9223372036854775808 ≤ x ∧ x ≤ 9223372036854775807 := by
  simp [Lit.wf, IntKind.min, IntKind.max, IntKind.bits, IntKind.signed] at h; omega
end Go.Proofs.YtbpdnohcgojmbaaGreatDoor
