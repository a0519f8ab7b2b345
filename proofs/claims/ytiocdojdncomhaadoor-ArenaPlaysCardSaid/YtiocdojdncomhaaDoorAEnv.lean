/-
  What comes in (layer 10): the library's table out of what the row lists; a slice of steps.
-/
import Derived.Test.YtiocdojdncomhaaDoorArW
import Derived.Test.YtiocdojdncomhaaDoorFrame
import Derived.Test.YtiocdojdncomhaaDoorTie
import Derived.Test.YtiocdojdncomhaaDoorCards
import Derived.Lib.LaidTab
import Derived.Stop.LaidErr
import Derived.LaidLaws
import Derived.Deep.DeepHandedRow
import Derived.Deep.SlicePairs
import Derived.Deep.Strs
import Derived.Lay
import Derived.SevenTiedAt
namespace Go.Proofs.YtiocdojdncomhaaDoor
open Go.RowKit Go.ChangeShapes Go.WideShapes
set_option linter.unusedVariables false

theorem gDeb : Tryd.prog.globalNamed "math/bits.deBruijn32tab" = some 0 := by kernel_rfl
theorem tDeb : (Tryd.prog.globals[0]?).map (·.type) = some 76 := by kernel_rfl
def debA : List Int := [0, 1, 28, 2, 29, 14, 24, 3, 30, 22, 20, 15, 25, 17, 4, 8, 31, 27, 13, 23, 21, 19, 16, 7, 26, 12, 18, 6, 11, 5, 10, 9]
theorem debA_at (j : Nat) (hj : j < 32) : (debA.map fun z => Value.int .u8 z)[j]? = some (.int .u8 ((Lib.deBruijn32tab.getD j 0 : Nat) : Int)) := by
  rcases (show j = 0 ∨ j = 1 ∨ j = 2 ∨ j = 3 ∨ j = 4 ∨ j = 5 ∨ j = 6 ∨ j = 7 ∨ j = 8 ∨ j = 9 ∨ j = 10 ∨ j = 11 ∨ j = 12 ∨ j = 13 ∨ j = 14 ∨ j = 15 ∨ j = 16 ∨ j = 17 ∨ j = 18 ∨ j = 19 ∨ j = 20 ∨ j = 21 ∨ j = 22 ∨ j = 23 ∨ j = 24 ∨ j = 25 ∨ j = 26 ∨ j = 27 ∨ j = 28 ∨ j = 29 ∨ j = 30 ∨ j = 31 by omega) with rfl | rfl | rfl | rfl | rfl | rfl | rfl | rfl | rfl | rfl | rfl | rfl | rfl | rfl | rfl | rfl | rfl | rfl | rfl | rfl | rfl | rfl | rfl | rfl | rfl | rfl | rfl | rfl | rfl | rfl | rfl | rfl
  all_goals rfl
theorem envA_of {W : World} (hL : laidMet Tryd.prog Rows.arenaPlaysRow.laid W) : EnvA W := by
  have h : Lib.TabIs Tryd.prog W "math/bits.deBruijn32tab" .u8 debA := Lib.tabIs_of_head gDeb tDeb Tryd.underlying76 Tryd.underlying5 (by kernel_rfl) (by kernel_rfl) (rest := []) hL
  intro j hj
  have hc := World.var?_cell gDeb h j
  rw [show (⟨0, j, none⟩ : Addr) = ⟨0, j, none⟩ from rfl, hc]
  have := debA_at j hj
  simpa using this
/-- A slice of steps that came in. -/
abbrev Stp := Bool × Bool × Int
def IsStp (w : World) (a : Option Addr) (l : Nat) (z : List Stp) : Prop :=
  z.length = l ∧ (∀ x ∈ z, (Lit.int .i64 x.2.2).wf = true) ∧ (0 < l → ∃ b o, a = some ⟨b, o, none⟩ ∧ b < w.heap.size ∧ ∀ j x, z[j]? = some x → w.cell? ⟨b, o + j * 3, none⟩ = some (.bool x.1) ∧ w.cell? ⟨b, o + j * 3 + 1, none⟩ = some (.bool x.2.1) ∧ w.cell? ⟨b, o + j * 3 + 2, none⟩ = some (.int .i64 x.2.2))
theorem IsStp.below {w w' : World} {a : Option Addr} {l : Nat} {z : List Stp} (h : IsStp w a l z) (hb : Below w.heap.size w w') : IsStp w' a l z := by
  refine ⟨h.1, h.2.1, fun h0 => ?_⟩
  obtain ⟨b, o, e, hlt, hc⟩ := h.2.2 h0
  refine ⟨b, o, e, by have := hb.size; omega, fun j x hx => ?_⟩
  obtain ⟨c1, c2, c3⟩ := hc j x hx
  exact ⟨(hb.cell (p := ⟨b, o + j * 3, none⟩) hlt).trans c1, (hb.cell (p := ⟨b, o + j * 3 + 1, none⟩) hlt).trans c2, (hb.cell (p := ⟨b, o + j * 3 + 2, none⟩) hlt).trans c3⟩
theorem stepFields : ∃ f0 f1 f2 : Field, Tryd.prog.underlying 32 = some (.struct #[f0, f1, f2]) ∧ (f0.type = 4 ∧ f0.offset = 0) ∧ (f1.type = 4 ∧ f1.offset = 1) ∧ (f2.type = 3 ∧ f2.offset = 2) :=
  ⟨_, _, _, Tryd.underlying32, ⟨rfl, rfl⟩, ⟨rfl, rfl⟩, ⟨rfl, rfl⟩⟩
theorem isStp_of {H : Type} {enc : TypeId × Value → H} {W : World} {a : Option Addr} {l c : Nat} {d : DataW H} {p : List MemPlace} (h : DataW.Trod enc Tryd.prog W 0 (fun _ => true) true 22 (.slice a l c) d p) : ∃ z, IsStp W a l z := by
  obtain ⟨fuel, hf⟩ := h
  obtain ⟨f0, f1, f2, hu, ⟨t0, o0⟩, ⟨t1, o1⟩, ⟨t2, o2⟩⟩ := stepFields
  have ce : Tryd.prog.cellsOf 32 = 3 := by kernel_rfl
  have cb : Tryd.prog.cellsOf 4 = 1 := by kernel_rfl
  have ci : Tryd.prog.cellsOf 3 = 1 := by kernel_rfl
  rcases Go.Deep.open_slice Tryd.underlying22 hf with ⟨hcs, _⟩ | ⟨ad, len, cap, m, n, D, Pl, hcs, _, hl, hm, hmm, _, hx⟩
  · simp [Value.cells] at hcs
    obtain ⟨rfl, rfl, rfl⟩ := hcs
    exact ⟨[], rfl, fun x hx => (by cases hx), fun h0 => absurd h0 (by omega)⟩
  · simp [Value.cells] at hcs
    obtain ⟨rfl, rfl, rfl⟩ := hcs
    simp only [if_true] at hmm
    have each : ∀ i, i < l → ∃ q : Stp, W.cell? (ad.add (i * 3)) = some (.bool q.1) ∧ W.cell? ((ad.add (i * 3)).add 1) = some (.bool q.2.1) ∧ W.cell? ((ad.add (i * 3)).add 2) = some (.int .i64 q.2.2) ∧ (Lit.int .i64 q.2.2).wf = true := by
      intro i hi
      obtain ⟨cs', h1, h2⟩ := hx i (by omega)
      rw [ce] at h1
      obtain ⟨_, hlen, hcell⟩ := World.cells?_some h1
      obtain ⟨y0, y1, y2, n', _, hcl, g0, g1, g2⟩ := Go.Deep.trod_struct3 hu h2
      rw [t0, o0, cb] at g0
      rw [t1, o1, cb] at g1
      rw [t2, o2, ci] at g2
      match cs', hlen with
      | [v0, v1, v2], _ =>
        simp only [List.drop_zero, List.take_succ_cons, List.take_zero, List.drop_succ_cons] at g0 g1 g2
        obtain ⟨b0, e0, _⟩ := DataW.trod_bool Tryd.underlying4 g0
        obtain ⟨b1, e1, _⟩ := DataW.trod_bool Tryd.underlying4 g1
        obtain ⟨n2, e2, _, w2⟩ := DataW.trod_int Tryd.underlying3 g2
        injection e0 with e0 _
        injection e1 with e1 _
        injection e2 with e2 _
        subst e0 e1 e2
        have k0 := hcell 0 (by omega)
        have k1 := hcell 1 (by omega)
        have k2 := hcell 2 (by omega)
        exact ⟨(b0, b1, n2), by simpa [Addr.add] using k0, by simpa using k1, by simpa using k2, w2⟩
    obtain ⟨q, hq⟩ := Go.Deep.choose_lt each
    refine ⟨(List.range l).map q, by simp, fun x hx => ?_, fun h0 => ?_⟩
    · obtain ⟨i, hi, rfl⟩ := List.mem_map.1 hx
      exact (hq i (List.mem_range.1 hi)).2.2.2
    · obtain ⟨b, off, spot⟩ := ad
      have hc := (hq 0 h0).1
      have hspot : spot = none := by simpa [Addr.add] using World.cell?_spot hc
      subst hspot
      refine ⟨b, off, rfl, by simpa [Addr.add] using World.block_lt_of_cell? W _ hc, fun j x hjx => ?_⟩
      rw [List.getElem?_map, Option.map_eq_some_iff] at hjx
      obtain ⟨i, hi, rfl⟩ := hjx
      have hil := (List.getElem?_eq_some_iff.1 hi).1
      have hij : i = j := by rw [List.getElem?_range (by simpa using hil)] at hi; injection hi with hi; exact hi.symm
      subst hij
      obtain ⟨k0, k1, k2, -⟩ := hq i (by simpa using hil)
      have ea : ∀ x : Nat, (⟨b, off, none⟩ : Addr).add x = ⟨b, off + x, none⟩ := fun x => by unfold Addr.add; split <;> simp_all
      have eb : ∀ y x : Nat, (⟨b, y, none⟩ : Addr).add x = ⟨b, y + x, none⟩ := fun y x => by unfold Addr.add; split <;> simp_all
      rw [ea] at k0 k1 k2
      rw [eb] at k1 k2
      exact ⟨k0, k1, k2⟩
end Go.Proofs.YtiocdojdncomhaaDoor
