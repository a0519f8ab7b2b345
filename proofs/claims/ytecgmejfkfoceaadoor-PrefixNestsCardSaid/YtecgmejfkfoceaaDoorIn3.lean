/-
  Three arguments by value that a law boxes first: two ranges and an address; two ranges; three ranges: carried along from world to world.
-/
import Derived.Test.YtecgmejfkfoceaaDoorPOf
namespace Go.Proofs.YtecgmejfkfoceaaDoor
open Go.RowKit
set_option linter.unusedVariables false

/-- Two blocks of four cells, one of three. -/
def In343 (w0 w : World) (P Q A : Array Value) : Prop :=
  Below w0.heap.size w0 w ∧ Blk w w0.heap.size 26 P ∧ Blk w (w0.heap.size + 1) 26 Q ∧ Blk w (w0.heap.size + 1 + 1) 24 A ∧ w0.heap.size + 1 + 1 < w.heap.size
theorem In343.new (w : World) (P Q A : Array Value) {w1 : World} (hb : Below (((w.alloc (.cells P 26)).alloc (.cells Q 26)).alloc (.cells A 24)).heap.size (((w.alloc (.cells P 26)).alloc (.cells Q 26)).alloc (.cells A 24)) w1) : In343 w w1 P Q A := by
  have s := hb.size
  simp only [World.size_alloc] at s
  have h3 := (Blk.new ((w.alloc (.cells P 26)).alloc (.cells Q 26)) 24 A).below hb (by simp only [World.size_alloc]; omega)
  have h2 := ((Blk.new (w.alloc (.cells P 26)) 26 Q).alloc (.cells A 24)).below hb (by simp only [World.size_alloc]; omega)
  have h1 := (((Blk.new w 26 P).alloc (.cells Q 26)).alloc (.cells A 24)).below hb (by simp only [World.size_alloc]; omega)
  simp only [World.size_alloc] at h2 h3
  exact ⟨((((Below.refl _ w).alloc (Nat.le_refl _) _).alloc (by simp) _).alloc (by simp only [World.size_alloc]; omega) _).trans (hb.mono (by simp only [World.size_alloc]; omega)), h1, h2, h3, by omega⟩
theorem In343.on {w0 w w' : World} {P Q A : Array Value} (h : In343 w0 w P Q A) (hb : Below w.heap.size w w') : In343 w0 w' P Q A := by
  obtain ⟨h1, h2, h3, h4, h5⟩ := h
  have := hb.size
  exact ⟨h1.trans (hb.mono h1.size), h2.below hb (by omega), h3.below hb (by omega), h4.below hb (by omega), by omega⟩
end Go.Proofs.YtecgmejfkfoceaaDoor
