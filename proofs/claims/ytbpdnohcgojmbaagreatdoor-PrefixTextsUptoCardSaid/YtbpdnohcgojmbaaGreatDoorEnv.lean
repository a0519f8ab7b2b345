/-
  What the package-level variables hold that the library's texts read: out of what the row lists.
-/
import Derived.Test.YtbpdnohcgojmbaaGreatDoorValid
import Derived.Test.YtbpdnohcgojmbaaGreatDoorFrame
import Derived.Test.YtbpdnohcgojmbaaGreatDoorTie
import Derived.Test.YtbpdnohcgojmbaaGreatDoorCards
import Derived.Stop.LaidErr
import Derived.Lib.LaidTab
import Derived.LaidLaws
import Derived.Deep.DeepHandedRow
import Derived.Lay
import Derived.SevenTiedAt
import Derived.Lib.ItoaMem
import Derived.Shelf.LaysM
namespace Go.Proofs.YtbpdnohcgojmbaaGreatDoor
open Go.RowKit
set_option linter.unusedVariables false

theorem gSyn : Tryz.prog.globalNamed "strconv.ErrSyntax" = some 1 := by kernel_rfl
theorem gRng : Tryz.prog.globalNamed "strconv.ErrRange" = some 2 := by kernel_rfl
theorem gPow : Tryz.prog.globalNamed "internal/strconv.uint64pow10" = some 3 := by kernel_rfl
theorem gDeb : Tryz.prog.globalNamed "math/bits.deBruijn64tab" = some 5 := by kernel_rfl
theorem gMax : Tryz.prog.globalNamed "internal/bytealg.MaxLen" = some 0 := by kernel_rfl
/-- The table of bits.TrailingZeros64. -/
def deb : List Int := [0, 1, 56, 2, 57, 49, 28, 3, 61, 58, 42, 50, 38, 29, 17, 4, 62, 47, 59, 36, 45, 43, 51, 22, 53, 39, 33, 30, 24, 18, 12, 5, 63, 55, 48, 27, 60, 41, 37, 16, 46, 35, 44, 21, 52, 32, 23, 11, 54, 26, 40, 15, 34, 20, 31, 10, 25, 14, 19, 9, 13, 8, 7, 6]

/-- What the calls read of the variables. -/
def Env (w : World) : Prop :=
  (∃ m, w.cell? ⟨0, 0, none⟩ = some (.int .i64 m)) ∧ (∃ te pe, w.cell? ⟨1, 0, none⟩ = some (.iface te pe)) ∧ (∃ te pe, w.cell? ⟨2, 0, none⟩ = some (.iface te pe)) ∧
  Lib.TabIs Tryz.prog w "internal/strconv.uint64pow10" .u64 Lib.pow10Tab ∧ Lib.TabIs Tryz.prog w "math/bits.deBruijn64tab" .u8 deb
theorem cell_kept {w w' : World} (hb : Below w.heap.size w w') {a : Addr} {v : Value} (hc : w.cell? a = some v) : w'.cell? a = some v := (hb.cell (World.block_lt_of_cell? w a hc)).trans hc
theorem tab_kept {n : String} {g : Nat} {k : IntKind} {zs : List Int} {w w' : World} (hg : Tryz.prog.globalNamed n = some g) (h : Lib.TabIs Tryz.prog w n k zs) (hb : Below w.heap.size w w') : Lib.TabIs Tryz.prog w' n k zs := by
  unfold Lib.TabIs World.var? at h ⊢
  rw [hg] at h ⊢
  simp only [Option.bind_some] at h ⊢
  have hlt : g < w.heap.size := by
    rcases Nat.lt_or_ge g w.heap.size with h' | h'
    · exact h'
    · rw [Array.getElem?_eq_none h'] at h; cases h
  rw [hb.block g hlt]
  exact h
theorem Env.below {w w' : World} (h : Env w) (hb : Below w.heap.size w w') : Env w' := by
  obtain ⟨⟨m, hm⟩, ⟨t1, p1, h1⟩, ⟨t2, p2, h2⟩, h3, h4⟩ := h
  exact ⟨⟨m, cell_kept hb hm⟩, ⟨t1, p1, cell_kept hb h1⟩, ⟨t2, p2, cell_kept hb h2⟩, tab_kept gPow h3 hb, tab_kept gDeb h4 hb⟩
theorem Env.alloc {w : World} (h : Env w) (o : Obj) : Env (w.alloc o) := h.below ((Below.refl _ _).alloc (Nat.le_refl _) _)

theorem shut_iface : (Tryz.prog.globals[1]?).map (·.type) = some 60 := by kernel_rfl
theorem tRng : (Tryz.prog.globals[2]?).map (·.type) = some 60 := by kernel_rfl
theorem tPow : (Tryz.prog.globals[3]?).map (·.type) = some 132 := by kernel_rfl
theorem tDeb : (Tryz.prog.globals[5]?).map (·.type) = some 144 := by kernel_rfl
theorem star : "*" ++ "errors.errorString" = "*errors.errorString" := by decide
theorem rowErr (u : TypeId) (h : Tryz.prog.typeName? 3 u = some "*errors.errorString") : u = 136 := by
  exact typeName_ptr_named (nm := "errors.errorString") (by rw [star]; kernel_rfl) (by kernel_rfl) (by decide) u (by rw [star]; exact h)
theorem cellsErr : Tryz.prog.cellsOf 138 = 1 := by kernel_rfl
theorem cellsStr : Tryz.prog.cellsOf 9 = 1 := by kernel_rfl

theorem env_of {W : World} (hL : laidMet Tryz.prog Rows.prefixTextsRow.laid W) (hS : W.ShapedOpen Tryz.prog) : Env W := by
  obtain ⟨a0, s0, hv0, -, -, -⟩ := laid_sentinel hL.tail.tail.tail gRng tRng Tryz.underlying60 rowErr Tryz.underlying136 Tryz.underlying138 rfl rfl Tryz.underlying9 cellsErr cellsStr
  obtain ⟨a1, s1, hv1, -, -, -⟩ := laid_sentinel hL.tail.tail.tail.tail gSyn shut_iface Tryz.underlying60 rowErr Tryz.underlying136 Tryz.underlying138 rfl rfl Tryz.underlying9 cellsErr cellsStr
  have c0 := World.var?_cell gRng hv0 0
  have c1 := World.var?_cell gSyn hv1 0
  refine ⟨cell_of_shapedOpen_int (zero := #[.int .i64 0]) (t := 3) hS (of_decide_eq_true (by kernel_rfl)) (by kernel_rfl) rfl (by kernel_rfl) (by kernel_rfl) Tryz.underlying3, ⟨_, _, by simpa using c1⟩, ⟨_, _, by simpa using c0⟩, ?_, ?_⟩
  · exact Lib.tabIs_of_head gPow tPow Tryz.underlying132 Tryz.underlying22 (by kernel_rfl) (by kernel_rfl) (rest := Rows.prefixTextsRow.laid.drop 3) hL.tail.tail
  · exact Lib.tabIs_of_head gDeb tDeb Tryz.underlying144 Tryz.underlying5 (by kernel_rfl) (by kernel_rfl) (rest := Rows.prefixTextsRow.laid.drop 2) hL.tail
end Go.Proofs.YtbpdnohcgojmbaaGreatDoor
