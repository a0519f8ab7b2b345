/-
  What comes in (layer 15): the distances out of what the row lists.
-/
import Derived.Test.YtjlmgkdieffjcaaDoorRpB
import Derived.Test.YtjlmgkdieffjcaaDoorFrame
import Derived.Test.YtjlmgkdieffjcaaDoorTie
import Derived.Test.YtjlmgkdieffjcaaDoorCards
import Derived.Lib.LaidTab
import Derived.Stop.LaidErr
import Derived.LaidLaws
import Derived.Deep.DeepHandedRow
import Derived.Lay
import Derived.SevenTiedAt
namespace Go.Proofs.YtjlmgkdieffjcaaDoor
open Go.RowKit Go.ChangeShapes Go.WideShapes
set_option linter.unusedVariables false

theorem gDist : Tryd.prog.globalNamed "crossway/rib.distances" = some 0 := by kernel_rfl
theorem tDist : (Tryd.prog.globals[0]?).map (·.type) = some 94 := by kernel_rfl
def distA : List Int := [0, 1, 20, 110, 120]
theorem distA_at (j : Nat) (hj : j < 5) : (distA.map fun z => Value.int .i64 z)[j]? = some (.int .i64 (distT.getD j 0)) := by
  rcases (show j = 0 ∨ j = 1 ∨ j = 2 ∨ j = 3 ∨ j = 4 by omega) with rfl | rfl | rfl | rfl | rfl
  all_goals rfl
theorem envR_of {W : World} (hL : laidMet Tryd.prog [("crossway/rib.distances", Rows.laid_crossway_rib_distances)] W) : EnvR W := by
  have h : Lib.TabIs Tryd.prog W "crossway/rib.distances" .i64 distA := Lib.tabIs_of_head gDist tDist Tryd.underlying94 Tryd.underlying3 (by kernel_rfl) (by kernel_rfl) (rest := []) hL
  intro j hj
  have hc := World.var?_cell gDist h j
  rw [show (⟨0, j, none⟩ : Addr) = ⟨0, j, none⟩ from rfl, hc]
  have := distA_at j hj
  simpa using this
end Go.Proofs.YtjlmgkdieffjcaaDoor
