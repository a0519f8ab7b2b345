/-
  Several texts in one: RwD, REnv.
-/
import Derived.Test.YtgfkmgbcajdcdaaGreatDoorCbb
import Derived.Test.YtgfkmgbcajdcdaaGreatDoorCaf
import Derived.Test.YtgfkmgbcajdcdaaGreatDoorCat
import Derived.Test.YtgfkmgbcajdcdaaGreatDoorTie
import Derived.Test.YtgfkmgbcajdcdaaGreatDoorCards
import Derived.Lib.LaidTab
import Derived.Stop.LaidErr
import Derived.LaidLaws
import Derived.Deep.DeepHandedRow
import Derived.Lay
import Derived.SevenTiedAt
namespace Go.Proofs.YtgfkmgbcajdcdaaGreatDoor
open Ifs
set_option linter.unusedVariables false

/-- One entry's turn: the row so far, and whether the change stands in it. -/
def stepA (c : CgI) (s : List EnI × Bool) (d : EnI) : List EnI × Bool :=
  match s.2 with
  | true => (if d.1 = c.2.1 then s.1 else s.1 ++ [d], true)
  | false => match lessI c.2.1 d.1 with
    | true => (if d.1 = c.2.1 then s.1 ++ [c.2] else s.1 ++ [c.2] ++ [d], true)
    | false => (if d.1 = c.2.1 then s.1 else s.1 ++ [d], false)
def endA (c : CgI) (s : List EnI × Bool) : List EnI := match s.2 with
  | true => s.1
  | false => s.1 ++ [c.2]
theorem stepA_true (c : CgI) : ∀ (l nx : List EnI), l.foldl (stepA c) (nx, true) = (nx ++ cutE c.2.1 l, true)
  | [], nx => by simp [cutE]
  | d :: ds, nx => by
    rw [List.foldl_cons]
    show ds.foldl (stepA c) (if d.1 = c.2.1 then nx else nx ++ [d], true) = _
    rw [stepA_true c ds]
    unfold cutE
    by_cases h : d.1 = c.2.1
    · simp [h]
    · simp [h]
theorem stepA_false (c : CgI) : ∀ (l nx : List EnI), endA c (l.foldl (stepA c) (nx, false)) = nx ++ apS c.2 l
  | [], nx => rfl
  | d :: ds, nx => by
    rw [List.foldl_cons]
    unfold apS
    cases h : lessI c.2.1 d.1 with
    | true =>
      have e : stepA c (nx, false) d = stepA c (nx ++ [c.2], true) d := by unfold stepA; simp only [h]
      rw [e, ← List.foldl_cons, stepA_true]
      show nx ++ [c.2] ++ cutE c.2.1 (d :: ds) = _
      rw [if_pos rfl, List.append_assoc]; rfl
    | false =>
      have e : stepA c (nx, false) d = (if d.1 = c.2.1 then nx else nx ++ [d], false) := by unfold stepA; simp only [h]
      rw [e, stepA_false c ds, if_neg (show ¬ (false = true) by decide)]
      by_cases hd : d.1 = c.2.1
      · rw [if_pos hd, if_pos hd]
      · rw [if_neg hd, if_neg hd, List.append_assoc]; rfl
theorem endA_ap (l : List EnI) (c : CgI) : endA c (l.foldl (stepA c) ([], c.1)) = apC l c := by
  unfold apC
  cases h : c.1 with
  | true => rw [stepA_true, if_pos rfl]; rfl
  | false => rw [stepA_false, if_neg (by decide)]; rfl
theorem stepA_succ {c : CgI} {s : List EnI × Bool} {l : List EnI} {i : Nat} {d : EnI} (h : l[i]? = some d) : (l.take (i + 1)).foldl (stepA c) s = stepA c ((l.take i).foldl (stepA c) s) d := by
  rw [List.take_add_one, h, List.foldl_append]; rfl
theorem cutE_len (p : PfI) (l : List EnI) : (cutE p l).length ≤ l.length := List.length_filter_le _ _
theorem apS_len (e : EnI) : ∀ l : List EnI, (apS e l).length ≤ l.length + 1
  | [] => Nat.le_refl _
  | d :: ds => by
    unfold apS
    split
    · rw [List.length_cons]
      have := cutE_len e.1 (d :: ds)
      omega
    · have := apS_len e ds
      split
      · rw [List.length_cons]; omega
      · rw [List.length_cons, List.length_cons]; omega
theorem apC_len (l : List EnI) (c : CgI) : (apC l c).length ≤ l.length + 1 := by
  unfold apC
  split
  · exact Nat.le_succ_of_le (cutE_len _ _)
  · exact apS_len _ _
theorem apF_len : ∀ (m : List CgI) (l : List EnI), (m.foldl apC l).length ≤ l.length + m.length
  | [], l => Nat.le_refl _
  | c :: r, l => by
    rw [List.foldl_cons, List.length_cons]
    have := apF_len r (apC l c)
    have := apC_len l c
    omega
theorem apF_succ {m : List CgI} {l : List EnI} {i : Nat} {c : CgI} (h : m[i]? = some c) : (m.take (i + 1)).foldl apC l = apC ((m.take i).foldl apC l) c := by
  rw [List.take_add_one, h, List.foldl_append]; rfl
theorem stepA_len1 (c : CgI) (s : List EnI × Bool) (d : EnI) : (stepA c s d).1.length ≤ s.1.length + 2 := by
  unfold stepA
  split
  · split <;> simp
  · split
    · split <;> simp
    · split <;> simp
theorem stepA_len (c : CgI) : ∀ (l : List EnI) (s : List EnI × Bool), (l.foldl (stepA c) s).1.length ≤ s.1.length + 2 * l.length
  | [], s => Nat.le_refl _
  | d :: ds, s => by
    rw [List.foldl_cons, List.length_cons]
    have := stepA_len c ds (stepA c s d)
    have := stepA_len1 c s d
    omega
end Go.Proofs.YtgfkmgbcajdcdaaGreatDoor

namespace Go.Proofs.YtgfkmgbcajdcdaaGreatDoor
open Go.RowKit Go.ChangeShapes Go.WideShapes
set_option linter.unusedVariables false

theorem gDist : Tryz.prog.globalNamed "crossway/rib.distances" = some 0 := by kernel_rfl
theorem tDist : (Tryz.prog.globals[0]?).map (·.type) = some 255 := by kernel_rfl
def distA : List Int := [0, 1, 20, 110, 120]
theorem distA_at (j : Nat) (hj : j < 5) : (distA.map fun z => Value.int .i64 z)[j]? = some (.int .i64 (distT.getD j 0)) := by
  rcases (show j = 0 ∨ j = 1 ∨ j = 2 ∨ j = 3 ∨ j = 4 by omega) with rfl | rfl | rfl | rfl | rfl
  all_goals rfl
theorem envR_of {W : World} (hL : laidMet Tryz.prog [("crossway/rib.distances", Rows.laid_crossway_rib_distances)] W) : EnvR W := by
  have h : Lib.TabIs Tryz.prog W "crossway/rib.distances" .i64 distA := Lib.tabIs_of_head gDist tDist Tryz.underlying255 Tryz.underlying3 (by kernel_rfl) (by kernel_rfl) (rest := []) hL
  intro j hj
  have hc := World.var?_cell gDist h j
  rw [show (⟨0, j, none⟩ : Addr) = ⟨0, j, none⟩ from rfl, hc]
  have := distA_at j hj
  simpa using this
end Go.Proofs.YtgfkmgbcajdcdaaGreatDoor
