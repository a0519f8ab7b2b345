/-
  What each law of icmp begins with.
-/
import Derived.Test.YtljdebpemdjliaaIAw
import Derived.Test.YtljdebpemdjliaaIFrm
namespace Go.Proofs.Ytljdebpemdjliaa
open Go.RowKit
set_option linter.unusedVariables false

abbrev ecs (a b : Ad) : Array Value := #[.bool a.s, .int .u64 a.h, .int .u64 a.l, .bool b.s, .int .u64 b.h, .int .u64 b.l]
theorem Blk.i6 {w : World} {g : Nat} {t : TypeId} {a b : Ad} (h : Blk w g t (ecs a b)) : w.cell? ⟨g, 0, none⟩ = some (.bool a.s) ∧ w.cell? ⟨g, 1, none⟩ = some (.int .u64 a.h) ∧ w.cell? ⟨g, 2, none⟩ = some (.int .u64 a.l) ∧ w.cell? ⟨g, 3, none⟩ = some (.bool b.s) ∧ w.cell? ⟨g, 4, none⟩ = some (.int .u64 b.h) ∧ w.cell? ⟨g, 5, none⟩ = some (.int .u64 b.l) :=
  ⟨by rw [h.cell]; rfl, by rw [h.cell]; rfl, by rw [h.cell]; rfl, by rw [h.cell]; rfl, by rw [h.cell]; rfl, by rw [h.cell]; rfl⟩
/-- The two variables that a law begins with. -/
theorem l_args (m : Ms) (a b : Ad) (w : World) : ∃ W0, W0 = (w.alloc (.cells (mcs m) 23)).alloc (.cells (ecs a b) 28) ∧ Blk W0 w.heap.size 23 (mcs m) ∧ Blk W0 (w.heap.size + 1) 28 (ecs a b) ∧ Below w.heap.size w W0 := by
  refine ⟨_, rfl, (Blk.new w _ _).alloc _, ?_, ((Below.refl _ w).alloc (Nat.le_refl _) _).alloc (by simp) _⟩
  have := Blk.new (w.alloc (.cells (mcs m) 23)) 28 (ecs a b)
  simpa using this
/-- May the message be, and the two ends? -/
def OkI (m : Ms) (a b : Ad) : Prop := rgIB m = true ∧ (m.s = true → (a.s && b.s) = true)
theorem lyI_bad {m : Ms} {a b : Ad} (h : ¬ OkI m a b) : lyIR m a b = (⟨#[]⟩, 70) := by
  rcases Bool.eq_false_or_eq_true (rgIB m) with hr | hr
  · rcases Bool.eq_false_or_eq_true m.s with hs | hs
    · rcases Bool.eq_false_or_eq_true (a.s && b.s) with hf | hf
      · exact absurd ⟨hr, fun _ => hf⟩ h
      · exact lyI_far hs hf
    · exact absurd ⟨hr, fun k => by rw [hs] at k; cases k⟩ h
  · exact lyI_no hr
/-- The bytes that a message is laid as between two. -/
def bytI (m : Ms) (a b : Ad) : ByteArray := strOfNums (allI m (chI m (psI m.s a b ((8 + m.d.size : Nat) : Int))))
theorem bytI_size (m : Ms) (a b : Ad) : (bytI m a b).size = 8 + m.d.size := strI_size m _
theorem bytI_byt (m : Ms) (a b : Ad) : byt (bytI m a b) = allI m (chI m (psI m.s a b ((8 + m.d.size : Nat) : Int))) := byt_str (allI_by m _)
theorem lyI_good {m : Ms} {a b : Ad} (h : OkI m a b) : lyIR m a b = (bytI m a b, 0) := lyI_yes h.1 h.2
theorem tk_bytI {m : Ms} {a b : Ad} (h : OkI m a b) : tkIR (bytI m a b) m.s a b = (m, 0) := by
  unfold tkIR
  rw [bytI_size]
  exact tk_lyI m (rgI_iff.1 h.1) h.2 (psI_nn _ _ _ _)
end Go.Proofs.Ytljdebpemdjliaa
