/-
  The document's own set of ports (layer 14): New.
-/
import Derived.Test.YtabbclocgkhnhaaIfO
namespace Go.Proofs.Ytabbclocgkhnhaa
open Go.RowKit
set_option linter.unusedVariables false

theorem newD (w : World) : Calls Try.prog 10 #[] w fun e w' => ∃ t S, e = .returned (.pointer (some ⟨t, 0, none⟩)) ∧ IfD w' t S ([], []) ∧ Tch w w' [] ∧ ∀ s ∈ S, w.heap.size ≤ s := by
  go_enter Try.func10, Try.ntmps10
  go_wp2
  refine bodyPost_ret (v := .pointer (some ⟨w.heap.size, 0, none⟩)) (by simp [results, Try.results10, go_sem]) rfl ?_
  have hB := Blk.new w 67 #[.slice none 0 0, .slice none 0 0]
  refine ⟨w.heap.size, [w.heap.size], rfl, ⟨none, none, 0, 0, [], rfl, by simp, hB, ⟨rfl, .inl ⟨rfl, rfl⟩⟩, ⟨rfl, .inl ⟨rfl, rfl⟩⟩, rfl, by simp, InvI.nil⟩, (Tch.refl w _).alloc _, by simp⟩
end Go.Proofs.Ytabbclocgkhnhaa
