/-
  The laws of layer 15: what Over tells; sums over a rib's prefixes.
-/
import Derived.Test.YtjlmgkdieffjcaaDoorMgW
namespace Go.Proofs.YtjlmgkdieffjcaaDoor
open Go.RowKit
set_option linter.unusedVariables false

theorem prefs_num {L : List TdI} (h : InvR L) : ∀ p ∈ prefsI L, (PfOk p → True) ∧ N64 p.1.2.1 ∧ N64 p.1.2.2 := fun p hp => by
  obtain ⟨u, hu, e⟩ := (prefsI_mem h).1 hp
  rw [← e]; exact ⟨fun _ => trivial, (h.ok u hu).n1⟩
theorem over_fall {L : List TdI} (h : InvR L) {a : AdR} (na : N64 a.2.1 ∧ N64 a.2.2) : (overI L a).Pairwise fun p q => q.2 < p.2 := by
  have hn := prefs_num h
  unfold overI overL
  rw [List.pairwise_reverse]
  refine ((prefsI_srt h).sublist List.filter_sublist).imp_of_mem fun {p q} h1 h2 hpq => ?_
  have m1 := List.mem_filter.1 h1
  have m2 := List.mem_filter.1 h2
  rcases Int.lt_or_le p.2 q.2 with hle | hle
  · exact hle
  · rcases hld_bits (hn p m1.1).2 (hn q m2.1).2 na m1.2 m2.2 hle with e | e
    · rw [e] at hpq; exact absurd hpq (ltP_irr _)
    · exact absurd (ltP_trans hpq e) (ltP_irr _)
theorem over_own {L : List TdI} (h : InvR L) {p : PfI} (hp : p ∈ prefsI L) : p ∈ overI L p.1 := by
  unfold overI overL
  refine List.mem_reverse.2 (List.mem_filter.2 ⟨hp, ?_⟩)
  obtain ⟨u, hu, e⟩ := (prefsI_mem h).1 hp
  have := (h.ok u hu).pv
  rw [e] at this
  exact this
theorem over_len (L : List TdI) (a : AdR) : (overI L a).length ≤ (prefsI L).length := by
  unfold overI overL
  rw [List.length_reverse]; exact List.length_filter_le _ _
/-- How many paths the first prefixes have. -/
def sumR (L : List TdI) (k : Nat) : Nat := (((prefsI L).take k).map fun p => (pathsI L p).length).sum
theorem sumR_succ {L : List TdI} {k : Nat} {p : PfI} (h : (prefsI L)[k]? = some p) : sumR L (k + 1) = sumR L k + (pathsI L p).length := by
  unfold sumR
  rw [List.take_add_one, h, List.map_append, List.sum_append]; simp
theorem sumR_all {L : List TdI} (h : InvR L) : sumR L (prefsI L).length = L.length := by
  unfold sumR
  rw [List.take_length]
  exact len_sum (prefsI L) L (prefsI_nodup h) (fun u hu => (prefsI_mem h).2 ⟨u, hu, rfl⟩)
theorem sumR_le {L : List TdI} (h : InvB L) (k : Nat) : sumR L k ≤ 4 * k := by
  induction k with
  | zero => simp [sumR]
  | succ k ih =>
    cases hk : (prefsI L)[k]? with
    | none =>
      have : sumR L (k + 1) = sumR L k := by unfold sumR; rw [List.take_add_one, hk]; simp
      omega
    | some p =>
      have := sumR_succ hk
      have := h.four p
      omega
end Go.Proofs.YtjlmgkdieffjcaaDoor
