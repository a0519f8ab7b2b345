/-
  How many first bits two addresses share; and that whoever shares as many as are asked for is held.
-/
import Derived.Test.YtecgmejfkfoceaaDoorPHalf
namespace Go.Proofs.YtecgmejfkfoceaaDoor
set_option linter.unusedVariables false

def comV (s : Bool) (h l : Nat) (s' : Bool) (h' l' : Nat) : Int :=
  if vld s h l = true ∧ vld s' h' l' = true ∧ s = s' then (cmn (wd s) (nm h l) (nm h' l') : Int) else -1
theorem nm_wd {s : Bool} {h l : Nat} (hh : N64 h) (hl : N64 l) (v : vld s h l = true) : nm h l < 2 ^ wd s := by
  cases s
  · obtain ⟨a, b⟩ := vld_four v
    unfold nm wd
    have : h = 0 := by omega
    subst this
    simp; omega
  · exact rk_lt (s := true) hh hl
/-- The document's way of asking: as many first bits are shared. -/
theorem hld_com {s : Bool} {h l : Nat} {b : Int} {s' : Bool} {h' l' : Nat} (hh : N64 h) (hl : N64 l) (hh' : N64 h') (hl' : N64 l') :
    (pvl s h l b && decide (b ≤ comV s h l s' h' l')) = hld s h l b s' h' l' := by
  rw [Bool.eq_iff_iff, hld_via hl hl']
  simp only [Bool.and_eq_true, decide_eq_true_eq]
  refine and_congr_right fun p => ?_
  obtain ⟨v, o, e⟩ := (pvl_iff hl).1 p
  have o1 := okn_iff.1 o
  unfold comV
  by_cases c : vld s' h' l' = true ∧ s = s'
  · obtain ⟨v', rfl⟩ := c
    rw [if_pos ⟨v, v', rfl⟩]
    have h0 : nm h l / 2 ^ wd s = nm h' l' / 2 ^ wd s := by
      rw [Nat.div_eq_of_lt (nm_wd hh hl v), Nat.div_eq_of_lt (nm_wd hh' hl' v')]
    have := cmn_ge (wd s) (nm h l) (nm h' l') h0 b.toNat (by omega)
    have e2 : b ≤ (cmn (wd s) (nm h l) (nm h' l') : Int) ↔ b.toNat ≤ cmn (wd s) (nm h l) (nm h' l') := by omega
    rw [e2, this]
    exact ⟨fun x => ⟨v', rfl, x⟩, fun ⟨_, _, x⟩ => x⟩
  · rw [if_neg (fun x => c x.2)]
    refine ⟨fun x => by omega, fun ⟨x, y, _⟩ => absurd ⟨x, y⟩ c⟩
end Go.Proofs.YtecgmejfkfoceaaDoor
