/-
  The number of bits of a prefix as the document reads it, plainly.
-/
import Derived.Test.YtbpdnohcgojmbaaGreatDoorPNb
import Derived.Test.YtbpdnohcgojmbaaGreatDoorRDec
namespace Go.Proofs.YtbpdnohcgojmbaaGreatDoor
open Go.RowKit
set_option linter.unusedVariables false

theorem pM_dgM (M : Nat) (hM : M ≤ 18446744073709551615) : ∀ (l : List UInt8) (a u : Nat), a ≤ M → (Lib.parseUintM M a l = .ok u ↔ dgA a l = some u ∧ u ≤ M)
  | [], a, u, ha => by
    unfold Lib.parseUintM dgA
    constructor
    · intro h; cases h; exact ⟨rfl, ha⟩
    · rintro ⟨h, _⟩; cases h; rfl
  | c :: r, a, u, ha => by
    unfold Lib.parseUintM dgA
    by_cases hc : 48 ≤ c.toNat ∧ c.toNat ≤ 57
    · rw [if_pos hc, if_pos hc]
      by_cases h1 : 1844674407370955162 ≤ a
      · rw [if_pos h1]
        constructor
        · intro h; cases h
        · rintro ⟨h, hu⟩
          have := dgA_ge r _ u h
          omega
      · rw [if_neg h1, Nat.mul_comm a 10]
        by_cases h2 : M < 10 * a + (c.toNat - 48)
        · rw [if_pos h2]
          constructor
          · intro h; cases h
          · rintro ⟨h, hu⟩
            have := dgA_ge r _ u h
            omega
        · rw [if_neg h2]
          exact pM_dgM M hM r _ u (by omega)
    · rw [if_neg hc, if_neg hc]
      constructor
      · intro h; cases h
      · rintro ⟨h, _⟩; cases h
theorem dgA_lt : ∀ (l : List UInt8) (a k u : Nat), a < 10 ^ k → dgA a l = some u → u < 10 ^ (k + l.length)
  | [], a, k, u, ha, h => by unfold dgA at h; cases h; simpa using ha
  | c :: r, a, k, u, ha, h => by
    unfold dgA at h
    split at h
    · rename_i hc
      have h1 := dgA_lt r _ (k + 1) u (by rw [Nat.pow_succ]; omega) h
      rw [List.length_cons, show k + (r.length + 1) = k + 1 + r.length by omega]
      exact h1
    · cases h
/-- What a word without a leading nought, of at most three bytes, is read as: its digits. -/
theorem numw_dgA {l : List UInt8} (h0 : l ≠ []) (h3 : l.length ≤ 3) (hz : ¬ (1 < l.length ∧ l.head? = some 48)) : numw l = dgA 0 l := by
  unfold numw
  rw [if_neg (by omega), if_neg hz]
  have hP : Lib.parseUintB 64 l = Lib.parseUintM (2 ^ 64 - 1) 0 l := by unfold Lib.parseUintB; rw [if_neg h0]
  rw [hP]
  cases hd : dgA 0 l with
  | none =>
    cases hq : Lib.parseUintM (2 ^ 64 - 1) 0 l
    · rename_i u
      rw [((pM_dgM _ (by decide) l 0 u (by decide)).1 hq).1] at hd; cases hd
    · rfl
    · rfl
  | some n =>
    have h1 := dgA_lt l 0 0 n (by decide) hd
    have h2 : (10 : Nat) ^ (0 + l.length) ≤ 10 ^ 3 := Nat.pow_le_pow_right (by decide) (by omega)
    rw [(pM_dgM (2 ^ 64 - 1) (by decide) l 0 n (by decide)).2 ⟨hd, by omega⟩]
theorem numw_none {l : List UInt8} (h : l = [] ∨ 3 < l.length ∨ (1 < l.length ∧ l.head? = some 48)) : numw l = none := by
  unfold numw
  rcases h with h | h | h
  · subst h
    rw [if_neg (by decide), if_neg (by simp)]
    rfl
  · rw [if_pos h]
  · by_cases h3 : 3 < l.length
    · rw [if_pos h3]
    · rw [if_neg h3, if_pos h]
end Go.Proofs.YtbpdnohcgojmbaaGreatDoor
