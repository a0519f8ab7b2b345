/-
  '==' of two addresses, as one fact.
-/
import Derived.Test.YtabbclocgkhnhaaIfG
namespace Go.Proofs.Ytabbclocgkhnhaa
open Go.RowKit
set_option linter.unusedVariables false

theorem eq_ad (s s' : Bool) (h l h' l' : Int) (W : World) : (Op.equalIn 10000 34 (.agg #[.bool s, .int .u64 h, .int .u64 l]) (.agg #[.bool s', .int .u64 h', .int .u64 l'])).run Try.prog W = .ok (decide (s = s' ∧ h = h' ∧ l = l')) W := by
  by_cases h1 : s = s'
  · subst h1
    by_cases h2 : h = h'
    · subst h2
      by_cases h3 : l = l'
      · subst h3
        go_simp
      · have h4 : (l == l') = false := by simpa using h3
        rw [show decide (s = s ∧ h = h ∧ l = l') = false by simp [h3]]
        go_simp
    · have h4 : (h == h') = false := by simpa using h2
      rw [show decide (s = s ∧ h = h' ∧ l = l') = false by simp [h2]]
      go_simp
  · have h4 : (s == s') = false := by simpa using h1
    rw [show decide (s = s' ∧ h = h' ∧ l = l') = false by simp [h1]]
    go_simp
/-- The same, of addresses as natural numbers; the walk's two ways. -/
theorem eq_adI (x y : AdI) {b : Bool} (hb : decide (x = y) = b) (W : World) : (Op.equalIn 10000 34 (.agg #[.bool x.1, .int .u64 (x.2.1 : Int), .int .u64 (x.2.2 : Int)]) (.agg #[.bool y.1, .int .u64 (y.2.1 : Int), .int .u64 (y.2.2 : Int)])).run Try.prog W = .ok b W := by
  rw [eq_ad, ← hb]
  obtain ⟨s, h, l⟩ := x
  obtain ⟨s', h', l'⟩ := y
  congr 2
  simp [Prod.ext_iff]
  intro _
  constructor <;> (rintro ⟨h1, h2⟩; constructor <;> omega)
end Go.Proofs.Ytabbclocgkhnhaa
