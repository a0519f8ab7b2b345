/-
  Which addresses are valid, and which is less, by the program and by the document's own answer.
-/
import Derived.Test.YtabbclocgkhnhaaMake
namespace Go.Proofs.Ytabbclocgkhnhaa
open Go.RowKit
set_option linter.unusedVariables false

/-- An address as a value. -/
abbrev adr (s : Bool) (h l : Int) : Value := .agg #[.bool s, .int .u64 h, .int .u64 l]
/-- A number of 64 bits. -/
def U6 (n : Int) : Prop := 0 ≤ n ∧ n ≤ 18446744073709551615
def vld (s : Bool) (h l : Int) : Bool := s || (decide (h = 0) && decide (l ≤ 4294967295))
theorem vld_six (h l : Int) : vld true h l = true := rfl
theorem vld_four {h l : Int} (e : vld false h l = true) : h = 0 ∧ l ≤ 4294967295 := by simpa [vld] using e
theorem vld_no {s : Bool} {h l : Int} (e : vld s h l = false) : s = false ∧ (h ≠ 0 ∨ ¬ l ≤ 4294967295) := by
  cases s
  · simp [vld] at e
    refine ⟨rfl, ?_⟩
    by_cases h0 : h = 0
    · exact .inr (by have := e h0; omega)
    · exact .inl h0
  · simp [vld] at e

set_option maxHeartbeats 400000 in
theorem valid_any (s : Bool) (h l : Int) (w : World) :
    Calls Try.prog 44 #[adr s h l] w fun e w' => e = .returned (.bool (vld s h l)) ∧ Below w.heap.size w w' := by
  cases s
  · by_cases h0 : h = 0
    · subst h0
      by_cases hl : l ≤ 4294967295
      · go_enter Try.func44, Try.ntmps44
        go_wp2
        go_ret
        exact ⟨by simp [vld, hl], (Below.refl _ _).alloc (Nat.le_refl _) _⟩
      · go_enter Try.func44, Try.ntmps44
        go_wp2
        go_ret
        exact ⟨by simp [vld, hl], (Below.refl _ _).alloc (Nat.le_refl _) _⟩
    · go_enter Try.func44, Try.ntmps44
      go_wp2
      go_ret
      exact ⟨by simp [vld, h0], (Below.refl _ _).alloc (Nat.le_refl _) _⟩
  · go_enter Try.func44, Try.ntmps44
    go_wp2
    go_ret
    exact ⟨by simp [vld], (Below.refl _ _).alloc (Nat.le_refl _) _⟩
set_option maxHeartbeats 400000 in
theorem rvalid_any (s : Bool) (h l : Int) (w : World) :
    Calls Try.prog 57 #[adr s h l] w fun e w' => e = .returned (.bool (vld s h l)) ∧ Below w.heap.size w w' := by
  cases s
  · by_cases h0 : h = 0
    · subst h0
      by_cases hl : l ≤ 4294967295
      · have hl' : l < 4294967296 := by omega
        go_enter Try.func57, Try.ntmps57
        go_wp2
        go_ret
        exact ⟨by simp [vld, hl], (Below.refl _ _).alloc (Nat.le_refl _) _⟩
      · have hl' : ¬ l < 4294967296 := by omega
        go_enter Try.func57, Try.ntmps57
        go_wp2
        go_ret
        exact ⟨by simp [vld, hl], (Below.refl _ _).alloc (Nat.le_refl _) _⟩
    · go_enter Try.func57, Try.ntmps57
      go_wp2
      go_ret
      exact ⟨by simp [vld, h0], (Below.refl _ _).alloc (Nat.le_refl _) _⟩
  · go_enter Try.func57, Try.ntmps57
    go_wp2
    go_ret
    exact ⟨by simp [vld], (Below.refl _ _).alloc (Nat.le_refl _) _⟩

/-- Which of two addresses is less. -/
def lss (s : Bool) (h l : Int) (s' : Bool) (h' l' : Int) : Bool :=
  vld s h l && vld s' h' l' && (if s ≠ s' then s' else if h ≠ h' then decide (h < h') else decide (l < l'))

theorem valid_at (s : Bool) (h l : Int) (w : World) {b : Bool} (e : vld s h l = b) :
    Calls Try.prog 44 #[adr s h l] w fun e w' => e = .returned (.bool b) ∧ Below w.heap.size w w' := by
  subst e; exact valid_any s h l w
theorem rvalid_at (s : Bool) (h l : Int) (w : World) {b : Bool} (e : vld s h l = b) :
    Calls Try.prog 57 #[adr s h l] w fun e w' => e = .returned (.bool b) ∧ Below w.heap.size w w' := by
  subst e; exact rvalid_any s h l w
theorem Blk.c3 {w : World} {g : Nat} {t : TypeId} {a b c : Value} (h : Blk w g t #[a, b, c]) : w.cell? ⟨g, 0, none⟩ = some a ∧ w.cell? ⟨g, 1, none⟩ = some b ∧ w.cell? ⟨g, 2, none⟩ = some c :=
  ⟨by rw [h.cell]; rfl, by rw [h.cell]; rfl, by rw [h.cell]; rfl⟩
theorem bcell {W w1 : World} (hb : Below W.heap.size W w1) : (∀ b o, b < W.heap.size → w1.cell? ⟨b, o, none⟩ = W.cell? ⟨b, o, none⟩) ∧ (∀ b o, b < W.heap.size → w1.frozen? ⟨b, o, none⟩ = W.frozen? ⟨b, o, none⟩) :=
  ⟨fun b o h => hb.cell (p := ⟨b, o, none⟩) h, fun b o h => hb.frozen (p := ⟨b, o, none⟩) h⟩

theorem ret_bool {a b : Bool} (h : a = b) : Ending.returned (.bool a) = .returned (.bool b) := by rw [h]

/-- The bytes of an address. -/
def byts (s : Bool) (h l : Int) : List Int := if vld s h l then (if s then putOf 8 h ++ putOf 8 l else putOf 4 l) else []
end Go.Proofs.Ytabbclocgkhnhaa
