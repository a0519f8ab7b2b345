/-
  Which addresses are valid, and which is less, by the program and by the document's own answer.
-/
import Derived.Test.YtlbkphnbpenbcaaMake
namespace Go.Proofs.Ytlbkphnbpenbcaa
open Go.RowKit
set_option linter.unusedVariables false

/-- An address as a value. -/
abbrev adr (s : Bool) (h l : Int) : Value := .agg #[.bool s, .int .u64 h, .int .u64 l]
/-- A number of 64 bits. -/
def U6 (n : Int) : Prop := 0 ≤ n ∧ n ≤ 18446744073709551615
def vld (s : Bool) (h l : Int) : Bool := s || (decide (h = 0) && decide (l ≤ 4294967295))
theorem vld_six (h l : Int) : vld true h l = true := rfl
theorem vld_four {h l : Int} (e : vld false h l = true) : h = 0 ∧ l ≤ 4294967295 := by simpa [vld] using e
theorem vld_no {s : Bool} {h l : Int} (e : vld s h l = false) : s = false ∧ (h ≠ 0 ∨ ¬ l ≤ 4294967295) := by
  cases s
  · simp [vld] at e
    refine ⟨rfl, ?_⟩
    by_cases h0 : h = 0
    · exact .inr (by have := e h0; omega)
    · exact .inl h0
  · simp [vld] at e

set_option maxHeartbeats 400000 in
theorem valid_any (s : Bool) (h l : Int) (w : World) :
    Calls Try.prog 61 #[adr s h l] w fun e w' => e = .returned (.bool (vld s h l)) ∧ Below w.heap.size w w' := by
  cases s
  · by_cases h0 : h = 0
    · subst h0
      by_cases hl : l ≤ 4294967295
      · go_enter Try.func61, Try.ntmps61
        go_wp2
        go_ret
        exact ⟨by simp [vld, hl], (Below.refl _ _).alloc (Nat.le_refl _) _⟩
      · go_enter Try.func61, Try.ntmps61
        go_wp2
        go_ret
        exact ⟨by simp [vld, hl], (Below.refl _ _).alloc (Nat.le_refl _) _⟩
    · go_enter Try.func61, Try.ntmps61
      go_wp2
      go_ret
      exact ⟨by simp [vld, h0], (Below.refl _ _).alloc (Nat.le_refl _) _⟩
  · go_enter Try.func61, Try.ntmps61
    go_wp2
    go_ret
    exact ⟨by simp [vld], (Below.refl _ _).alloc (Nat.le_refl _) _⟩
set_option maxHeartbeats 400000 in
theorem rvalid_any (s : Bool) (h l : Int) (w : World) :
    Calls Try.prog 52 #[adr s h l] w fun e w' => e = .returned (.bool (vld s h l)) ∧ Below w.heap.size w w' := by
  cases s
  · by_cases h0 : h = 0
    · subst h0
      by_cases hl : l ≤ 4294967295
      · have hl' : l < 4294967296 := by omega
        go_enter Try.func52, Try.ntmps52
        go_wp2
        go_ret
        exact ⟨by simp [vld, hl], (Below.refl _ _).alloc (Nat.le_refl _) _⟩
      · have hl' : ¬ l < 4294967296 := by omega
        go_enter Try.func52, Try.ntmps52
        go_wp2
        go_ret
        exact ⟨by simp [vld, hl], (Below.refl _ _).alloc (Nat.le_refl _) _⟩
    · go_enter Try.func52, Try.ntmps52
      go_wp2
      go_ret
      exact ⟨by simp [vld, h0], (Below.refl _ _).alloc (Nat.le_refl _) _⟩
  · go_enter Try.func52, Try.ntmps52
    go_wp2
    go_ret
    exact ⟨by simp [vld], (Below.refl _ _).alloc (Nat.le_refl _) _⟩

/-- Which of two addresses is less. -/
def lss (s : Bool) (h l : Int) (s' : Bool) (h' l' : Int) : Bool :=
  vld s h l && vld s' h' l' && (if s ≠ s' then s' else if h ≠ h' then decide (h < h') else decide (l < l'))

theorem valid_at (s : Bool) (h l : Int) (w : World) {b : Bool} (e : vld s h l = b) :
    Calls Try.prog 61 #[adr s h l] w fun e w' => e = .returned (.bool b) ∧ Below w.heap.size w w' := by
  subst e; exact valid_any s h l w
theorem rvalid_at (s : Bool) (h l : Int) (w : World) {b : Bool} (e : vld s h l = b) :
    Calls Try.prog 52 #[adr s h l] w fun e w' => e = .returned (.bool b) ∧ Below w.heap.size w w' := by
  subst e; exact rvalid_any s h l w
theorem Blk.c3 {w : World} {g : Nat} {t : TypeId} {a b c : Value} (h : Blk w g t #[a, b, c]) : w.cell? ⟨g, 0, none⟩ = some a ∧ w.cell? ⟨g, 1, none⟩ = some b ∧ w.cell? ⟨g, 2, none⟩ = some c :=
  ⟨by rw [h.cell]; rfl, by rw [h.cell]; rfl, by rw [h.cell]; rfl⟩
theorem bcell {W w1 : World} (hb : Below W.heap.size W w1) : (∀ b o, b < W.heap.size → w1.cell? ⟨b, o, none⟩ = W.cell? ⟨b, o, none⟩) ∧ (∀ b o, b < W.heap.size → w1.frozen? ⟨b, o, none⟩ = W.frozen? ⟨b, o, none⟩) :=
  ⟨fun b o h => hb.cell (p := ⟨b, o, none⟩) h, fun b o h => hb.frozen (p := ⟨b, o, none⟩) h⟩

theorem ret_bool {a b : Bool} (h : a = b) : Ending.returned (.bool a) = .returned (.bool b) := by rw [h]

set_option maxHeartbeats 1000000 in
theorem less_any (s : Bool) (h l : Int) (s' : Bool) (h' l' : Int) (w : World) :
    Calls Try.prog 60 #[adr s h l, adr s' h' l'] w fun e w' => e = .returned (.bool (lss s h l s' h' l')) ∧ Below w.heap.size w w' := by
  obtain ⟨V1, hV1⟩ : ∃ v, vld s h l = v := ⟨_, rfl⟩
  obtain ⟨V2, hV2⟩ : ∃ v, vld s' h' l' = v := ⟨_, rfl⟩
  obtain ⟨R, hR⟩ : ∃ v, lss s h l s' h' l' = v := ⟨_, rfl⟩
  have HR := Lib.hid hR
  rw [hR]
  have H1 := Lib.hid (fun W => valid_at s h l W hV1)
  have H2 := Lib.hid (fun W => valid_at s' h' l' W hV2)
  have G1 := Lib.hid hV1
  have G2 := Lib.hid hV2
  clear hR hV1 hV2
  cases V1
  · go_enter Try.func60, Try.ntmps60
    go_wp2_with fail
    refine Calls.mono (H1.out _) ?_
    rintro e w1 ⟨rfl, hb⟩
    go_wp2
    go_ret
    exact ⟨by rw [← HR.out]; simp [lss, G1.out], (((Below.refl _ _).alloc (Nat.le_refl _) _).alloc (by simp) _).trans (hb.mono (by simp; omega))⟩
  · cases V2
    · go_enter Try.func60, Try.ntmps60
      go_wp2_with fail
      refine Calls.mono (H1.out _) ?_
      rintro e w1 ⟨rfl, hb⟩
      obtain ⟨hc, hf⟩ := bcell hb
      go_wp2_with fail
      refine Calls.mono (H2.out _) ?_
      rintro e w2 ⟨rfl, hb2⟩
      go_wp2
      go_ret
      have B1 := (((Below.refl _ w).alloc (Nat.le_refl _) _).alloc (by simp) _).trans (hb.mono (by simp; omega))
      exact ⟨by rw [← HR.out]; simp [lss, G1.out, G2.out], B1.trans (hb2.mono B1.size)⟩
    · rcases s with _ | _ <;> rcases s' with _ | _
      all_goals first | (by_cases hh : h = h'; subst hh) | skip
      all_goals
        go_enter Try.func60, Try.ntmps60
        go_wp2_with fail
        refine Calls.mono (H1.out _) ?_
        rintro e w1 ⟨rfl, hb⟩
        obtain ⟨hc, hf⟩ := bcell hb
        go_wp2_with fail
        refine Calls.mono (H2.out _) ?_
        rintro e w2 ⟨rfl, hb2⟩
        obtain ⟨c0, c1, c2⟩ := ((((Blk.new w 30 _).alloc _).below hb (by simp only [World.size_alloc]; omega)).below hb2 (by have := hb.size; simp at this; omega)).c3
        obtain ⟨d0, d1, d2⟩ := (((Blk.new (w.alloc _) 30 _).below hb (by simp only [World.size_alloc]; omega)).below hb2 (by have := hb.size; simp at this ⊢; omega)).c3
        rw [World.size_alloc] at d0 d1 d2
        have B1 := Lib.hid ((((Below.refl _ w).alloc (Nat.le_refl _) _).alloc (by simp) _).trans (hb.mono (by simp; omega)))
        have B2 := Lib.hid (B1.out.trans (hb2.mono B1.out.size))
        go_wp2
        go_ret
        exact ⟨ret_bool (by rw [← HR.out]; simp [lss, G1.out, G2.out, *]), B2.out⟩
/-- The bytes of an address. -/
def byts (s : Bool) (h l : Int) : List Int := if vld s h l then (if s then putOf 8 h ++ putOf 8 l else putOf 4 l) else []
end Go.Proofs.Ytlbkphnbpenbcaa
