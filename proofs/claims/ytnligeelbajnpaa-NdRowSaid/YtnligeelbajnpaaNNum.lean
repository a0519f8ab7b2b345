/-
  Options of layer 9: plain rows of bytes.
-/
namespace Go.Proofs.Ytnligeelbajnpaa
set_option linter.unusedVariables false

/-- An option: its kind and its data. -/
abbrev Opt9 := UInt8 × List UInt8
/-- One more ahead of those that were read, if they were. -/
def consO (x : Opt9) (r : List Opt9 × Int) : List Opt9 × Int := if r.2 = 0 then (x :: r.1, 0) else ([], r.2)
/-- All options, and 0; or none, and what is wrong. -/
def ops (l : List UInt8) : List Opt9 × Int :=
  match l with
  | [] => ([], 0)
  | k :: r =>
    match r with
    | [] => ([], 81)
    | n :: q => if n.toNat = 0 then ([], 80) else if q.length + 2 < 8 * n.toNat then ([], 81) else consO (k, q.take (8 * n.toNat - 2)) (ops (q.drop (8 * n.toNat - 2)))
termination_by l.length
decreasing_by simp; omega
theorem ops_nil : ops [] = ([], 0) := by rw [ops]
theorem ops_lone (k : UInt8) : ops [k] = ([], 81) := by rw [ops]
theorem ops_two (k n : UInt8) (q : List UInt8) : ops (k :: n :: q) = if n.toNat = 0 then ([], 80) else if q.length + 2 < 8 * n.toNat then ([], 81) else consO (k, q.take (8 * n.toNat - 2)) (ops (q.drop (8 * n.toNat - 2))) := by rw [ops]
theorem ops_rec {P : List UInt8 → Prop} (h0 : P []) (h1 : ∀ k, P [k]) (h2 : ∀ k n q, n.toNat = 0 → P (k :: n :: q)) (h3 : ∀ k n q, n.toNat ≠ 0 → q.length + 2 < 8 * n.toNat → P (k :: n :: q))
    (h4 : ∀ k n x z, n.toNat ≠ 0 → x.length + 2 = 8 * n.toNat → P z → P (k :: n :: (x ++ z))) : ∀ l, P l := by
  intro l
  induction hn : l.length using Nat.strongRecOn generalizing l with
  | _ N ih =>
    match l with
    | [] => exact h0
    | [k] => exact h1 k
    | k :: n :: q =>
      by_cases hz : n.toNat = 0
      · exact h2 k n q hz
      by_cases hl : q.length + 2 < 8 * n.toNat
      · exact h3 k n q hz hl
      have e : q = q.take (8 * n.toNat - 2) ++ q.drop (8 * n.toNat - 2) := (List.take_append_drop _ _).symm
      rw [e]
      refine h4 k n _ _ hz (by rw [List.length_take]; omega) (ih (q.drop (8 * n.toNat - 2)).length ?_ _ rfl)
      subst hn
      simp; omega
theorem ops_step (k n : UInt8) (x z : List UInt8) (hn : n.toNat ≠ 0) (hx : x.length + 2 = 8 * n.toNat) : ops (k :: n :: (x ++ z)) = consO (k, x) (ops z) := by
  rw [ops_two, if_neg hn, if_neg (by rw [List.length_append]; omega), List.take_left' (by omega), List.drop_left' (by omega)]
theorem consO_two {x : Opt9} {r : List Opt9 × Int} : (consO x r).2 = r.2 := by
  unfold consO
  split
  · rename_i h; exact h.symm
  · rfl
theorem ops_codes (l : List UInt8) : (ops l).2 = 0 ∨ (ops l).2 = 80 ∨ (ops l).2 = 81 := by
  refine ops_rec (P := fun l => (ops l).2 = 0 ∨ (ops l).2 = 80 ∨ (ops l).2 = 81) ?_ ?_ ?_ ?_ ?_ l
  · rw [ops_nil]; exact .inl rfl
  · intro k; rw [ops_lone]; exact .inr (.inr rfl)
  · intro k n q h; rw [ops_two, if_pos h]; exact .inr (.inl rfl)
  · intro k n q h h2; rw [ops_two, if_neg h, if_pos h2]; exact .inr (.inr rfl)
  · intro k n x z hn hx ih; rw [ops_step k n x z hn hx, consO_two]; exact ih
theorem ops_bad (l : List UInt8) (h : (ops l).2 ≠ 0) : (ops l).1 = [] := by
  revert h
  refine ops_rec (P := fun l => (ops l).2 ≠ 0 → (ops l).1 = []) ?_ ?_ ?_ ?_ ?_ l
  · intro h; rw [ops_nil]
  · intro k h; rw [ops_lone]
  · intro k n q h _; rw [ops_two, if_pos h]
  · intro k n q h h2 _; rw [ops_two, if_neg h, if_pos h2]
  · intro k n x z hn hx ih h
    rw [ops_step k n x z hn hx] at h ⊢
    rw [consO_two] at h
    unfold consO
    rw [if_neg h]
/-- Two rows of options are one row. -/
theorem ops_app (s t : List UInt8) (h : (ops s).2 = 0) : ops (s ++ t) = if (ops t).2 = 0 then ((ops s).1 ++ (ops t).1, 0) else ([], (ops t).2) := by
  revert h
  refine ops_rec (P := fun s => (ops s).2 = 0 → ops (s ++ t) = if (ops t).2 = 0 then ((ops s).1 ++ (ops t).1, 0) else ([], (ops t).2)) ?_ ?_ ?_ ?_ ?_ s
  · intro _
    rw [ops_nil, List.nil_append, List.nil_append]
    split
    · rename_i h; rw [← h]
    · rename_i h; rw [← ops_bad t h]
  · intro k h; rw [ops_lone] at h; cases h
  · intro k n q h h2; rw [ops_two, if_pos h] at h2; cases h2
  · intro k n q h h2 h3; rw [ops_two, if_neg h, if_pos h2] at h3; cases h3
  · intro k n x z hn hx ih h
    rw [ops_step k n x z hn hx, consO_two] at h
    rw [show (k :: n :: (x ++ z)) ++ t = k :: n :: (x ++ (z ++ t)) by simp, ops_step k n x _ hn hx, ops_step k n x z hn hx, ih h]
    unfold consO
    rw [if_pos h]
    split
    · rw [if_pos rfl, List.cons_append]
    · rfl
/-- A length of 0 stays one. -/
theorem ops_form (s t : List UInt8) (h : (ops s).2 = 80) : ops (s ++ t) = ([], 80) := by
  revert h
  refine ops_rec (P := fun s => (ops s).2 = 80 → ops (s ++ t) = ([], 80)) ?_ ?_ ?_ ?_ ?_ s
  · intro h; rw [ops_nil] at h; cases h
  · intro k h; rw [ops_lone] at h; cases h
  · intro k n q h _; rw [List.cons_append, List.cons_append, ops_two, if_pos h]
  · intro k n q h h2 h3; rw [ops_two, if_neg h, if_pos h2] at h3; cases h3
  · intro k n x z hn hx ih h
    rw [ops_step k n x z hn hx, consO_two] at h
    rw [show (k :: n :: (x ++ z)) ++ t = k :: n :: (x ++ (z ++ t)) by simp, ops_step k n x _ hn hx, ih h]
    rfl
/-- The options are all the bytes. -/
theorem ops_sum (s : List UInt8) (h : (ops s).2 = 0) : ((ops s).1.map (fun x => 2 + x.2.length)).sum = s.length := by
  revert h
  refine ops_rec (P := fun s => (ops s).2 = 0 → ((ops s).1.map (fun x => 2 + x.2.length)).sum = s.length) ?_ ?_ ?_ ?_ ?_ s
  · intro _; rw [ops_nil]; rfl
  · intro k h; rw [ops_lone] at h; cases h
  · intro k n q h h2; rw [ops_two, if_pos h] at h2; cases h2
  · intro k n q h h2 h3; rw [ops_two, if_neg h, if_pos h2] at h3; cases h3
  · intro k n x z hn hx ih h
    rw [ops_step k n x z hn hx, consO_two] at h
    rw [ops_step k n x z hn hx]
    unfold consO
    rw [if_pos h]
    have := ih h
    simp only [List.map_cons, List.sum_cons, List.length_cons, List.length_append]
    omega
/-- What is cut short within a row is too short, or has fewer options. -/
theorem ops_cut (s : List UInt8) (h : (ops s).2 = 0) : ∀ c, c < s.length → (ops (s.take c)).2 = 81 ∨ ((ops (s.take c)).2 = 0 ∧ (ops (s.take c)).1.length < (ops s).1.length) := by
  revert h
  refine ops_rec (P := fun s => (ops s).2 = 0 → ∀ c, c < s.length → (ops (s.take c)).2 = 81 ∨ ((ops (s.take c)).2 = 0 ∧ (ops (s.take c)).1.length < (ops s).1.length)) ?_ ?_ ?_ ?_ ?_ s
  · intro _ c hc; simp at hc
  · intro k h; rw [ops_lone] at h; cases h
  · intro k n q h h2; rw [ops_two, if_pos h] at h2; cases h2
  · intro k n q h h2 h3; rw [ops_two, if_neg h, if_pos h2] at h3; cases h3
  · intro k n x z hn hx ih h c hc
    rw [ops_step k n x z hn hx, consO_two] at h
    have hl : (ops (k :: n :: (x ++ z))).1.length = (ops z).1.length + 1 := by
      rw [ops_step k n x z hn hx]; unfold consO; rw [if_pos h]; rfl
    rw [hl]
    rcases c with _ | _ | c
    · right; rw [List.take_zero, ops_nil]; exact ⟨rfl, by simp⟩
    · left
      rw [show (k :: n :: (x ++ z)).take (0 + 1) = [k] from rfl, ops_lone]
    · rw [show (k :: n :: (x ++ z)).take (c + 1 + 1) = k :: n :: (x ++ z).take c from rfl]
      by_cases hcx : c < x.length
      · left
        rw [ops_two, if_neg hn, if_pos (by rw [List.length_take, List.length_append]; omega)]
      · have e : (x ++ z).take c = x ++ z.take (c - x.length) := by
          rw [List.take_append, List.take_of_length_le (by omega)]
        rw [e, ops_step k n x _ hn hx, consO_two]
        have hcz : c - x.length < z.length := by simp at hc; omega
        rcases ih h _ hcz with h1 | ⟨h1, h2⟩
        · exact .inl h1
        · refine .inr ⟨h1, ?_⟩
          unfold consO
          rw [if_pos h1]
          simpa using h2
/-- Read on from a place. -/
theorem ops_at_end {l : List UInt8} {i : Nat} (h : l.length ≤ i) : ops (l.drop i) = ([], 0) := by rw [List.drop_eq_nil_of_le h, ops_nil]
theorem ops_at_lone {l : List UInt8} {i : Nat} (h : l.length = i + 1) : ops (l.drop i) = ([], 81) := by
  have : ∃ k, l.drop i = [k] := List.length_eq_one_iff.1 (by rw [List.length_drop]; omega)
  obtain ⟨k, e⟩ := this
  rw [e, ops_lone]
theorem ops_at_two {l : List UInt8} {i : Nat} {k n : UInt8} (hk : l[i]? = some k) (hn : l[i + 1]? = some n) :
    ops (l.drop i) = if n.toNat = 0 then ([], 80) else if l.length < i + 8 * n.toNat then ([], 81) else consO (k, (l.take (i + 8 * n.toNat)).drop (i + 2)) (ops (l.drop (i + 8 * n.toNat))) := by
  obtain ⟨h1, e1⟩ := List.getElem?_eq_some_iff.1 hk
  obtain ⟨h2, e2⟩ := List.getElem?_eq_some_iff.1 hn
  rw [List.drop_eq_getElem_cons h1, List.drop_eq_getElem_cons h2, e1, e2, ops_two, List.length_drop]
  by_cases hz : n.toNat = 0
  · rw [if_pos hz, if_pos hz]
  rw [if_neg hz, if_neg hz]
  by_cases hl : l.length < i + 8 * n.toNat
  · rw [if_pos hl, if_pos (by omega)]
  · rw [if_neg hl, if_neg (by omega), List.drop_drop, List.drop_take, show i + 1 + 1 + (8 * n.toNat - 2) = i + 8 * n.toNat by omega, show i + 8 * n.toNat - (i + 2) = 8 * n.toNat - 2 by omega]
/-- What the first option of a kind with six bytes says. -/
def macO (kind : Nat) (l : List Opt9) : Option (List UInt8) := (l.find? (fun x => decide (x.1.toNat = kind ∧ x.2.length = 6))).map (·.2)
theorem macO_app (kind : Nat) (l m : List Opt9) (h : ∀ x ∈ m, x.1.toNat ≠ kind) : macO kind (l ++ m) = macO kind l := by
  unfold macO
  rw [List.find?_append]
  have : m.find? (fun x => decide (x.1.toNat = kind ∧ x.2.length = 6)) = none := by
    rw [List.find?_eq_none]
    intro x hx
    simp [h x hx]
  rw [this, Option.or_none]
end Go.Proofs.Ytnligeelbajnpaa
