/-
  Texts of addresses, plainly: parts between marks; four numbers; groups. Nothing of the program is used here but what a word stands for.
-/
import Derived.Test.YtbpdnohcgojmbaaGreatDoorDec
namespace Go.Proofs.YtbpdnohcgojmbaaGreatDoor
set_option linter.unusedVariables false

/-- A text's parts between marks. -/
def spl (c : UInt8) : List UInt8 → List (List UInt8)
  | [] => [[]]
  | x :: r => if x = c then [] :: spl c r else match spl c r with
    | [] => [[x]]
    | h :: t => (x :: h) :: t
theorem spl_ne (c : UInt8) (l : List UInt8) : spl c l ≠ [] := by
  cases l with
  | nil => simp [spl]
  | cons x r => unfold spl; split <;> (try split) <;> simp
theorem spl_no {c : UInt8} : ∀ {l : List UInt8}, c ∉ l → spl c l = [l]
  | [], _ => rfl
  | x :: r, h => by
    have hx : ¬ x = c := fun e => h (by simp [e])
    rw [spl, if_neg hx, spl_no (fun m => h (by simp [m]))]
theorem spl_at {c : UInt8} : ∀ {a b : List UInt8}, c ∉ a → spl c (a ++ c :: b) = a :: spl c b
  | [], b, _ => by simp [spl]
  | x :: r, b, h => by
    have hx : ¬ x = c := fun e => h (by simp [e])
    rw [List.cons_append, spl, if_neg hx, spl_at (fun m => h (by simp [m]))]

theorem index_one_no {c : UInt8} : ∀ {l : List UInt8}, c ∉ l → Lib.index l [c] = -1
  | [], _ => rfl
  | x :: r, h => by
    have hx : ¬ c = x := fun e => h (by simp [e])
    have ih := index_one_no (fun m => h (by simp [m]) : c ∉ r)
    simp [Lib.index, List.isPrefixOf, hx, ih]
theorem index_one_at {c : UInt8} : ∀ {a b : List UInt8}, c ∉ a → Lib.index (a ++ c :: b) [c] = a.length
  | [], b, _ => by simp [Lib.index, List.isPrefixOf]
  | x :: r, b, h => by
    have hx : ¬ c = x := fun e => h (by simp [e])
    have ih := index_one_at (b := b) (fun m => h (by simp [m]) : c ∉ r)
    simp only [List.cons_append, Lib.index, List.isPrefixOf, List.length_cons]
    rw [ih]
    simp [hx]
    try (intro e; omega)
theorem mem_cut {c : UInt8} : ∀ {l : List UInt8}, c ∈ l → ∃ a b, l = a ++ c :: b ∧ c ∉ a
  | x :: r, h => by
    by_cases hx : x = c
    · exact ⟨[], r, by simp [hx], by simp⟩
    · obtain ⟨a, b, e, ha⟩ := mem_cut (l := r) (by simpa [Ne.symm hx, eq_comm, hx] using h)
      exact ⟨x :: a, b, by rw [e]; rfl, by simp [ha, Ne.symm hx]⟩
/-- Cut at a mark, and the parts. -/
theorem cut_spl (c : UInt8) (s : List UInt8) : (Lib.cut s [c] = (s, [], false) ∧ spl c s = [s]) ∨ (∃ a b, Lib.cut s [c] = (a, b, true) ∧ spl c s = a :: spl c b ∧ s.length = a.length + 1 + b.length ∧ s = a ++ c :: b ∧ c ∉ a) := by
  by_cases h : c ∈ s
  · obtain ⟨a, b, rfl, ha⟩ := mem_cut h
    refine .inr ⟨a, b, ?_, spl_at ha, by simp; omega, rfl, ha⟩
    unfold Lib.cut
    rw [index_one_at ha, if_pos (by omega)]
    simp
  · refine .inl ⟨?_, spl_no h⟩
    unfold Lib.cut
    rw [index_one_no h, if_neg (by decide)]

/-- All of them, or none. -/
def alls {α β : Type} (f : α → Option β) : List α → Option (List β)
  | [] => some []
  | x :: r => match f x, alls f r with
    | some v, some vs => some (v :: vs)
    | _, _ => none
theorem alls_len {α β : Type} {f : α → Option β} : ∀ {l : List α} {vs : List β}, alls f l = some vs → vs.length = l.length
  | [], vs, h => by cases h; rfl
  | x :: r, vs, h => by
    unfold alls at h
    cases hx : f x with
    | none => rw [hx] at h; cases h
    | some v =>
      cases hr : alls f r with
      | none => rw [hx, hr] at h; cases h
      | some ws => rw [hx, hr] at h; cases h; simp [alls_len hr]
theorem alls_cons_none {α β : Type} {f : α → Option β} {x : α} {r : List α} (h : f x = none) : alls f (x :: r) = none := by unfold alls; rw [h]
theorem alls_cons_some {α β : Type} {f : α → Option β} {x : α} {r : List α} {v : β} (h : f x = some v) : alls f (x :: r) = (alls f r).map (v :: ·) := by
  cases hr : alls f r <;> simp [alls, h, hr]
theorem alls_map {α β γ : Type} {f : β → Option γ} {g : α → β} : ∀ (l : List α), (alls f (l.map g)) = alls (fun x => f (g x)) l
  | [] => rfl
  | x :: r => by simp only [List.map_cons, alls, alls_map r]

/-- Numbers that stand already, and those of the rest: four, or none. -/
def fourFrom (ws : List Nat) (r : List UInt8) : Option (List Nat) := match alls decw (spl 46 r) with
  | some vs => if ws.length + vs.length = 4 then some (ws ++ vs) else none
  | none => none
def four (s : List UInt8) : Option (List Nat) := fourFrom [] s
theorem fourFrom_len {ws : List Nat} {r : List UInt8} {vs : List Nat} (h : fourFrom ws r = some vs) : vs.length = 4 := by
  unfold fourFrom at h
  split at h
  · split at h
    · cases h; simpa using by assumption
    · cases h
  · cases h
theorem decw_le {l : List UInt8} {v : Nat} (h : decw l = some v) : v ≤ 255 := by
  unfold decw at h
  split at h
  · cases h
  · split at h
    · cases h
      exact Lib.parseUintB_le (by assumption)
    · cases h
theorem fourFrom_last {ws : List Nat} {r : List UInt8} (h : spl 46 r = [r]) : fourFrom ws r = match decw r with | some v => if ws.length = 3 then some (ws ++ [v]) else none | none => none := by
  unfold fourFrom
  rw [h]
  cases hd : decw r with
  | none => rw [alls_cons_none hd]
  | some v => rw [alls_cons_some hd]; simp [alls]
theorem fourFrom_next {ws : List Nat} {r a b : List UInt8} (h : spl 46 r = a :: spl 46 b) : fourFrom ws r = match decw a with | some v => fourFrom (ws ++ [v]) b | none => none := by
  unfold fourFrom
  rw [h]
  cases hd : decw a with
  | none => rw [alls_cons_none hd]
  | some v =>
    rw [alls_cons_some hd]
    cases alls decw (spl 46 b) with
    | none => rfl
    | some vs =>
      simp only [Option.map_some, List.length_append, List.length_cons, List.length_nil, List.append_assoc, List.singleton_append]
      by_cases e : ws.length + (vs.length + 1) = 4
      · rw [if_pos e, if_pos (by omega)]
      · rw [if_neg e, if_neg (by omega)]
theorem fourFrom_many {ws : List Nat} {r : List UInt8} (h : 4 ≤ ws.length) : fourFrom ws r = none := by
  unfold fourFrom
  split
  · rename_i vs hv
    have h1 := alls_len hv
    have h2 : 0 < (spl 46 r).length := List.length_pos_iff.2 (spl_ne _ _)
    rw [if_neg (by omega)]
  · rfl

/-- Groups one behind the other: none to eight. -/
def grpFrom (ws : List Nat) (r : List UInt8) : Option (List Nat) := match alls hexw (spl 58 r) with
  | some vs => if ws.length + vs.length ≤ 8 then some (ws ++ vs) else none
  | none => none
def grps (s : List UInt8) : Option (List Nat) := if s = [] then some [] else grpFrom [] s
theorem grpFrom_last {ws : List Nat} {r : List UInt8} (h : spl 58 r = [r]) : grpFrom ws r = match hexw r with | some v => if ws.length < 8 then some (ws ++ [v]) else none | none => none := by
  unfold grpFrom
  rw [h]
  cases hd : hexw r with
  | none => rw [alls_cons_none hd]
  | some v =>
    rw [alls_cons_some hd]
    simp only [alls, Option.map_some, List.length_cons, List.length_nil]
    by_cases h8 : ws.length < 8
    · rw [if_pos (by omega), if_pos h8]
    · rw [if_neg (by omega), if_neg h8]
theorem grpFrom_next {ws : List Nat} {r a b : List UInt8} (h : spl 58 r = a :: spl 58 b) : grpFrom ws r = match hexw a with | some v => grpFrom (ws ++ [v]) b | none => none := by
  unfold grpFrom
  rw [h]
  cases hd : hexw a with
  | none => rw [alls_cons_none hd]
  | some v =>
    rw [alls_cons_some hd]
    cases alls hexw (spl 58 b) with
    | none => rfl
    | some vs =>
      simp only [Option.map_some, List.length_append, List.length_cons, List.length_nil, List.append_assoc, List.singleton_append]
      by_cases e : ws.length + (vs.length + 1) ≤ 8
      · rw [if_pos e, if_pos (by omega)]
      · rw [if_neg e, if_neg (by omega)]
theorem grpFrom_many {ws : List Nat} {r : List UInt8} (h : 8 ≤ ws.length) : grpFrom ws r = none := by
  unfold grpFrom
  split
  · rename_i vs hv
    have h1 := alls_len hv
    have h2 : 0 < (spl 58 r).length := List.length_pos_iff.2 (spl_ne _ _)
    rw [if_neg (by omega)]
  · rfl
theorem grpFrom_len {ws : List Nat} {r : List UInt8} {vs : List Nat} (h : grpFrom ws r = some vs) : vs.length ≤ 8 := by
  unfold grpFrom at h
  split at h
  · split at h
    · cases h; simpa using by assumption
    · cases h
  · cases h
theorem grps_len {s : List UInt8} {vs : List Nat} (h : grps s = some vs) : vs.length ≤ 8 := by
  unfold grps at h
  split at h
  · cases h; decide
  · exact grpFrom_len h

/-- Eight groups of a text. -/
def six (s : List UInt8) : Option (List Nat) := match grps (Lib.cut s [58, 58]).1, grps (Lib.cut s [58, 58]).2.1 with
  | some f, some b => if (Lib.cut s [58, 58]).2.2 = decide (f.length + b.length < 8) then some (f ++ List.replicate (8 - f.length - b.length) 0 ++ b) else none
  | _, _ => none
end Go.Proofs.YtbpdnohcgojmbaaGreatDoor
