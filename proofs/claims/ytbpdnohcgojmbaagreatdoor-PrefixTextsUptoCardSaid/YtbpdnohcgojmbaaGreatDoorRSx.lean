/-
  The document's own way to read an address, plainly: parts by a mark, the place of '::', groups, four numbers; and that it says what the program's way says.
-/
import Derived.Test.YtbpdnohcgojmbaaGreatDoorRGrp
import Derived.Test.YtbpdnohcgojmbaaGreatDoorRound
namespace Go.Proofs.YtbpdnohcgojmbaaGreatDoor
open Go.RowKit
set_option linter.unusedVariables false

theorem spl_stop {c : UInt8} {l : List UInt8} {f i : Nat} (hfi : f ≤ i) (hi : l[i]? = some c) (hn : c ∉ (l.drop f).take (i - f)) : spl c (l.drop f) = (l.drop f).take (i - f) :: spl c (l.drop (i + 1)) := by
  obtain ⟨h, e⟩ := List.getElem?_eq_some_iff.1 hi
  have e2 : l.drop f = (l.drop f).take (i - f) ++ c :: l.drop (i + 1) := by
    conv => lhs; rw [← List.take_append_drop (i - f) (l.drop f)]
    rw [List.drop_drop, show f + (i - f) = i by omega, List.drop_eq_getElem_cons h, e]
  conv => lhs; rw [e2]
  exact spl_at hn
theorem spl_more {c x : UInt8} {l : List UInt8} {f i : Nat} (hfi : f ≤ i) (hi : l[i]? = some x) (hx : x ≠ c) (hn : c ∉ (l.drop f).take (i - f)) : c ∉ (l.drop f).take (i + 1 - f) := by
  have e : (l.drop f).take (i + 1 - f) = (l.drop f).take (i - f) ++ [x] := by
    rw [show i + 1 - f = (i - f) + 1 by omega, List.take_add_one, List.getElem?_drop, show f + (i - f) = i by omega, hi]; rfl
  rw [e]
  intro h
  rcases List.mem_append.1 h with h | h
  · exact hn h
  · simp at h; exact hx h.symm
theorem spl_done {c : UInt8} {l : List UInt8} {f i : Nat} (hfi : f ≤ i) (hi : i = l.length) (hn : c ∉ (l.drop f).take (i - f)) : spl c (l.drop f) = [(l.drop f).take (i - f)] := by
  have e : (l.drop f).take (i - f) = l.drop f := List.take_of_length_le (by rw [List.length_drop]; omega)
  rw [e] at hn ⊢
  exact spl_no hn
theorem spl_len (c : UInt8) : ∀ l : List UInt8, (spl c l).length ≤ l.length + 1
  | [] => by simp [spl]
  | x :: r => by
    have ih := spl_len c r
    unfold spl
    split
    · simp; omega
    · split
      · simp
      · rename_i h t e; rw [e] at ih; simp at ih ⊢; omega
theorem spl_parts_len (c : UInt8) : ∀ l : List UInt8, ∀ x ∈ spl c l, x.length ≤ l.length
  | [], x, h => by simp [spl] at h; simp [h]
  | y :: r, x, h => by
    have ih := spl_parts_len c r
    unfold spl at h
    split at h
    · rcases List.mem_cons.1 h with rfl | h
      · simp
      · have := ih x h; simp; omega
    · split at h
      · simp at h; simp [h]
      · rename_i a t e
        rw [e] at ih
        rcases List.mem_cons.1 h with rfl | h
        · have := ih a (by simp); simp; omega
        · have := ih x (by simp [h]); simp; omega

/-- The groups of a part beside a gap. -/
def gpart (l : List UInt8) : Option (List Nat) := if l = [] then some [] else alls hexw (spl 58 l)
/-- What the document's six answers: groups, and where the gap stands among them. -/
def sixD (l : List UInt8) : Option (List Nat × Int) :=
  match Lib.cut l [58, 58] with
  | (_, _, false) => (alls hexw (spl 58 l)).map fun g => (g, -1)
  | (a, b, true) => match gpart a, gpart b with
    | some f, some g => some (f ++ g, (f.length : Int))
    | _, _ => none
/-- What comes of it. -/
def sixE (o : Option (List Nat × Int)) : Option (List Nat) := match o with
  | none => none
  | some (g, at_) => if at_ < 0 then (if g.length = 8 then some g else none) else if g.length ≤ 7 then some (g.take at_.toNat ++ List.replicate (8 - g.length) 0 ++ g.drop at_.toNat) else none
theorem grps_gpart (l : List UInt8) : grps l = match gpart l with | some g => if g.length ≤ 8 then some g else none | none => none := by
  unfold grps gpart grpFrom
  by_cases h : l = []
  · rw [if_pos h, if_pos h]; rfl
  · rw [if_neg h, if_neg h]
    cases alls hexw (spl 58 l) with
    | none => rfl
    | some vs => simp
theorem six_sixD (l : List UInt8) : six l = sixE (sixD l) := by
  unfold six sixD
  rcases hc : Lib.cut l [58, 58] with ⟨a, b, t⟩
  cases t
  · have hcut : a = l ∧ b = [] := by
      unfold Lib.cut at hc
      split at hc
      · cases hc
      · cases hc; exact ⟨rfl, rfl⟩
    obtain ⟨rfl, rfl⟩ := hcut
    have e0 : grps [] = some [] := rfl
    simp only [e0]
    rw [grps_gpart]
    unfold gpart
    by_cases h : a = []
    · subst h
      have : alls hexw (spl 58 ([] : List UInt8)) = none := by simp [spl, alls, hexw]
      rw [this]
      simp [sixE]
    · rw [if_neg h]
      cases alls hexw (spl 58 a) with
      | none => rfl
      | some g =>
        simp only [Option.map_some, sixE]
        rw [if_pos (show (-1 : Int) < 0 by decide)]
        by_cases h8 : g.length = 8
        · rw [if_pos h8, if_pos (by omega)]
          simp [h8]
        · rw [if_neg h8]
          by_cases h9 : g.length ≤ 8
          · rw [if_pos h9]
            have : g.length < 8 := by omega
            simp [this]
          · rw [if_neg h9]
  · simp only []
    rw [grps_gpart, grps_gpart]
    cases gpart a with
    | none => rfl
    | some f =>
      cases gpart b with
      | none =>
        simp only [sixE]
        split <;> simp_all
      | some g =>
        simp only [sixE]
        rw [if_neg (show ¬ ((f.length : Int) < 0) by omega)]
        simp only [List.length_append, Int.toNat_natCast, List.take_left, List.drop_left]
        by_cases h1 : f.length + g.length ≤ 7
        · rw [if_pos h1, if_pos (by omega), if_pos (by omega)]
          have : f.length + g.length < 8 := by omega
          simp [this, Nat.sub_sub]
        · rw [if_neg h1]
          by_cases h2 : f.length ≤ 8
          · by_cases h3 : g.length ≤ 8
            · rw [if_pos h2, if_pos h3]
              have : ¬ f.length + g.length < 8 := by omega
              simp [this]
            · rw [if_neg h3]; simp [h2]
          · rw [if_neg h2]

/-- A number of digits holds no other byte. -/
theorem decw_digits {l : List UInt8} {v : Nat} (h : decw l = some v) : ∀ c ∈ l, 48 ≤ c.toNat ∧ c.toNat ≤ 57 := by
  have hd := decV_decw l
  rw [h] at hd
  unfold decV at hd
  split at hd
  · simp at hd
  · cases hg : dgA 0 l with
    | none => rw [hg] at hd; simp at hd
    | some n =>
      clear hd h
      have : ∀ (l : List UInt8) (a n : Nat), dgA a l = some n → ∀ c ∈ l, 48 ≤ c.toNat ∧ c.toNat ≤ 57 := by
        intro l
        induction l with
        | nil => intro a n _ c hc; cases hc
        | cons x r ih =>
          intro a n hg c hc
          unfold dgA at hg
          split at hg
          · rename_i hx
            rcases List.mem_cons.1 hc with rfl | hc
            · exact hx
            · exact ih _ _ hg c hc
          · cases hg
      exact this l 0 n hg
theorem spl_mem {c d : UInt8} (hd : d ≠ c) : ∀ {l : List UInt8}, d ∈ l → ∃ x ∈ spl c l, d ∈ x
  | y :: r, h => by
    unfold spl
    split
    · rename_i hy
      rcases List.mem_cons.1 h with e | h
      · exact absurd (e.trans hy) hd
      · obtain ⟨x, hx, hm⟩ := spl_mem hd h
        exact ⟨x, by simp [hx], hm⟩
    · split
      · rename_i e; exact absurd e (spl_ne c r)
      · rename_i a t e
        rcases List.mem_cons.1 h with rfl | h
        · exact ⟨_, List.mem_cons_self .., List.mem_cons_self ..⟩
        · obtain ⟨x, hx, hm⟩ := spl_mem hd h
          rw [e] at hx
          rcases List.mem_cons.1 hx with rfl | hx
          · exact ⟨_, List.mem_cons_self .., by simp [hm]⟩
          · exact ⟨x, by simp [hx], hm⟩
theorem alls_all {α β : Type} {f : α → Option β} : ∀ {l : List α} {vs : List β}, alls f l = some vs → ∀ x ∈ l, ∃ v, f x = some v
  | [], vs, h, x, hx => by cases hx
  | y :: r, vs, h, x, hx => by
    cases hy : f y with
    | none => rw [alls_cons_none hy] at h; cases h
    | some u =>
      rw [alls_cons_some hy] at h
      rcases List.mem_cons.1 hx with rfl | hx
      · exact ⟨u, hy⟩
      · cases hr : alls f r with
        | none => rw [hr] at h; cases h
        | some ws => exact alls_all hr x hx
theorem four_no58 {l : List UInt8} {vs : List Nat} (h : four l = some vs) : (58 : UInt8) ∉ l := by
  intro hm
  unfold four fourFrom at h
  split at h
  · rename_i ws hv
    obtain ⟨x, hx, hd⟩ := spl_mem (c := 46) (by decide) hm
    obtain ⟨v, hv⟩ := alls_all hv x hx
    have := decw_digits hv 58 hd
    simp at this
  · cases h
theorem six_no58 {l : List UInt8} (h : (58 : UInt8) ∉ l) : six l = none := by
  rw [six_sixD]
  have hc : Lib.cut l [58, 58] = (l, [], false) := by
    unfold Lib.cut
    have : Lib.index l [58, 58] = -1 := by
      induction l with
      | nil => rfl
      | cons x r ih =>
        have hx : ¬ (58 : UInt8) = x := fun e => h (by simp [e])
        have := ih (fun m => h (by simp [m]))
        simp [Lib.index, List.isPrefixOf, hx, this]
    rw [this, if_neg (by decide)]
  unfold sixD
  rw [hc]
  simp only []
  rw [spl_no h]
  cases hx : hexw l with
  | none => simp [alls, hx, sixE]
  | some v => simp [alls, hx, sixE]
/-- What the document reads: four numbers first, then groups. -/
def prsD (l : List UInt8) : Value := match four l with
  | some vs => fourV (some vs)
  | none => sixV (sixE (sixD l))
theorem prs_prsD (l : List UInt8) : prsD l = prsV l := by
  unfold prsD prsV
  cases h : four l with
  | some vs => rw [if_neg (four_no58 h)]
  | none =>
    simp only []
    by_cases hm : (58 : UInt8) ∈ l
    · rw [if_pos hm, six_sixD]
    · rw [if_neg hm, ← six_sixD, six_no58 hm]; rfl

/-- Where the first '::' stands. -/
def no2 (l : List UInt8) (i : Nat) : Prop := ∀ j, j < i → ¬ (l[j]? = some 58 ∧ l[j + 1]? = some 58)
theorem occ2 (l : List UInt8) (j : Nat) : Lib.occAt l [58, 58] j = true ↔ l[j]? = some 58 ∧ l[j + 1]? = some 58 := by
  unfold Lib.occAt
  have e0 : (l.drop j)[0]? = l[j]? := by rw [List.getElem?_drop]; rfl
  have e1 : (l.drop j)[1]? = l[j + 1]? := by rw [List.getElem?_drop]
  rw [← e0, ← e1]
  match l.drop j with
  | [] => simp [List.isPrefixOf]
  | [x] => simp [List.isPrefixOf]
  | x :: y :: r =>
    simp [List.isPrefixOf]
    constructor
    · rintro ⟨a, b⟩; exact ⟨a.symm, b.symm⟩
    · rintro ⟨a, b⟩; exact ⟨a.symm, b.symm⟩
theorem no2_step {l : List UInt8} {i : Nat} (h : no2 l i) (hi : ¬ (l[i]? = some 58 ∧ l[i + 1]? = some 58)) : no2 l (i + 1) := by
  intro j hj
  by_cases e : j = i
  · rw [e]; exact hi
  · exact h j (by omega)
theorem cut2_none {l : List UInt8} (h : no2 l (l.length - 1)) : Lib.cut l [58, 58] = (l, [], false) := by
  have : Lib.index l [58, 58] = -1 := Lib.index_none fun j _ => by
    rw [Bool.eq_false_iff]
    intro hq
    have hh := (occ2 l j).1 hq
    have hj := (List.getElem?_eq_some_iff.1 hh.2).1
    exact h j (by omega) hh
  unfold Lib.cut
  rw [this, if_neg (by decide)]
theorem cut2_at {l : List UInt8} {i : Nat} (h : no2 l i) (h0 : l[i]? = some 58) (h1 : l[i + 1]? = some 58) : Lib.cut l [58, 58] = (l.take i, l.drop (i + 2), true) := by
  have hl := (List.getElem?_eq_some_iff.1 h1).1
  have : Lib.index l [58, 58] = i := Lib.index_first (by omega) ((occ2 l i).2 ⟨h0, h1⟩) fun j hj => by
    rw [Bool.eq_false_iff]
    intro hq
    exact h j hj ((occ2 l j).1 hq)
  unfold Lib.cut
  rw [this, if_pos (by omega)]
  rfl
end Go.Proofs.YtbpdnohcgojmbaaGreatDoor
