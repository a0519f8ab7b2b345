/-
  Plain rows of taken blocks (layer 10): what is free between them, what is taken next, what is given back.
-/
namespace Go.Proofs.YtiocdojdncomhaaDoor
set_option linter.unusedVariables false

/-- A taken block: where it begins, its order. -/
abbrev Bl := Nat × Nat
/-- Do two blocks share a cell? -/
def meets (b : Bl) (p k : Nat) : Prop := b.1 < p + 2 ^ k ∧ p < b.1 + 2 ^ b.2
instance (b : Bl) (p k : Nat) : Decidable (meets b p k) := inferInstanceAs (Decidable (_ ∧ _))
def clr (L : List Bl) (p k : Nat) : Bool := L.all fun b => decide (¬ meets b p k)
def cvr (L : List Bl) (p k : Nat) : Bool := L.any fun b => decide (b.1 ≤ p ∧ p + 2 ^ k ≤ b.1 + 2 ^ b.2)
/-- The free blocks within a block, from the first one on. -/
def fre (L : List Bl) : Nat → Nat → List Bl
  | 0, p => if clr L p 0 then [(p, 0)] else []
  | k + 1, p => if clr L p (k + 1) then [(p, k + 1)] else if cvr L p (k + 1) then [] else fre L k p ++ fre L k (p + 2 ^ k)
theorem clr_iff {L : List Bl} {p k : Nat} : clr L p k = true ↔ ∀ b ∈ L, ¬ meets b p k := by simp [clr]
theorem cvr_iff {L : List Bl} {p k : Nat} : cvr L p k = true ↔ ∃ b ∈ L, b.1 ≤ p ∧ p + 2 ^ k ≤ b.1 + 2 ^ b.2 := by simp [cvr]
theorem two_pos (k : Nat) : 0 < 2 ^ k := Nat.pow_pos (by decide)
/-- Of two multiples of a size the lesser one's block ends ahead of the other one. -/
theorem step_le {s a b : Nat} (ha : s ∣ a) (hb : s ∣ b) (h : a < b) : a + s ≤ b := by
  obtain ⟨x, rfl⟩ := ha
  obtain ⟨y, rfl⟩ := hb
  rcases Nat.eq_zero_or_pos s with h0 | h0
  · subst h0; simp at h
  · have : x < y := Nat.lt_of_mul_lt_mul_left h
    calc s * x + s = s * (x + 1) := by rw [Nat.mul_succ]
      _ ≤ s * y := Nat.mul_le_mul_left s this
theorem dvd_two {j k : Nat} (h : j ≤ k) : 2 ^ j ∣ 2 ^ k := Nat.pow_dvd_pow 2 h
/-- What is free: within the block, at a multiple of its size, and no taken block meets it. -/
theorem fre_mem (L : List Bl) : ∀ (k p : Nat), 2 ^ k ∣ p → ∀ f ∈ fre L k p, f.2 ≤ k ∧ 2 ^ f.2 ∣ f.1 ∧ p ≤ f.1 ∧ f.1 + 2 ^ f.2 ≤ p + 2 ^ k ∧ clr L f.1 f.2 = true
  | 0, p, hd, f, hf => by
    unfold fre at hf
    split at hf
    · rename_i h
      rw [List.mem_singleton.1 hf]
      exact ⟨Nat.le_refl _, hd, Nat.le_refl _, Nat.le_refl _, h⟩
    · cases hf
  | k + 1, p, hd, f, hf => by
    have hs : 2 ^ (k + 1) = 2 ^ k + 2 ^ k := by rw [Nat.pow_succ]; omega
    unfold fre at hf
    split at hf
    · rename_i h
      rw [List.mem_singleton.1 hf]
      exact ⟨Nat.le_refl _, hd, Nat.le_refl _, Nat.le_refl _, h⟩
    · split at hf
      · cases hf
      · have hk : 2 ^ k ∣ p := Nat.dvd_trans (dvd_two (Nat.le_succ k)) hd
        rcases List.mem_append.1 hf with h | h
        · obtain ⟨h1, h2, h3, h4, h5⟩ := fre_mem L k p hk f h
          exact ⟨by omega, h2, h3, by omega, h5⟩
        · obtain ⟨h1, h2, h3, h4, h5⟩ := fre_mem L k (p + 2 ^ k) (Nat.dvd_add hk (Nat.dvd_refl _)) f h
          exact ⟨by omega, h2, by omega, by omega, h5⟩
/-- Whatever block no taken one meets lies in a free one. -/
theorem fre_all (L : List Bl) : ∀ (k p : Nat), 2 ^ k ∣ p → ∀ q o : Nat, 2 ^ o ∣ q → p ≤ q → q + 2 ^ o ≤ p + 2 ^ k → clr L q o = true → ∃ f ∈ fre L k p, f.1 ≤ q ∧ q + 2 ^ o ≤ f.1 + 2 ^ f.2
  | 0, p, hd, q, o, ho, hpq, hq, hc => by
    have h1 := two_pos o
    have e0 : (2 : Nat) ^ 0 = 1 := rfl
    have e : q = p := by omega
    have hcl : clr L p 0 = true := by
      rw [clr_iff] at hc ⊢
      intro b hb hm
      refine hc b hb ⟨?_, ?_⟩
      · have := hm.1; omega
      · have := hm.2; omega
    unfold fre
    rw [if_pos hcl]
    exact ⟨(p, 0), by simp, by omega, hq⟩
  | k + 1, p, hd, q, o, ho, hpq, hq, hc => by
    have hs : 2 ^ (k + 1) = 2 ^ k + 2 ^ k := by rw [Nat.pow_succ]; omega
    have h1 := two_pos o
    unfold fre
    by_cases hcl : clr L p (k + 1) = true
    · rw [if_pos hcl]
      exact ⟨(p, k + 1), by simp, hpq, hq⟩
    · rw [if_neg hcl]
      have hnc : ¬ cvr L p (k + 1) = true := by
        intro hcv
        obtain ⟨b, hb, h2, h3⟩ := cvr_iff.1 hcv
        exact clr_iff.1 hc b hb ⟨by omega, by omega⟩
      rw [if_neg hnc]
      have hok : o ≤ k := by
        apply Nat.le_of_lt_succ
        apply Nat.lt_of_not_le
        intro hko
        have h2 : 2 ^ (k + 1) ≤ 2 ^ o := Nat.pow_le_pow_right (by decide) hko
        have e : q = p := by omega
        subst e
        have e2 : 2 ^ o = 2 ^ (k + 1) := by omega
        apply hcl
        rw [clr_iff] at hc ⊢
        intro b hb hm
        exact hc b hb ⟨by rw [e2]; exact hm.1, hm.2⟩
      have hk : 2 ^ k ∣ p := Nat.dvd_trans (dvd_two (Nat.le_succ k)) hd
      have hk2 : 2 ^ k ∣ p + 2 ^ k := Nat.dvd_add hk (Nat.dvd_refl _)
      by_cases hh : q < p + 2 ^ k
      · have h2 := step_le ho (Nat.dvd_trans (dvd_two hok) hk2) hh
        obtain ⟨f, hf, h3⟩ := fre_all L k p hk q o ho hpq h2 hc
        exact ⟨f, List.mem_append.2 (.inl hf), h3⟩
      · obtain ⟨f, hf, h3⟩ := fre_all L k (p + 2 ^ k) hk2 q o ho (by omega) (by omega) hc
        exact ⟨f, List.mem_append.2 (.inr hf), h3⟩
/-- The first one of the least order that serves. -/
def bst (o : Nat) : Option Bl → List Bl → Option Bl
  | g, [] => g
  | none, f :: r => bst o (if o ≤ f.2 then some f else none) r
  | some g, f :: r => bst o (if o ≤ f.2 ∧ f.2 < g.2 then some f else some g) r
theorem bst_some (o : Nat) : ∀ (l : List Bl) (g : Bl), o ≤ g.2 → ∃ h, bst o (some g) l = some h ∧ (h = g ∨ h ∈ l) ∧ o ≤ h.2 ∧ h.2 ≤ g.2 ∧ ∀ f ∈ l, o ≤ f.2 → h.2 ≤ f.2
  | [], g, hg => ⟨g, rfl, .inl rfl, hg, Nat.le_refl _, fun f hf => by cases hf⟩
  | x :: r, g, hg => by
    unfold bst
    by_cases hx : o ≤ x.2 ∧ x.2 < g.2
    · rw [if_pos hx]
      obtain ⟨h, e, h1, h2, h3, h4⟩ := bst_some o r x hx.1
      refine ⟨h, e, ?_, h2, by omega, fun f hf ho => ?_⟩
      · rcases h1 with h1 | h1
        · exact .inr (by simp [h1])
        · exact .inr (by simp [h1])
      · rcases List.mem_cons.1 hf with e2 | e2
        · rw [e2]; exact h3
        · exact h4 f e2 ho
    · rw [if_neg hx]
      obtain ⟨h, e, h1, h2, h3, h4⟩ := bst_some o r g hg
      refine ⟨h, e, ?_, h2, h3, fun f hf ho => ?_⟩
      · rcases h1 with h1 | h1
        · exact .inl h1
        · exact .inr (by simp [h1])
      · rcases List.mem_cons.1 hf with e2 | e2
        · subst e2; omega
        · exact h4 f e2 ho
theorem bst_yes {o : Nat} : ∀ {l : List Bl} {f : Bl}, f ∈ l → o ≤ f.2 → ∃ h, bst o none l = some h ∧ h ∈ l ∧ o ≤ h.2 ∧ ∀ f ∈ l, o ≤ f.2 → h.2 ≤ f.2
  | x :: r, f, hf, ho => by
    unfold bst
    by_cases hx : o ≤ x.2
    · rw [if_pos hx]
      obtain ⟨h, e, h1, h2, h3, h4⟩ := bst_some o r x hx
      refine ⟨h, e, ?_, h2, fun f hf ho => ?_⟩
      · rcases h1 with h1 | h1 <;> simp [h1]
      · rcases List.mem_cons.1 hf with e2 | e2
        · rw [e2]; exact h3
        · exact h4 f e2 ho
    · rw [if_neg hx]
      rcases List.mem_cons.1 hf with e2 | e2
      · subst e2; exact absurd ho hx
      · obtain ⟨h, e, h1, h2, h4⟩ := bst_yes e2 ho
        refine ⟨h, e, by simp [h1], h2, fun f hf ho => ?_⟩
        rcases List.mem_cons.1 hf with e3 | e3
        · subst e3; exact absurd ho hx
        · exact h4 f e3 ho
theorem bst_no {o : Nat} : ∀ {l : List Bl}, (∀ f ∈ l, f.2 < o) → bst o none l = none
  | [], _ => rfl
  | x :: r, h => by
    unfold bst
    rw [if_neg (by have := h x (by simp); omega)]
    exact bst_no fun f hf => h f (by simp [hf])
/-- Taken blocks that lie one behind the other, each at a multiple of its size, within 2^O cells. -/
structure InvA (O : Nat) (L : List Bl) : Prop where
  row : L.Pairwise fun a b => a.1 + 2 ^ a.2 ≤ b.1
  each : ∀ b ∈ L, 2 ^ b.2 ∣ b.1 ∧ b.1 + 2 ^ b.2 ≤ 2 ^ O
/-- One more, where it belongs. -/
def ins (p o : Nat) (L : List Bl) : List Bl := L.takeWhile (fun b => decide (b.1 < p)) ++ (p, o) :: L.dropWhile (fun b => decide (b.1 < p))
theorem ins_cons (p o : Nat) (b : Bl) (L : List Bl) : ins p o (b :: L) = if b.1 < p then b :: ins p o L else (p, o) :: b :: L := by
  unfold ins
  by_cases h : b.1 < p
  · simp [h]
  · simp [h]
theorem ins_mem {p o : Nat} : ∀ {L : List Bl} {x : Bl}, x ∈ ins p o L ↔ x = (p, o) ∨ x ∈ L
  | [], x => by simp [ins]
  | b :: L, x => by
    rw [ins_cons]
    split
    · rw [List.mem_cons, ins_mem, List.mem_cons]
      constructor
      · rintro (h | h | h) <;> simp [h]
      · rintro (h | h | h) <;> simp [h]
    · simp
theorem ins_row {p o : Nat} : ∀ {L : List Bl}, L.Pairwise (fun a b => a.1 + 2 ^ a.2 ≤ b.1) → (∀ b ∈ L, ¬ meets b p o) → (ins p o L).Pairwise fun a b => a.1 + 2 ^ a.2 ≤ b.1
  | [], _, _ => by simp [ins]
  | b :: L, h, hc => by
    rw [ins_cons]
    obtain ⟨h1, h2⟩ := List.pairwise_cons.1 h
    have hb := hc b (by simp)
    have hp := two_pos o
    have hpb := two_pos b.2
    unfold meets at hb
    split
    · rename_i hlt
      rw [List.pairwise_cons]
      refine ⟨fun x hx => ?_, ins_row h2 fun b hb => hc b (by simp [hb])⟩
      rcases ins_mem.1 hx with e | e
      · rw [e]; show b.1 + 2 ^ b.2 ≤ p; omega
      · exact h1 x e
    · rename_i hge
      rw [List.pairwise_cons]
      refine ⟨fun x hx => ?_, h⟩
      have hle : p + 2 ^ o ≤ b.1 := by omega
      rcases List.mem_cons.1 hx with e | e
      · rw [e]; exact hle
      · have := h1 x e
        show p + 2 ^ o ≤ x.1
        omega
/-- A smaller block within a clear one is clear. -/
theorem clr_less {L : List Bl} {p j o : Nat} (h : clr L p j = true) (ho : o ≤ j) : clr L p o = true := by
  have h2 : 2 ^ o ≤ 2 ^ j := Nat.pow_le_pow_right (by decide) ho
  rw [clr_iff] at h ⊢
  intro b hb hm
  exact h b hb ⟨by have := hm.1; omega, hm.2⟩
/-- What Take answers of an order that may be, and what is taken then; none: it is full. -/
def tkS (O : Nat) (L : List Bl) (o : Nat) : Option (Nat × List Bl) := (bst o none (fre L O 0)).map fun f => (f.1, ins f.1 o L)
theorem tkS_some {O : Nat} {L : List Bl} {o p : Nat} {M : List Bl} (hI : InvA O L) (h : tkS O L o = some (p, M)) :
    M = ins p o L ∧ InvA O M ∧ clr L p o = true ∧ ∃ f ∈ fre L O 0, f.1 = p ∧ o ≤ f.2 ∧ ∀ g ∈ fre L O 0, o ≤ g.2 → f.2 ≤ g.2 := by
  unfold tkS at h
  by_cases hx : ∃ f ∈ fre L O 0, o ≤ f.2
  · obtain ⟨f, hf, ho⟩ := hx
    obtain ⟨g, e, h1, h2, h3⟩ := bst_yes hf ho
    rw [e] at h
    injection h with h
    injection h with h4 h5
    subst h4
    obtain ⟨m1, m2, m3, m4, m5⟩ := fre_mem L O 0 (Nat.dvd_zero _) g h1
    have hcl := clr_less m5 h2
    have hle : 2 ^ o ≤ 2 ^ g.2 := Nat.pow_le_pow_right (by decide) h2
    refine ⟨h5.symm, ?_, hcl, g, h1, rfl, h2, h3⟩
    rw [← h5]
    refine ⟨ins_row hI.row (clr_iff.1 hcl), fun b hb => ?_⟩
    rcases ins_mem.1 hb with e2 | e2
    · rw [e2]
      exact ⟨Nat.dvd_trans (dvd_two h2) m2, by show g.1 + 2 ^ o ≤ 2 ^ O; omega⟩
    · exact hI.each b e2
  · rw [bst_no fun f hf => Nat.lt_of_not_le fun ho => hx ⟨f, hf, ho⟩] at h
    cases h
/-- Where it is full no block of that order is clear anywhere. -/
theorem tkS_none {O : Nat} {L : List Bl} {o : Nat} (h : tkS O L o = none) : ∀ q, 2 ^ o ∣ q → q + 2 ^ o ≤ 2 ^ O → clr L q o = false := by
  intro q hd hq
  rw [Bool.eq_false_iff]
  intro hc
  obtain ⟨f, hf, h1, h2⟩ := fre_all L O 0 (Nat.dvd_zero _) q o hd (Nat.zero_le _) (by omega) hc
  have ho : o ≤ f.2 := by
    apply Nat.le_of_not_lt
    intro hlt
    have := Nat.pow_lt_pow_right (a := 2) (by decide) hlt
    omega
  obtain ⟨g, e, -⟩ := bst_yes hf ho
  unfold tkS at h
  rw [e] at h
  cases h
/-- What is given back. -/
def gvS (L : List Bl) (p : Nat) : Option (List Bl) := if L.any (fun b => decide (b.1 = p)) then some (L.eraseP fun b => decide (b.1 = p)) else none
theorem gvS_inv {O : Nat} {L M : List Bl} {p : Nat} (hI : InvA O L) (h : gvS L p = some M) : InvA O M := by
  unfold gvS at h
  split at h
  · injection h with h
    subst h
    exact ⟨hI.row.sublist List.eraseP_sublist, fun b hb => hI.each b (List.mem_of_mem_eraseP hb)⟩
  · cases h
/-- A free block that isn't all is as great as may be: what it is a half of is not clear. -/
theorem fre_max (L : List Bl) : ∀ (k p : Nat), 2 ^ k ∣ p → ∀ f ∈ fre L k p, f.2 < k → ∃ q, 2 ^ (f.2 + 1) ∣ q ∧ p ≤ q ∧ q + 2 ^ (f.2 + 1) ≤ p + 2 ^ k ∧ (f.1 = q ∨ f.1 = q + 2 ^ f.2) ∧ clr L q (f.2 + 1) = false
  | 0, p, hd, f, hf, hlt => absurd hlt (Nat.not_lt_zero _)
  | k + 1, p, hd, f, hf, hlt => by
    have hs : 2 ^ (k + 1) = 2 ^ k + 2 ^ k := by rw [Nat.pow_succ]; omega
    have hk : 2 ^ k ∣ p := Nat.dvd_trans (dvd_two (Nat.le_succ k)) hd
    unfold fre at hf
    split at hf
    · rw [List.mem_singleton.1 hf] at hlt
      exact absurd hlt (Nat.lt_irrefl _)
    · rename_i hc
      split at hf
      · cases hf
      · rcases List.mem_append.1 hf with h | h
        · by_cases hfk : f.2 < k
          · obtain ⟨q, h1, h2, h3, h4, h5⟩ := fre_max L k p hk f h hfk
            exact ⟨q, h1, h2, by omega, h4, h5⟩
          · have hm := fre_mem L k p hk f h
            have e : f.2 = k := by omega
            rw [e] at hm ⊢
            exact ⟨p, hd, Nat.le_refl _, Nat.le_refl _, .inl (by omega), by simpa using hc⟩
        · by_cases hfk : f.2 < k
          · obtain ⟨q, h1, h2, h3, h4, h5⟩ := fre_max L k (p + 2 ^ k) (Nat.dvd_add hk (Nat.dvd_refl _)) f h hfk
            exact ⟨q, h1, by omega, by omega, h4, h5⟩
          · have hm := fre_mem L k (p + 2 ^ k) (Nat.dvd_add hk (Nat.dvd_refl _)) f h
            have e : f.2 = k := by omega
            rw [e] at hm ⊢
            exact ⟨p, hd, Nat.le_refl _, Nat.le_refl _, .inr (by omega), by simpa using hc⟩
/-- The free blocks lie one behind the other. -/
theorem fre_row (L : List Bl) : ∀ (k p : Nat), 2 ^ k ∣ p → (fre L k p).Pairwise fun a b => a.1 + 2 ^ a.2 ≤ b.1
  | 0, p, hd => by
    unfold fre
    split <;> simp
  | k + 1, p, hd => by
    have hs : 2 ^ (k + 1) = 2 ^ k + 2 ^ k := by rw [Nat.pow_succ]; omega
    have hk : 2 ^ k ∣ p := Nat.dvd_trans (dvd_two (Nat.le_succ k)) hd
    unfold fre
    split
    · simp
    · split
      · simp
      · rw [List.pairwise_append]
        refine ⟨fre_row L k p hk, fre_row L k (p + 2 ^ k) (Nat.dvd_add hk (Nat.dvd_refl _)), fun a ha b hb => ?_⟩
        have h1 := fre_mem L k p hk a ha
        have h2 := fre_mem L k (p + 2 ^ k) (Nat.dvd_add hk (Nat.dvd_refl _)) b hb
        omega
theorem fre_nil (O : Nat) : fre [] O 0 = [(0, O)] := by
  cases O <;> simp [fre, clr]
/-- The free block in which a clear cell lies is the only one there. -/
theorem fre_one {L : List Bl} {O : Nat} {f g : Bl} {q : Nat} (hf : f ∈ fre L O 0) (hg : g ∈ fre L O 0) (h1 : f.1 ≤ q ∧ q < f.1 + 2 ^ f.2) (h2 : g.1 ≤ q ∧ q < g.1 + 2 ^ g.2) : f = g := by
  have h := fre_row L O 0 (Nat.dvd_zero _)
  obtain ⟨i, hi, ei⟩ := List.mem_iff_getElem.1 hf
  obtain ⟨j, hj, ej⟩ := List.mem_iff_getElem.1 hg
  rw [List.pairwise_iff_getElem] at h
  rcases Nat.lt_trichotomy i j with hlt | heq | hlt
  · have := h i j hi hj hlt
    rw [ei, ej] at this
    omega
  · subst heq
    rw [← ei, ← ej]
  · have := h j i hj hi hlt
    rw [ei, ej] at this
    omega
/-- Where all cells ahead of i are taken and none from i on, the next single cell is i. -/
theorem tkS_next {O : Nat} {L : List Bl} {i : Nat} (hi : i < 2 ^ O) (h1 : ∀ q, q < i → ∃ b ∈ L, b.1 ≤ q ∧ q < b.1 + 2 ^ b.2) (h2 : ∀ b ∈ L, b.1 + 2 ^ b.2 ≤ i) :
    tkS O L 0 = some (i, ins i 0 L) := by
  have hcl : clr L i 0 = true := by
    rw [clr_iff]
    intro b hb hm
    have := h2 b hb
    have := hm.2
    omega
  obtain ⟨f, hf, hf1, hf2⟩ := fre_all L O 0 (Nat.dvd_zero _) i 0 ⟨i, by simp⟩ (Nat.zero_le _) (by simp; omega) hcl
  have fm := fre_mem L O 0 (Nat.dvd_zero _) f hf
  have p2 := two_pos f.2
  -- all that is free begins at i or behind it
  have hbeg : ∀ g ∈ fre L O 0, i ≤ g.1 := by
    intro g hg
    apply Nat.le_of_not_lt
    intro hlt
    obtain ⟨b, hb, hb1, hb2⟩ := h1 g.1 hlt
    have gm := fre_mem L O 0 (Nat.dvd_zero _) g hg
    have := two_pos g.2
    exact clr_iff.1 gm.2.2.2.2 b hb ⟨by omega, hb2⟩
  have hfi : f.1 = i := by have := hbeg f hf; omega
  -- and what begins behind i is greater
  have hgr : ∀ g ∈ fre L O 0, g ≠ f → f.2 < g.2 := by
    intro g hg hne
    have gm := fre_mem L O 0 (Nat.dvd_zero _) g hg
    have hgi := hbeg g hg
    have p3 := two_pos g.2
    have hgi2 : f.1 + 2 ^ f.2 ≤ g.1 := by
      apply Nat.le_of_not_lt
      intro hlt
      exact hne (fre_one hg hf (q := g.1) ⟨Nat.le_refl _, by omega⟩ ⟨by omega, by omega⟩)
    have hgO : g.2 < O := by
      apply Nat.lt_of_not_le
      intro hle
      have : 2 ^ O ≤ 2 ^ g.2 := Nat.pow_le_pow_right (by decide) hle
      omega
    obtain ⟨q, q1, q2, q3, q4, q5⟩ := fre_max L O 0 (Nat.dvd_zero _) g hg hgO
    have hs : 2 ^ (g.2 + 1) = 2 ^ g.2 + 2 ^ g.2 := by rw [Nat.pow_succ]; omega
    -- the greater block has a taken cell: it begins ahead of i
    have hqi : q < i := by
      apply Nat.lt_of_not_le
      intro hle
      rw [Bool.eq_false_iff] at q5
      apply q5
      rw [clr_iff]
      intro b hb hm
      have := h2 b hb
      have := hm.2
      omega
    have hgq : g.1 = q + 2 ^ g.2 := by rcases q4 with e | e <;> omega
    have hlt : 2 ^ f.2 < 2 ^ g.2 := by omega
    exact (Nat.pow_lt_pow_iff_right (by decide)).1 hlt
  obtain ⟨h, e, m1, m2, m3⟩ := bst_yes (o := 0) hf (Nat.zero_le _)
  have he : h = f := by
    apply Classical.byContradiction
    intro hne
    have h4 := hgr h m1 hne
    have h5 := m3 f hf (Nat.zero_le _)
    omega
  unfold tkS
  rw [e, he, Option.map_some, hfi]
/-- Rows with the same blocks are the same. -/
theorem row_ext : ∀ {L M : List Bl}, L.Pairwise (fun a b => a.1 + 2 ^ a.2 ≤ b.1) → M.Pairwise (fun a b => a.1 + 2 ^ a.2 ≤ b.1) → (∀ x, x ∈ L ↔ x ∈ M) → L = M
  | [], M, _, _, h => by
    cases M with
    | nil => rfl
    | cons b M => exact absurd ((h b).2 (by simp)) (by simp)
  | a :: L, [], _, _, h => absurd ((h a).1 (by simp)) (by simp)
  | a :: L, b :: M, hL, hM, h => by
    obtain ⟨l1, l2⟩ := List.pairwise_cons.1 hL
    obtain ⟨m1, m2⟩ := List.pairwise_cons.1 hM
    have pa := two_pos a.2
    have pb := two_pos b.2
    have hab : a = b := by
      have ha := (h a).1 (by simp)
      have hb := (h b).2 (by simp)
      rcases List.mem_cons.1 ha with e | e
      · exact e
      · rcases List.mem_cons.1 hb with e2 | e2
        · exact e2.symm
        · have := m1 a e
          have := l1 b e2
          omega
    subst hab
    congr 1
    refine row_ext l2 m2 fun x => ?_
    constructor
    · intro hx
      have h1 := (h x).1 (by simp [hx])
      rcases List.mem_cons.1 h1 with e | e
      · subst e; have := l1 x hx; omega
      · exact e
    · intro hx
      have h1 := (h x).2 (by simp [hx])
      rcases List.mem_cons.1 h1 with e | e
      · subst e; have := m1 x hx; omega
      · exact e
/-- A block is given by where it begins. -/
theorem row_at {L : List Bl} (h : L.Pairwise fun a b => a.1 + 2 ^ a.2 ≤ b.1) {x y : Bl} (hx : x ∈ L) (hy : y ∈ L) (e : x.1 = y.1) : x = y := by
  obtain ⟨i, hi, ei⟩ := List.mem_iff_getElem.1 hx
  obtain ⟨j, hj, ej⟩ := List.mem_iff_getElem.1 hy
  rw [List.pairwise_iff_getElem] at h
  have px := two_pos x.2
  have py := two_pos y.2
  rcases Nat.lt_trichotomy i j with hlt | heq | hlt
  · have := h i j hi hj hlt
    rw [ei, ej] at this; omega
  · subst heq; rw [← ei, ← ej]
  · have := h j i hj hi hlt
    rw [ei, ej] at this; omega
theorem eraseP_mem {p : Nat} : ∀ {L : List Bl}, L.Pairwise (fun a b => a.1 + 2 ^ a.2 ≤ b.1) → ∀ x, x ∈ L.eraseP (fun b => decide (b.1 = p)) ↔ x ∈ L ∧ x.1 ≠ p
  | [], _, x => by simp
  | b :: L, h, x => by
    obtain ⟨h1, h2⟩ := List.pairwise_cons.1 h
    have pb := two_pos b.2
    rw [List.eraseP_cons]
    by_cases hb : b.1 = p
    · simp only [hb, decide_true, cond_true]
      constructor
      · intro hx
        exact ⟨List.mem_cons_of_mem _ hx, fun e => by have := h1 x hx; omega⟩
      · rintro ⟨hx, hne⟩
        rcases List.mem_cons.1 hx with e | e
        · rw [e] at hne; exact absurd hb hne
        · exact e
    · simp only [hb, decide_false, cond_false]
      rw [List.mem_cons, eraseP_mem h2 x, List.mem_cons]
      constructor
      · rintro (e | ⟨e1, e2⟩)
        · subst e; exact ⟨.inl rfl, hb⟩
        · exact ⟨.inr e1, e2⟩
      · rintro ⟨e | e, hne⟩
        · exact .inl e
        · exact .inr ⟨e, hne⟩
/-- What is taken can be given back; then just it is free. -/
theorem gvS_mem {O : Nat} {L : List Bl} {p k : Nat} (hI : InvA O L) (hp : (p, k) ∈ L) : ∃ M, gvS L p = some M ∧ InvA O M ∧ ∀ x, x ∈ M ↔ x ∈ L ∧ x.1 ≠ p := by
  have ha : L.any (fun b => decide (b.1 = p)) = true := by
    rw [List.any_eq_true]
    exact ⟨(p, k), hp, by simp⟩
  have e : gvS L p = some (L.eraseP fun b => decide (b.1 = p)) := by unfold gvS; rw [if_pos ha]
  exact ⟨_, e, gvS_inv hI e, eraseP_mem hI.row⟩
theorem gvS_no {L : List Bl} {p : Nat} (h : ∀ b ∈ L, b.1 ≠ p) : gvS L p = none := by
  unfold gvS
  rw [if_neg]
  rw [List.any_eq_true]
  rintro ⟨b, hb, e⟩
  exact h b hb (by simpa using e)
/-- Where just one block is clear, and all other cells are taken, it is the next of its order. -/
theorem tkS_only {O : Nat} {M : List Bl} {p k : Nat} (hI : InvA O M) (hd : 2 ^ k ∣ p) (hp : p + 2 ^ k ≤ 2 ^ O) (hc : clr M p k = true) (ho : ∀ q, q < 2 ^ O → (q < p ∨ p + 2 ^ k ≤ q) → ∃ b ∈ M, b.1 ≤ q ∧ q < b.1 + 2 ^ b.2) :
    tkS O M k = some (p, ins p k M) := by
  have pk := two_pos k
  obtain ⟨f, hf, hf1, hf2⟩ := fre_all M O 0 (Nat.dvd_zero _) p k hd (Nat.zero_le _) (by omega) hc
  have fm := fre_mem M O 0 (Nat.dvd_zero _) f hf
  -- each free cell lies in the block
  have hin : ∀ g ∈ fre M O 0, ∀ q, g.1 ≤ q → q < g.1 + 2 ^ g.2 → p ≤ q ∧ q < p + 2 ^ k := by
    intro g hg q h1 h2
    have gm := fre_mem M O 0 (Nat.dvd_zero _) g hg
    apply Classical.byContradiction
    intro hne
    obtain ⟨b, hb, b1, b2⟩ := ho q (by omega) (by omega)
    exact clr_iff.1 gm.2.2.2.2 b hb ⟨by omega, by omega⟩
  have pf := two_pos f.2
  have h1 := hin f hf f.1 (Nat.le_refl _) (by omega)
  have h2 := hin f hf (f.1 + 2 ^ f.2 - 1) (by omega) (by omega)
  have hfp : f.1 = p := by omega
  have hsz : 2 ^ f.2 = 2 ^ k := by omega
  have hfk : f.2 = k := Nat.le_antisymm ((Nat.pow_le_pow_iff_right (by decide)).1 (Nat.le_of_eq hsz)) ((Nat.pow_le_pow_iff_right (by decide)).1 (Nat.le_of_eq hsz.symm))
  obtain ⟨h, e, m1, m2, m3⟩ := bst_yes (o := k) hf (by omega)
  have he : h = f := by
    have p3 := two_pos h.2
    have h3 := hin h m1 h.1 (Nat.le_refl _) (by omega)
    exact fre_one m1 hf (q := h.1) ⟨Nat.le_refl _, by omega⟩ ⟨by omega, by omega⟩
  unfold tkS
  rw [e, he, Option.map_some, hfp]
end Go.Proofs.YtiocdojdncomhaaDoor
