/-
  A set of ports, plainly (layer 14): what the laws ask of Source and Near.
-/
import Derived.Test.YtabbclocgkhnhaaIfN
namespace Go.Proofs.Ytabbclocgkhnhaa
set_option linter.unusedVariables false

theorem hldI_fam {a : AdI} {x : Loc} (h : hldI a x = true) (hb : 1 ≤ x.2) : x.1.1 = a.1 := by
  unfold hldI comV at h
  rw [decide_eq_true_eq] at h
  split at h
  · rename_i hc; exact hc.2.2
  · omega
theorem bestT_some {a : AdI} {l : List Loc} {n k : Nat} (h : bestT a l n = some k) : k < n ∧ ∃ x, l[k]? = some x ∧ hldI a x = true := by
  induction n with
  | zero => cases h
  | succ n ih =>
    unfold bestT at h
    cases hx : l[n]? with
    | none =>
      rw [hx] at h
      have := ih h
      exact ⟨by omega, this.2⟩
    | some x =>
      rw [hx] at h
      simp only at h
      generalize hc : (hldI a x && (match bestT a l n with | none => true | some k => decide ((((l[k]?).map (·.2)).getD 0) < x.2))) = c at h
      cases c with
      | true =>
        rw [if_pos rfl] at h
        injection h with h
        subst h
        rw [Bool.and_eq_true] at hc
        exact ⟨by omega, x, hx, hc.1⟩
      | false =>
        rw [if_neg (by decide)] at h
        have := ih h
        exact ⟨by omega, this.2⟩
theorem pickI_some {a : AdI} {l : List Loc} {k : Nat} (h : pickI a l = some k) (hb : ∀ x ∈ l, 1 ≤ x.2) : ∃ x, l[k]? = some x ∧ x.1.1 = a.1 := by
  unfold pickI at h
  cases hk : bestT a l l.length with
  | some j =>
    rw [hk] at h
    injection h with h
    subst h
    obtain ⟨-, x, hx, hh⟩ := bestT_some hk
    exact ⟨x, hx, hldI_fam hh (hb x (List.mem_of_getElem? hx))⟩
  | none =>
    rw [hk] at h
    simp only at h
    split at h
    · cases h
    · rename_i h0
      injection h with h
      obtain ⟨i, hi⟩ : ∃ i, famI a.1 l = i + 1 := ⟨famI a.1 l - 1, by omega⟩
      rw [hi] at h
      have : k = i := by omega
      subst this
      obtain ⟨⟨x, hx, hp⟩, -⟩ := fndI_succ.1 hi
      exact ⟨x, hx, of_decide_eq_true hp⟩
theorem pickI_none {a : AdI} {l : List Loc} (h : pickI a l = none) : ∀ x ∈ l, x.1.1 ≠ a.1 := by
  unfold pickI at h
  cases hk : bestT a l l.length with
  | some j => rw [hk] at h; cases h
  | none =>
    rw [hk] at h
    simp only at h
    split at h
    · rename_i h0
      intro x hx
      obtain ⟨i, hi⟩ := List.mem_iff_getElem?.1 hx
      have := (fndI_zero.1 h0) i x hi
      exact of_decide_eq_false this
    · cases h
/-- Whoever speaks from an address has it, and of that family. -/
theorem srcI_some {st : StI} (h : InvI st) {port : Int} {a b : AdI} (hs : srcI st port a = some b) : ((mineI st.2 b : Nat) : Int) = port ∧ b.1 = a.1 ∧ ∃ x ∈ localsI st port, x.1.1 = a.1 := by
  unfold srcI at hs
  split at hs
  · cases hs
  · rename_i h0
    have ht : thereI st port = true := by
      cases ht : thereI st port with
      | true => rfl
      | false => exact absurd (.inl ht) h0
    obtain ⟨p, l, hp, hl, he, -, hlt, hpe⟩ := locI_at h ht
    rw [he] at hs
    obtain ⟨k, hk, hx⟩ := Option.bind_eq_some_iff.1 hs
    obtain ⟨x, hxl, rfl⟩ := Option.map_eq_some_iff.1 hx
    obtain ⟨y, hy, hf⟩ := pickI_some hk (fun y hy => (h.ad _ p l hp hl y hy).2.1.1)
    rw [hxl] at hy
    injection hy with hy
    subst hy
    have hm := List.mem_of_getElem? hxl
    refine ⟨?_, hf, x, ?_, hf⟩
    · rw [mineI_at h.one hl hm]
      omega
    · unfold localsI
      rw [if_neg (by rw [ht]; decide), he]
      exact hm
theorem srcI_none {st : StI} (h : InvI st) {port : Int} {a : AdI} (hs : srcI st port a = none) (hv : vld a.1 (a.2.1 : Int) (a.2.2 : Int) = true) : ∀ x ∈ localsI st port, x.1.1 ≠ a.1 := by
  intro x hx
  unfold localsI at hx
  split at hx
  · cases hx
  · rename_i ht
    have ht : thereI st port = true := by simpa using ht
    obtain ⟨p, l, hp, hl, he, -, hlt, hpe⟩ := locI_at h ht
    unfold srcI at hs
    rw [if_neg (by rw [ht, hv]; simp), he] at hs
    rw [he] at hx
    cases hk : pickI a l with
    | none => exact pickI_none hk x hx
    | some k =>
      rw [hk] at hs
      obtain ⟨y, hy, -⟩ := pickI_some hk (fun y hy => (h.ad _ p l hp hl y hy).2.1.1)
      simp [hy] at hs
/-- Near, by what stands. -/
def candI (st : StI) (a : AdI) (i : Nat) (b : Int) : Prop := ∃ p l x, st.1[i]? = some p ∧ st.2[i]? = some l ∧ p.2.2.2 = true ∧ x ∈ l ∧ hldI a x = true ∧ x.2 = b ∧ 0 < b
theorem nearT_spec (a : AdI) (up : Bool) (port : Nat) (l : List Loc) (b : Nat × Int) (n : Nat) :
    (nearT a up port l b n = b ∧ ∀ x ∈ l.take n, up = true → hldI a x = true → x.2 ≤ b.2) ∨
    (∃ x ∈ l.take n, up = true ∧ hldI a x = true ∧ b.2 < x.2 ∧ nearT a up port l b n = (port, x.2) ∧ ∀ y ∈ l.take n, hldI a y = true → y.2 ≤ x.2) := by
  induction n with
  | zero => exact .inl ⟨rfl, fun x hx => by simp at hx⟩
  | succ n ih =>
    unfold nearT
    cases hx : l[n]? with
    | none =>
      have e : l.take (n + 1) = l.take n := by rw [List.take_add_one, hx]; simp
      rw [e]
      exact ih
    | some x =>
      have e : l.take (n + 1) = l.take n ++ [x] := by rw [List.take_add_one, hx]; rfl
      rw [e]
      simp only
      by_cases hc : up = true ∧ (nearT a up port l b n).2 < x.2 ∧ hldI a x = true
      · rw [if_pos hc]
        rcases ih with ⟨h1, h2⟩ | ⟨z, hz, hz1, hz2, hz3, hz4, hz5⟩
        · rw [h1] at hc
          refine .inr ⟨x, by simp, hc.1, hc.2.2, hc.2.1, rfl, fun y hy hh => ?_⟩
          rcases List.mem_append.1 hy with h3 | h3
          · have := h2 y h3 hc.1 hh; omega
          · simp at h3; subst h3; omega
        · rw [hz4] at hc
          have hc2 : z.2 < x.2 := hc.2.1
          refine .inr ⟨x, by simp, hc.1, hc.2.2, by omega, rfl, fun y hy hh => ?_⟩
          rcases List.mem_append.1 hy with h3 | h3
          · have := hz5 y h3 hh; omega
          · simp at h3; subst h3; omega
      · rw [if_neg hc]
        rcases ih with ⟨h1, h2⟩ | ⟨z, hz, hz1, hz2, hz3, hz4, hz5⟩
        · refine .inl ⟨h1, fun y hy hu hh => ?_⟩
          rcases List.mem_append.1 hy with h3 | h3
          · exact h2 y h3 hu hh
          · simp at h3; subst h3
            rw [h1] at hc
            rcases Int.lt_or_le b.2 y.2 with h4 | h4
            · exact absurd ⟨hu, h4, hh⟩ hc
            · exact h4
        · refine .inr ⟨z, by simp [hz], hz1, hz2, hz3, hz4, fun y hy hh => ?_⟩
          rcases List.mem_append.1 hy with h3 | h3
          · exact hz5 y h3 hh
          · simp at h3; subst h3
            rw [hz4] at hc
            rcases Int.lt_or_le z.2 y.2 with h4 | h4
            · exact absurd ⟨hz1, h4, hh⟩ hc
            · exact h4
/-- The best of the first n ports. -/
def bestI (st : StI) (a : AdI) (n : Nat) (r : Nat × Int) : Prop :=
  (r = (0, 0) ∧ ∀ i b, i < n → ¬ candI st a i b) ∨ ∃ p, r.1 = p + 1 ∧ p < n ∧ candI st a p r.2 ∧ (∀ i b, i < n → candI st a i b → b ≤ r.2) ∧ ∀ i b, i < p → candI st a i b → b < r.2
theorem bestI_nn {st : StI} {a : AdI} {n : Nat} {r : Nat × Int} (h : bestI st a n r) : 0 ≤ r.2 := by
  rcases h with ⟨rfl, -⟩ | ⟨p, -, -, ⟨q, l, x, h1, h2, h3, h4, h5, h6, h7⟩, -⟩
  · decide
  · omega
theorem nearQ_spec (st : StI) (hl : st.1.length = st.2.length) (a : AdI) (n : Nat) (hn : n ≤ st.1.length) : bestI st a n (nearQ st a n) := by
  induction n with
  | zero => exact .inl ⟨rfl, fun i b h => by omega⟩
  | succ n ih =>
    have ih := ih (by omega)
    have hp := List.getElem?_eq_getElem (l := st.1) (i := n) (by omega)
    have hq := List.getElem?_eq_getElem (l := st.2) (i := n) (by omega)
    obtain ⟨p, hpe⟩ : ∃ p, st.1[n]'(by omega) = p := ⟨_, rfl⟩
    obtain ⟨l, hle⟩ : ∃ l, st.2[n]'(by omega) = l := ⟨_, rfl⟩
    rw [hpe] at hp
    rw [hle] at hq
    unfold nearQ
    rw [hp, hq]
    simp only
    have nn := bestI_nn ih
    have hcn : ∀ b, candI st a n b → p.2.2.2 = true ∧ ∃ x ∈ l, hldI a x = true ∧ x.2 = b ∧ 0 < b := by
      rintro b ⟨p', l', x, h1, h2, h3, h4, h5, h6, h7⟩
      rw [hp] at h1
      rw [hq] at h2
      injection h1 with h1
      injection h2 with h2
      subst h1 h2
      exact ⟨h3, x, h4, h5, h6, h7⟩
    rcases nearT_spec a p.2.2.2 (n + 1) l (nearQ st a n) l.length with ⟨h1, h2⟩ | ⟨x, hx, hu, hh, hb, h1, h2⟩
    · rw [List.take_of_length_le (Nat.le_refl _)] at h2
      rw [h1]
      rcases ih with ⟨h3, h4⟩ | ⟨q, h3, h4, h5, h6, h7⟩
      · refine .inl ⟨h3, fun i b hi hc => ?_⟩
        rcases Nat.lt_or_ge i n with h8 | h8
        · exact h4 i b h8 hc
        · obtain rfl : i = n := by omega
          obtain ⟨c1, y, c2, c3, c4, c5⟩ := hcn b hc
          have := h2 y c2 c1 c3
          rw [h3] at this
          simp at this
          omega
      · refine .inr ⟨q, h3, by omega, h5, fun i b hi hc => ?_, h7⟩
        rcases Nat.lt_or_ge i n with h8 | h8
        · exact h6 i b h8 hc
        · obtain rfl : i = n := by omega
          obtain ⟨c1, y, c2, c3, c4, c5⟩ := hcn b hc
          have := h2 y c2 c1 c3
          omega
    · rw [List.take_of_length_le (Nat.le_refl _)] at h2 hx
      rw [h1]
      refine .inr ⟨n, rfl, by omega, ⟨p, l, x, hp, hq, hu, hx, hh, rfl, by omega⟩, fun i b hi hc => ?_, fun i b hi hc => ?_⟩
      · rcases Nat.lt_or_ge i n with h8 | h8
        · rcases ih with ⟨h3, h4⟩ | ⟨q, h3, h4, h5, h6, h7⟩
          · exact absurd hc (h4 i b h8)
          · have := h6 i b h8 hc
            show b ≤ x.2
            omega
        · obtain rfl : i = n := by omega
          obtain ⟨c1, y, c2, c3, c4, c5⟩ := hcn b hc
          have := h2 y c2 c3
          show b ≤ x.2
          omega
      · show b < x.2
        rcases ih with ⟨h3, h4⟩ | ⟨q, h3, h4, h5, h6, h7⟩
        · exact absurd hc (h4 i b hi)
        · have := h6 i b hi hc
          omega
theorem bestI_uniq {st : StI} {a : AdI} {n : Nat} {r r' : Nat × Int} (h : bestI st a n r) (h' : bestI st a n r') : r.1 = r'.1 := by
  rcases h with ⟨rfl, h1⟩ | ⟨p, h1, h2, h3, h4, h5⟩ <;> rcases h' with ⟨rfl, k1⟩ | ⟨q, k1, k2, k3, k4, k5⟩
  · rfl
  · exact absurd k3 (h1 q _ k2)
  · exact absurd h3 (k1 p _ h2)
  · have a1 := h4 q _ k2 k3
    have a2 := k4 p _ h2 h3
    have e : r.2 = r'.2 := by omega
    rcases Nat.lt_trichotomy p q with h | h | h
    · have := k5 p _ h h3; omega
    · omega
    · have := h5 q _ h k3; omega
/-- So far (the first k ports) all but the n-th are turned down. -/
def offI (st : StI) (n k : Nat) (st' : StI) : Prop := st'.2 = st.2 ∧ ∀ i, st'.1[i]? = (st.1[i]?).map fun p => (p.1, p.2.1, p.2.2.1, if i < k ∧ i + 1 ≠ n then false else p.2.2.2)
theorem offI.zero (st : StI) (n : Nat) : offI st n 0 st := ⟨rfl, fun i => by
  cases st.1[i]? with
  | none => rfl
  | some p => simp⟩
theorem offI.len {st st' : StI} {n k : Nat} (h : offI st n k st') : st'.1.length = st.1.length := by
  rcases Nat.lt_trichotomy st'.1.length st.1.length with h1 | h1 | h1
  · have h2 := h.2 st'.1.length
    rw [List.getElem?_eq_none (Nat.le_refl _), List.getElem?_eq_getElem h1] at h2
    cases h2
  · exact h1
  · have h2 := h.2 st.1.length
    rw [List.getElem?_eq_none (l := st.1) (Nat.le_refl _), List.getElem?_eq_getElem h1] at h2
    cases h2
theorem offI.turn {st st' : StI} {n k : Nat} (h : offI st n k st') (hk : k + 1 ≠ n) : offI st n (k + 1) (turnI st' ((k : Int) + 1) false).1 := by
  have hl := h.len
  unfold turnI thereI idxI
  split
  · rename_i ht
    rw [decide_eq_false_iff_not] at ht
    refine ⟨h.1, fun i => ?_⟩
    rw [h.2 i]
    cases hi : st.1[i]? with
    | none => rfl
    | some p =>
      have := (List.getElem?_eq_some_iff.1 hi).1
      have : i < k := by omega
      simp only [Option.map_some]
      by_cases hn : i + 1 ≠ n
      · rw [if_pos ⟨this, hn⟩, if_pos ⟨by omega, hn⟩]
      · rw [if_neg (fun x => hn x.2), if_neg (fun x => hn x.2)]
  · refine ⟨h.1, fun i => ?_⟩
    rw [List.getElem?_modify, h.2 i, show ((k : Int) + 1 - 1).toNat = k by omega]
    cases st.1[i]? with
    | none => rfl
    | some p =>
      show some ((fun a : Prt => if k = i then (a.1, a.2.1, a.2.2.1, false) else a) (p.1, p.2.1, p.2.2.1, if i < k ∧ i + 1 ≠ n then false else p.2.2.2)) = some (p.1, p.2.1, p.2.2.1, if i < k + 1 ∧ i + 1 ≠ n then false else p.2.2.2)
      by_cases hik : k = i
      · subst hik
        simp only [if_true]
        rw [if_pos ⟨by omega, hk⟩]
      · simp only [if_neg hik]
        by_cases hn : i < k ∧ i + 1 ≠ n
        · rw [if_pos hn, if_pos ⟨by omega, hn.2⟩]
        · rw [if_neg hn, if_neg (fun x => hn ⟨by omega, x.2⟩)]
theorem offI.skip {st st' : StI} {n k : Nat} (h : offI st n k st') (hk : k + 1 = n) : offI st n (k + 1) st' := ⟨h.1, fun i => by
  rw [h.2 i]
  cases st.1[i]? with
  | none => rfl
  | some p =>
    simp only [Option.map_some]
    by_cases hn : i < k ∧ i + 1 ≠ n
    · rw [if_pos hn, if_pos ⟨by omega, hn.2⟩]
    · rw [if_neg hn, if_neg (fun x => hn ⟨by omega, x.2⟩)]⟩
theorem offI.cand {st st' : StI} {a : AdI} {n k i : Nat} {b : Int} (h : offI st n k st') : candI st' a i b ↔ candI st a i b ∧ ¬ (i < k ∧ i + 1 ≠ n) := by
  constructor
  · rintro ⟨p, l, x, h1, h2, h3, h4⟩
    rw [h.2 i] at h1
    obtain ⟨q, hq, rfl⟩ := Option.map_eq_some_iff.1 h1
    rw [h.1] at h2
    simp only at h3
    split at h3
    · cases h3
    · rename_i hn
      exact ⟨⟨q, l, x, hq, h2, h3, h4⟩, hn⟩
  · rintro ⟨⟨p, l, x, h1, h2, h3, h4⟩, hn⟩
    exact ⟨_, l, x, by rw [h.2 i, h1]; rfl, by rw [h.1]; exact h2, by simp only; rw [if_neg hn]; exact h3, h4⟩
/-- With all others down the same one is near. -/
theorem offI.near {st st' : StI} {a : AdI} (h : offI st (nearI st a) 8 st') (hI : InvI st) : nearI st' a = nearI st a := by
  have hl := hI.len
  have h0 := nearQ_spec st hl a st.1.length (Nat.le_refl _)
  have h1 := nearQ_spec st' (by rw [h.len, h.1]; exact hl) a st'.1.length (Nat.le_refl _)
  rw [h.len] at h1
  unfold nearI
  rw [h.len]
  refine bestI_uniq h1 ?_
  have hfew := hI.few
  unfold bestI at h0 ⊢
  rcases h0 with ⟨e, h2⟩ | ⟨p, e, h2, h3, h4, h5⟩
  · exact .inl ⟨e, fun i b hi hc => h2 i b hi (h.cand.1 hc).1⟩
  · have hn : nearI st a = p + 1 := e
    exact .inr ⟨p, e, h2, h.cand.2 ⟨h3, fun x => x.2 hn.symm⟩, fun i b hi hc => h4 i b hi (h.cand.1 hc).1, fun i b hi hc => h5 i b hi (h.cand.1 hc).1⟩
/-- And with that one down, too, nobody is. -/
theorem offI.gone {st st' : StI} {a : AdI} {n : Nat} (h : offI st n 8 st') (hI : InvI st) (st2 : StI) (h2 : st2 = (turnI st' (n : Int) false).1) : nearI st2 a = 0 := by
  have hl := hI.len
  have hfew := hI.few
  have e2 : st2.2 = st.2 := by rw [h2]; unfold turnI; split <;> exact h.1
  have hup : ∀ (i : Nat) (p : Prt), st2.1[i]? = some p → p.2.2.2 = false := by
    intro i p hp
    rw [h2] at hp
    unfold turnI thereI idxI at hp
    split at hp
    · rename_i ht
      rw [decide_eq_false_iff_not, h.len] at ht
      rw [h.2 i] at hp
      obtain ⟨q, hq, rfl⟩ := Option.map_eq_some_iff.1 hp
      have := (List.getElem?_eq_some_iff.1 hq).1
      simp only
      rw [if_pos ⟨by omega, by omega⟩]
    · obtain ⟨q, hq, e⟩ := modify_at hp
      split at e
      · rw [e]
      · rename_i ht hne
        rw [h.2 i] at hq
        obtain ⟨q0, hq0, rfl⟩ := Option.map_eq_some_iff.1 hq
        have := (List.getElem?_eq_some_iff.1 hq0).1
        have h9 : 1 ≤ (n : Int) := by
          have h8 : ¬ decide (1 ≤ (n : Int) ∧ (n : Int) ≤ (st'.1.length : Int)) = false := ht
          simp at h8
          omega
        rw [e]
        simp only
        rw [if_pos ⟨by omega, by omega⟩]
  have l2 : st2.1.length = st2.2.length := by
    rw [e2, ← hl, ← h.len, h2]
    unfold turnI
    split
    · rfl
    · simp
  have h1 := nearQ_spec st2 l2 a st2.1.length (Nat.le_refl _)
  rcases h1 with ⟨e, -⟩ | ⟨p, e, k2, ⟨q, l, x, c1, c2, c3, c4⟩, -⟩
  · unfold nearI; rw [e]
  · rw [hup p q c1] at c3; cases c3
/-- Who is near has a port that is up, and some local. -/
theorem near_up {st : StI} {a : AdI} (hI : InvI st) (h : nearI st a ≠ 0) : ∃ p l, st.1[nearI st a - 1]? = some p ∧ st.2[nearI st a - 1]? = some l ∧ p.2.2.2 = true ∧ l ≠ [] := by
  have h0 := nearQ_spec st hI.len a st.1.length (Nat.le_refl _)
  rcases h0 with ⟨e, -⟩ | ⟨p, e, h2, ⟨q, l, x, c1, c2, c3, c4, -⟩, -⟩
  · exact absurd (by unfold nearI; rw [e]) h
  · have : nearI st a = p + 1 := e
    rw [this]
    exact ⟨q, l, c1, c2, c3, fun e => by rw [e] at c4; cases c4⟩
end Go.Proofs.Ytabbclocgkhnhaa
