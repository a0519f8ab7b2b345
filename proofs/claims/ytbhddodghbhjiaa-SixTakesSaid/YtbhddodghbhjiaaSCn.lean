/-
  Further headers, plainly.
-/
import Derived.Test.YtbhddodghbhjiaaSNum
namespace Go.Proofs.Ytbhddodghbhjiaa
open Go.RowKit
set_option linter.unusedVariables false

/-- A further header: its number, its place, its length. -/
structure Ex where
  k : Int
  a : Nat
  n : Nat
def fur (n : Int) : Bool := n == 0 || n == 43 || n == 60 || n == 44
/-- The byte at a place, nought if there is none. -/
def bA (s : ByteArray) (i : Nat) : Nat := (s.data.toList.getD i 0).toNat
theorem bA_lt (s : ByteArray) (i : Nat) : bA s i < 256 := UInt8.toNat_lt _
theorem bA_at (s : ByteArray) (i : Nat) (h : i < s.size) : (s[i]'h).toNat = bA s i := by
  unfold bA
  have hl : i < s.data.toList.length := by rw [Array.length_toList]; exact h
  rw [List.getD_eq_getElem?_getD, List.getElem?_eq_getElem hl]; rfl
theorem bA_app (s b : ByteArray) (i : Nat) (h : i < s.size) : bA (s ++ b) i = bA s i := by
  have hl : i < s.data.toList.length := by rw [Array.length_toList]; exact h
  unfold bA
  rw [ByteArray.data_append, Array.toList_append, List.getD_eq_getElem?_getD, List.getD_eq_getElem?_getD, List.getElem?_append_left hl]
theorem bA_ext (s : ByteArray) (i j : Nat) : bA (s.extract i s.size) j = bA s (i + j) := by
  unfold bA
  have hn : s.size = s.data.toList.length := by rw [Array.length_toList]; rfl
  rw [ByteArray.data_extract, Array.toList_extract, List.extract_eq_take_drop, List.take_of_length_le (by rw [List.length_drop, ← hn]; exact Nat.le_refl _)]
  simp [List.getD_eq_getElem?_getD]
def szX (s : ByteArray) (nx : Int) (p : Nat) : Nat := if nx = 44 then 8 else 8 + 8 * bA s (p + 1)
theorem szX_ge (s : ByteArray) (nx : Int) (p : Nat) : 8 ≤ szX s nx p := by unfold szX; split <;> omega
theorem szX_le (s : ByteArray) (nx : Int) (p : Nat) : szX s nx p ≤ 2048 := by unfold szX; have := bA_lt s (p + 1); split <;> omega
theorem szX_mod (s : ByteArray) (nx : Int) (p : Nat) : szX s nx p % 8 = 0 := by unfold szX; split <;> omega
/-- What Chain answers: the headers, what follows them, its place, an error. -/
structure Cr where
  l : List Ex
  n : Int
  t : Nat
  e : Int
def glue (f : List Ex) (r : Cr) : Cr := if r.e = 0 then { r with l := f ++ r.l } else r
/-- With so many headers left that may be. -/
def chS (s : ByteArray) : Nat → Int → Nat → Cr
  | 0, nx, p => if fur nx = false then ⟨[], nx, p, 0⟩ else ⟨[], 0, 0, 64⟩
  | k + 1, nx, p => if fur nx = false then ⟨[], nx, p, 0⟩ else if nx = 0 ∧ k + 1 < 16 then ⟨[], 0, 0, 64⟩ else
      if s.size < p + 8 ∨ s.size < p + szX s nx p then ⟨[], 0, 0, 61⟩ else glue [⟨nx, p, szX s nx p⟩] (chS s k (bA s p) (p + szX s nx p))
theorem glue_nil (r : Cr) : glue [] r = r := by unfold glue; split <;> rfl
theorem glue_glue (f g : List Ex) (r : Cr) : glue f (glue g r) = glue (f ++ g) r := by
  unfold glue
  by_cases h : r.e = 0
  · rw [if_pos h, if_pos h, if_pos h]; simp
  · rw [if_neg h, if_neg h, if_neg h]
theorem glue_ok (f : List Ex) (n : Int) (t : Nat) : glue f ⟨[], n, t, 0⟩ = ⟨f, n, t, 0⟩ := by unfold glue; rw [if_pos rfl, List.append_nil]
theorem glue_no (f : List Ex) (e : Int) (h : e ≠ 0) : glue f ⟨[], 0, 0, e⟩ = ⟨[], 0, 0, e⟩ := by unfold glue; rw [if_neg h]
theorem glue_e (f : List Ex) (r : Cr) : (glue f r).e = r.e := by unfold glue; split <;> rfl
/-- Nothing further follows. -/
theorem chS_end {s : ByteArray} {k : Nat} {nx : Int} {p : Nat} (h : fur nx = false) : chS s k nx p = ⟨[], nx, p, 0⟩ := by
  cases k with
  | zero => rw [chS, if_pos h]
  | succ k => rw [chS, if_pos h]
theorem chS_full {s : ByteArray} {nx : Int} {p : Nat} (h : fur nx = true) : chS s 0 nx p = ⟨[], 0, 0, 64⟩ := by rw [chS, if_neg (by rw [h]; decide)]
theorem chS_zero {s : ByteArray} {k : Nat} {p : Nat} (hk : k < 16) : chS s k 0 p = ⟨[], 0, 0, 64⟩ := by
  cases k with
  | zero => rw [chS, if_neg (by decide)]
  | succ k => rw [chS, if_neg (by decide), if_pos ⟨rfl, hk⟩]
theorem chS_short {s : ByteArray} {k : Nat} {nx : Int} {p : Nat} (h : fur nx = true) (h0 : ¬ (nx = 0 ∧ k + 1 < 16)) (hs : s.size < p + 8 ∨ s.size < p + szX s nx p) : chS s (k + 1) nx p = ⟨[], 0, 0, 61⟩ := by
  rw [chS, if_neg (by rw [h]; decide), if_neg h0, if_pos hs]
theorem chS_step {s : ByteArray} {k : Nat} {nx : Int} {p : Nat} (h : fur nx = true) (h0 : ¬ (nx = 0 ∧ k + 1 < 16)) (hs : p + szX s nx p ≤ s.size) : chS s (k + 1) nx p = glue [⟨nx, p, szX s nx p⟩] (chS s k (bA s p) (p + szX s nx p)) := by
  have := szX_ge s nx p
  rw [chS, if_neg (by rw [h]; decide), if_neg h0, if_neg (by omega)]
theorem chS_bad {s : ByteArray} : ∀ {k : Nat} {nx : Int} {p : Nat}, (chS s k nx p).e ≠ 0 → chS s k nx p = ⟨[], 0, 0, (chS s k nx p).e⟩
  | 0, nx, p, h => by
    rw [chS] at h ⊢
    split
    · rename_i hf; rw [if_pos hf] at h; exact absurd rfl h
    · rfl
  | k + 1, nx, p, h => by
    rw [chS] at h ⊢
    by_cases hf : fur nx = false
    · rw [if_pos hf] at h; exact absurd rfl h
    rw [if_neg hf] at h ⊢
    by_cases h0 : nx = 0 ∧ k + 1 < 16
    · rw [if_pos h0]
    rw [if_neg h0] at h ⊢
    by_cases hs : s.size < p + 8 ∨ s.size < p + szX s nx p
    · rw [if_pos hs]
    rw [if_neg hs] at h ⊢
    rw [glue_e] at h
    have := chS_bad h
    rw [this, glue_no _ _ h]
/-- What an answer begins with. -/
theorem chS_next {s : ByteArray} {k : Nat} {nx : Int} {p : Nat} {x : Ex} {r : List Ex} {n : Int} {t : Nat} (h : chS s k nx p = ⟨x :: r, n, t, 0⟩) :
    fur nx = true ∧ x = ⟨nx, p, szX s nx p⟩ ∧ p + szX s nx p ≤ s.size ∧ ∃ k', k = k' + 1 ∧ chS s k' (bA s p) (p + szX s nx p) = ⟨r, n, t, 0⟩ := by
  cases k with
  | zero =>
    rw [chS] at h
    split at h <;> cases h
  | succ k =>
    rw [chS] at h
    by_cases hf : fur nx = false
    · rw [if_pos hf] at h; cases h
    rw [if_neg hf] at h
    by_cases h0 : nx = 0 ∧ k + 1 < 16
    · rw [if_pos h0] at h; cases h
    rw [if_neg h0] at h
    by_cases hs : s.size < p + 8 ∨ s.size < p + szX s nx p
    · rw [if_pos hs] at h; cases h
    rw [if_neg hs] at h
    have he : (chS s k (bA s p) (p + szX s nx p)).e = 0 := by
      have := congrArg Cr.e h
      rw [glue_e] at this
      exact this
    have hg : glue [⟨nx, p, szX s nx p⟩] (chS s k (bA s p) (p + szX s nx p)) = ⟨⟨nx, p, szX s nx p⟩ :: (chS s k (bA s p) (p + szX s nx p)).l, (chS s k (bA s p) (p + szX s nx p)).n, (chS s k (bA s p) (p + szX s nx p)).t, 0⟩ := by
      unfold glue
      rw [if_pos he, ← he]; rfl
    rw [hg] at h
    injection h with h1 h2 h3 _
    injection h1 with h4 h5
    refine ⟨by simpa using hf, h4.symm, by omega, k, rfl, ?_⟩
    rw [← h5, ← h2, ← h3, ← he]
theorem chS_none {s : ByteArray} {k : Nat} {nx : Int} {p : Nat} {n : Int} {t : Nat} (h : chS s k nx p = ⟨[], n, t, 0⟩) : fur nx = false ∧ n = nx ∧ t = p := by
  by_cases hf : fur nx = false
  · rw [chS_end hf] at h
    injection h with _ h2 h3 _
    exact ⟨hf, h2.symm, h3.symm⟩
  · exfalso
    cases k with
    | zero => rw [chS, if_neg hf] at h; cases h
    | succ k =>
      rw [chS, if_neg hf] at h
      by_cases h0 : nx = 0 ∧ k + 1 < 16
      · rw [if_pos h0] at h; cases h
      rw [if_neg h0] at h
      by_cases hs : s.size < p + 8 ∨ s.size < p + szX s nx p
      · rw [if_pos hs] at h; cases h
      rw [if_neg hs] at h
      unfold glue at h
      split at h
      · injection h with h1; cases h1
      · rename_i hh
        exact hh (congrArg Cr.e h)
/-- With more bytes behind they stay. -/
theorem chS_more {s b : ByteArray} : ∀ {l : List Ex} {k : Nat} {nx : Int} {p : Nat} {n : Int} {t : Nat}, chS s k nx p = ⟨l, n, t, 0⟩ → chS (s ++ b) k nx p = ⟨l, n, t, 0⟩
  | [], k, nx, p, n, t, h => by
    obtain ⟨h1, h2, h3⟩ := chS_none h
    rw [chS_end h1, h2, h3]
  | x :: r, k, nx, p, n, t, h => by
    obtain ⟨h1, h2, h3, k', rfl, h4⟩ := chS_next h
    have hge := szX_ge s nx p
    have hz : szX (s ++ b) nx p = szX s nx p := by
      unfold szX at hge h3 ⊢
      by_cases h44 : nx = 44
      · rw [if_pos h44, if_pos h44]
      · rw [if_neg h44] at h3 ⊢
        rw [if_neg h44, bA_app _ _ _ (by omega)]
    have hb : bA (s ++ b) p = bA s p := bA_app _ _ _ (by omega)
    have h5 := chS_more (b := b) h4
    have h0 : ¬ (nx = 0 ∧ k' + 1 < 16) := by
      rintro ⟨rfl, hlt⟩
      rw [chS_zero hlt] at h; cases h
    have hz2 : p + szX (s ++ b) nx p ≤ (s ++ b).size := by rw [hz, ByteArray.size_append]; omega
    rw [chS_step h1 h0 hz2, hz, hb, h5, ← h2]
    unfold glue
    rw [if_pos rfl]; rfl
theorem chS_len {s : ByteArray} : ∀ {l : List Ex} {k : Nat} {nx : Int} {p : Nat} {n : Int} {t : Nat}, chS s k nx p = ⟨l, n, t, 0⟩ → l.length ≤ k ∧ p ≤ t
  | [], k, nx, p, n, t, h => by
    obtain ⟨h1, h2, h3⟩ := chS_none h
    exact ⟨Nat.zero_le _, by omega⟩
  | x :: r, k, nx, p, n, t, h => by
    obtain ⟨h1, h2, h3, k', rfl, h4⟩ := chS_next h
    obtain ⟨a, b⟩ := chS_len h4
    exact ⟨by simp only [List.length_cons]; omega, by omega⟩
theorem chS_fur {s : ByteArray} : ∀ {l : List Ex} {k : Nat} {nx : Int} {p : Nat} {n : Int} {t : Nat}, chS s k nx p = ⟨l, n, t, 0⟩ → ∀ x ∈ l, fur x.k = true ∧ x.a + x.n ≤ s.size
  | [], k, nx, p, n, t, h => fun x hx => by cases hx
  | x :: r, k, nx, p, n, t, h => by
    obtain ⟨h1, h2, h3, k', rfl, h4⟩ := chS_next h
    intro y hy
    rcases List.mem_cons.1 hy with rfl | hy
    · rw [h2]; exact ⟨h1, h3⟩
    · exact chS_fur h4 y hy
/-- What Head answers, of headers. -/
def hdX : List Ex → Nat → Nat
  | [], e => e
  | x :: r, e => if x.k = 44 then e else hdX r (if x.k = 60 then e else x.a + x.n)
theorem hdX_le {s : ByteArray} : ∀ {l : List Ex} {k : Nat} {nx : Int} {p : Nat} {n : Int} {t : Nat} (e : Nat), chS s k nx p = ⟨l, n, t, 0⟩ → e ≤ p → hdX l e ≤ t
  | [], k, nx, p, n, t, e, h, he => by
    obtain ⟨h1, h2, h3⟩ := chS_none h
    show e ≤ t; omega
  | x :: r, k, nx, p, n, t, e, h, he => by
    have ht := (chS_len h).2
    obtain ⟨h1, h2, h3, k', rfl, h4⟩ := chS_next h
    unfold hdX
    split
    · omega
    · refine hdX_le _ h4 ?_
      subst h2
      split
      · omega
      · exact Nat.le_refl _
end Go.Proofs.Ytbhddodghbhjiaa
