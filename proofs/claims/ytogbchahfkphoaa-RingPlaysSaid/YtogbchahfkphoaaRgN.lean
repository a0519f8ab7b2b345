/-
  A ring's cells (layer 12), plainly: what was put in and not yet taken out lies at its number, counted round.
-/
import Derived.Test.YtogbchahfkphoaaTch
namespace Go.Proofs.Ytogbchahfkphoaa
set_option linter.unusedVariables false

/-- What was put in so far (all), so many of which were taken out: each of the others lies at its number modulo N; an element is sz cells. -/
structure RgC (cur : Array Value) (sz N : Nat) (all : List (List Value)) (out : Nat) : Prop where
  size : cur.size = N * sz
  pos : 0 < N
  le : out ≤ all.length
  room : all.length ≤ out + N
  len : ∀ e ∈ all, e.length = sz
  at_ : ∀ i e, out ≤ i → all[i]? = some e → ∀ k, k < sz → cur[(i % N) * sz + k]? = e[k]?
theorem mod_ne {i j N : Nat} (h1 : i < j) (h2 : j < i + N) : i % N ≠ j % N := by
  intro e
  have h3 : (j - i) % N = 0 := Nat.sub_mod_eq_zero_of_mod_eq e.symm
  have h4 : (j - i) % N = j - i := Nat.mod_eq_of_lt (by omega)
  omega
theorem place_ne {a b sz k m : Nat} (h : a ≠ b) (hk : k < sz) (hm : m < sz) : a * sz + k ≠ b * sz + m := by
  intro e
  rcases Nat.lt_or_gt_of_ne h with h1 | h1
  · have : (a + 1) * sz ≤ b * sz := Nat.mul_le_mul_right _ h1
    rw [Nat.add_mul] at this; omega
  · have : (b + 1) * sz ≤ a * sz := Nat.mul_le_mul_right _ h1
    rw [Nat.add_mul] at this; omega
theorem place_lt {i N sz k : Nat} (hN : 0 < N) (hk : k < sz) : (i % N) * sz + k < N * sz := by
  have h1 := Nat.mod_lt i hN
  have : (i % N + 1) * sz ≤ N * sz := Nat.mul_le_mul_right _ h1
  rw [Nat.add_mul] at this; omega
theorem RgC.new {cur : Array Value} {sz N : Nat} (h : cur.size = N * sz) (hN : 0 < N) : RgC cur sz N [] 0 :=
  ⟨h, hN, Nat.le_refl _, by simp, fun _ h => by simp at h, fun i e _ h => by simp at h⟩
/-- Cells outside of one element's place are as they were. -/
def offP (cur cur' : Array Value) (sz q : Nat) : Prop := cur'.size = cur.size ∧ ∀ p, (∀ k, k < sz → p ≠ q * sz + k) → cur'[p]? = cur[p]?
theorem RgC.push {cur cur' : Array Value} {sz N : Nat} {all : List (List Value)} {out : Nat} {e : List Value} (h : RgC cur sz N all out) (hr : all.length < out + N) (he : e.length = sz)
    (ho : offP cur cur' sz (all.length % N)) (hc : ∀ k, k < sz → cur'[(all.length % N) * sz + k]? = e[k]?) : RgC cur' sz N (all ++ [e]) out := by
  refine ⟨by rw [ho.1, h.size], h.pos, by have := h.le; simp; omega, by simp; omega, fun x hx => ?_, fun i x hi hx k hk => ?_⟩
  · rcases List.mem_append.1 hx with h1 | h1
    · exact h.len x h1
    · rw [List.mem_singleton.1 h1]; exact he
  · rcases Nat.lt_or_ge i all.length with hl | hl
    · rw [List.getElem?_append_left hl] at hx
      rw [ho.2 _ (fun m hm => place_ne (mod_ne hl (by omega)) hk hm)]
      exact h.at_ i x hi hx k hk
    · rw [List.getElem?_append_right hl] at hx
      have h0 : i - all.length = 0 := by
        have := (List.getElem?_eq_some_iff.1 hx).1
        simp at this; omega
      have hil : i = all.length := by omega
      subst hil
      simp at hx
      subst hx
      exact hc k hk
theorem RgC.pop {cur cur' : Array Value} {sz N : Nat} {all : List (List Value)} {out : Nat} (h : RgC cur sz N all out) (hr : out < all.length) (ho : offP cur cur' sz (out % N)) : RgC cur' sz N all (out + 1) := by
  refine ⟨by rw [ho.1, h.size], h.pos, hr, by have := h.room; omega, h.len, fun i x hi hx k hk => ?_⟩
  have hl := (List.getElem?_eq_some_iff.1 hx).1
  have hrm := h.room
  rw [ho.2 _ (fun m hm => place_ne (Ne.symm (mod_ne (by omega) (by omega))) hk hm)]
  exact h.at_ i x (by omega) hx k hk
theorem offP.refl (cur : Array Value) (sz q : Nat) : offP cur cur sz q := ⟨rfl, fun _ _ => rfl⟩
theorem offP.set_ {cur cur' : Array Value} {sz q k : Nat} (h : offP cur cur' sz q) (hk : k < sz) (u : Value) : offP cur (cur'.setIfInBounds (q * sz + k) u) sz q := by
  refine ⟨by simp [h.1], fun p hp => ?_⟩
  rw [Array.getElem?_setIfInBounds_ne (fun e => hp k hk e.symm)]
  exact h.2 p hp
theorem RgC.fst {cur : Array Value} {sz N : Nat} {all : List (List Value)} {out j : Nat} {e : List Value} (h : RgC cur sz N all out) (he : all[out + j]? = some e) {k : Nat} (hk : k < sz) : cur[((out + j) % N) * sz + k]? = e[k]? := h.at_ _ e (by omega) he k hk
theorem two_pow16 {k : Nat} (h : k ≤ 16) : 0 < 2 ^ k ∧ 2 ^ k ≤ 65536 := by
  have h1 : 2 ^ k ≤ 2 ^ 16 := Nat.pow_le_pow_right (by decide) h
  have h2 : 0 < 2 ^ k := Nat.pow_pos (by decide)
  have h3 : (2 : Nat) ^ 16 = 65536 := by decide
  omega
end Go.Proofs.Ytogbchahfkphoaa
