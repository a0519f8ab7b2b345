/-
  What the document's own Put makes of any bytes, any width and any number.
-/
import Derived.Test.YtplidholnfmoeaaDoorApp
namespace Go.Proofs.YtplidholnfmoeaaDoor
open Go.RowKit
set_option linter.unusedVariables false

theorem putOf_get (k : Nat) : ∀ (v : Int) (i : Nat), i < k → (putOf k v)[k - 1 - i]? = some (v / 256 ^ i % 256) := by
  induction k with
  | zero => intro v i h; omega
  | succ k ih =>
    intro v i h
    rw [putOf_cons]
    by_cases he : i = k
    · subst he; simp
    · rw [show k + 1 - 1 - i = (k - 1 - i) + 1 by omega, List.getElem?_cons_succ]
      exact ih v i (by omega)
theorem putOf_take (k : Nat) (v : Int) (i : Nat) (h : i < k) : (putOf k v).take (k - i) = (putOf k v).take (k - (i + 1)) ++ [v / 256 ^ i % 256] := by
  have e := putOf_get k v i h
  rw [show k - i = (k - (i + 1)) + 1 by omega, List.take_add_one]
  rw [show k - 1 - i = k - (i + 1) by omega] at e
  rw [e]; rfl

theorem own_base {w : World} {base e size n : Nat} {v : Value} {xs : List Value} (h : w.ownsRow base e size v n xs) : ∀ k, v.ownBlock = some k → base ≤ k := by
  intro k hk
  rcases h.2 with ⟨rfl, _⟩ | ⟨g, cap, cur, rfl, h1, _⟩
  · simp [Value.ownBlock] at hk
  · simp [Value.ownBlock] at hk; omega

/-- What the document's Put hands back. -/
def RefPut (w : World) (n : Nat) (zs : List Int) (e : Ending) (w' : World) : Prop :=
  ∃ A c, e = .returned (.slice A n c) ∧ RI .u8 w' w'.heap.size A n zs ∧ (∀ x, A = some x → w.heap.size ≤ x.block) ∧ Below w.heap.size w w'

theorem refPut_of {w w' : World} {n : Nat} {zs : List Int} {v : Value} (hw : ∀ z ∈ zs, (Lit.int .u8 z).wf = true) (hown : w'.ownsRow w.heap.size 5 1 v n (zs.map (Value.int .u8))) (hB : Below w.heap.size w w') : RefPut w n zs (.returned v) w' := by
  have hl : zs.length = n := by simpa using hown.1
  rcases hown.2 with ⟨rfl, rfl⟩ | ⟨g, cap, cur, rfl, h1, h2, h3, h4, h5, h6⟩
  · obtain rfl : zs = [] := List.eq_nil_of_length_eq_zero hl
    exact ⟨none, 0, rfl, RI.nil_, (fun _ h => by cases h), hB⟩
  · have hb : Blk w' g 5 cur := h2
    refine ⟨some ⟨g, 0, none⟩, cap, rfl, ⟨hl, fun _ => ⟨g, 0, rfl, hb.lt, fun j z hz => ?_⟩, hw⟩, (fun x hx => by injection hx with hx; rw [← hx]; exact h1), hB⟩
    rw [Nat.zero_add, hb.cell]
    have hj : j < n := by rw [← hl]; exact (List.getElem?_eq_some_iff.1 hz).1
    have e : (cur.toList.take (n * 1))[j]? = some (.int .u8 z) := by rw [h6, List.getElem?_map, hz]; rfl
    rw [List.getElem?_take, if_pos (by omega)] at e
    simpa using e

theorem div_step (v : Int) (t : Nat) (hv : 0 ≤ v) : (v / 256 ^ t) / 256 = v / 256 ^ (t + 1) := by rw [Int.pow_succ, Int.ediv_ediv_of_nonneg (Int.le_of_lt (pow256_pos t))]
theorem div_bd (v : Int) (t : Nat) (h0 : 0 ≤ v) (h1 : v ≤ 18446744073709551615) : 0 ≤ v / 256 ^ t ∧ v / 256 ^ t ≤ 18446744073709551615 := by
  have hp := pow256_pos t
  exact ⟨Int.ediv_nonneg h0 (by omega), Int.le_trans (Int.ediv_le_self _ h0) h1⟩

end Go.Proofs.YtplidholnfmoeaaDoor
