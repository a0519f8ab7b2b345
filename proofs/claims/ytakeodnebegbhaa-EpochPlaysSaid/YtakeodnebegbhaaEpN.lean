/-
  An epoch, plainly (layer 13): what was published, since when each reader is in; what is given back, what waits.
-/
import Derived.Test.YtakeodnebegbhaaTch
namespace Go.Proofs.Ytakeodnebegbhaa
set_option linter.unusedVariables false

def ints (l : List Int) : List Value := l.map (Value.int .i64)
theorem ints_len (l : List Int) : (ints l).length = l.length := by simp [ints]
theorem ints_at {l : List Int} {i : Nat} {z : Int} (h : l[i]? = some z) : (ints l)[i]? = some (.int .i64 z) := by simp [ints, h]
theorem ints_app (a b : List Int) : ints (a ++ b) = ints a ++ ints b := by simp [ints]
/-- The least publication since which a reader is in, m if none is. -/
def loE : List Int → Nat → Nat
  | [], m => m
  | x :: r, m => if 0 ≤ x then min x.toNat (loE r m) else loE r m
theorem loE_le (l : List Int) (m : Nat) : loE l m ≤ m := by
  induction l with
  | nil => exact Nat.le_refl _
  | cons x r ih => unfold loE; split <;> omega
theorem loE_in {l : List Int} {m : Nat} {x : Int} (h : x ∈ l) (h0 : 0 ≤ x) : loE l m ≤ x.toNat := by
  induction l with
  | nil => cases h
  | cons y r ih =>
    unfold loE
    rcases List.mem_cons.1 h with h1 | h1
    · subst h1; rw [if_pos h0]; omega
    · have := ih h1
      split <;> omega
theorem loE_ex {l : List Int} {m : Nat} (h : loE l m < m) : ∃ x ∈ l, 0 ≤ x ∧ x.toNat = loE l m := by
  induction l with
  | nil => unfold loE at h; omega
  | cons y r ih =>
    unfold loE at h ⊢
    split at h
    · rename_i h0
      rw [if_pos h0]
      rcases Nat.lt_or_ge y.toNat (loE r m) with h1 | h1
      · exact ⟨y, by simp, h0, by omega⟩
      · obtain ⟨x, hx, hx0, hxe⟩ := ih (by omega)
        exact ⟨x, by simp [hx], hx0, by omega⟩
    · rename_i h0
      rw [if_neg h0]
      obtain ⟨x, hx, hx0, hxe⟩ := ih h
      exact ⟨x, by simp [hx], hx0, hxe⟩
theorem loE_eq {l : List Int} {m k : Nat} (h1 : k ≤ m) (h2 : ∀ x ∈ l, 0 ≤ x → k ≤ x.toNat) (h3 : k < m → ∃ x ∈ l, 0 ≤ x ∧ x.toNat = k) : loE l m = k := by
  have a := loE_le l m
  rcases Nat.lt_trichotomy (loE l m) k with h | h | h
  · obtain ⟨x, hx, hx0, hxe⟩ := loE_ex (l := l) (m := m) (by omega)
    have := h2 x hx hx0; omega
  · exact h
  · obtain ⟨x, hx, hx0, hxe⟩ := h3 (by omega)
    have := loE_in (m := m) hx hx0; omega
/-- Somebody is in since n or an earlier one. -/
def waitE (l : List Int) (n : Nat) : Bool := l.any fun x => decide (0 ≤ x) && decide (x ≤ (n : Int))
theorem waitE_lo {l : List Int} {n m : Nat} (h : n < m) : waitE l n = decide (loE l m ≤ n) := by
  by_cases hw : loE l m ≤ n
  · rw [decide_eq_true hw]
    obtain ⟨x, hx, hx0, hxe⟩ := loE_ex (l := l) (m := m) (by omega)
    unfold waitE
    rw [List.any_eq_true]
    exact ⟨x, hx, by simp; omega⟩
  · rw [decide_eq_false hw]
    unfold waitE
    rw [List.any_eq_false]
    intro x hx
    simp only [Bool.and_eq_true, decide_eq_true_eq, not_and]
    intro h0 h1
    have := loE_in (m := m) hx h0
    omega
theorem waitE_take {l : List Int} {j n : Nat} {x : Int} (h : l[j]? = some x) : waitE (l.take (j + 1)) n = (waitE (l.take j) n || (decide (0 ≤ x) && decide (x ≤ (n : Int)))) := by
  unfold waitE
  rw [List.take_add_one, h]
  simp
theorem loE_mono (l : List Int) {m m' : Nat} (h : m ≤ m') : loE l m ≤ loE l m' := by
  induction l with
  | nil => exact h
  | cons x r ih => unfold loE; split <;> omega
theorem loE_out (l : List Int) (i m : Nat) : loE l m ≤ loE (l.set i (-1)) m := by
  induction l generalizing i with
  | nil => exact Nat.le_refl _
  | cons x r ih =>
    cases i with
    | zero => rw [List.set_cons_zero]; unfold loE; rw [if_neg (by omega : ¬ (0 : Int) ≤ -1)]; split <;> omega
    | succ i => rw [List.set_cons_succ]; unfold loE; have := ih i; split <;> omega
theorem loE_enter {l : List Int} {i : Nat} {x : Int} (m : Nat) (h : l[i]? = some x) (h0 : x < 0) : loE (l.set i (m : Int)) m = loE l m := by
  induction l generalizing i with
  | nil => simp at h
  | cons y r ih =>
    cases i with
    | zero =>
      simp at h; subst h
      have := loE_le r m
      rw [List.set_cons_zero]
      unfold loE
      rw [if_pos (by omega), if_neg (by omega), Int.toNat_natCast]
      omega
    | succ i =>
      rw [List.set_cons_succ]
      unfold loE
      rw [ih (by simpa using h)]
/-- What is given back, from lo to lo'. -/
def bkE (all : List Int) (lo hi : Nat) : List Int := (all.drop lo).take (hi - lo)
/-- So far it was given back. -/
def lowE (all ins : List Int) : Nat := loE ins (all.length - 1)
theorem lowE_le (all ins : List Int) : lowE all ins ≤ all.length - 1 := loE_le _ _
theorem bkE_len {all : List Int} {lo hi : Nat} (h : hi ≤ all.length) : (bkE all lo hi).length = hi - lo := by simp [bkE]; omega
theorem bkE_at {all : List Int} {lo hi i : Nat} (h : lo + i < hi) : (bkE all lo hi)[i]? = all[lo + i]? := by
  unfold bkE
  rw [List.getElem?_take, if_pos (by omega), List.getElem?_drop]
theorem bkE_snoc {all : List Int} {lo n : Nat} {z : Int} (h : lo ≤ n) (hz : all[n]? = some z) : bkE all lo (n + 1) = bkE all lo n ++ [z] := by
  unfold bkE
  rw [show n + 1 - lo = (n - lo) + 1 by omega, List.take_add_one, List.getElem?_drop, show lo + (n - lo) = n by omega, hz]
  rfl
theorem bkE_nil (all : List Int) (lo : Nat) : bkE all lo lo = [] := by simp [bkE]
/-- What must hold of an epoch. -/
structure InvE (all ins : List Int) : Prop where
  one : 0 < all.length
  few : 0 < ins.length ∧ ins.length ≤ 16
  in_ : ∀ x ∈ ins, -1 ≤ x ∧ x < (all.length : Int)
theorem InvE.new (first : Int) {n : Nat} (h : 1 ≤ n ∧ n ≤ 16) : InvE [first] (List.replicate n (-1)) :=
  ⟨by simp, by simp; omega, fun x hx => by rw [List.mem_replicate] at hx; simp [hx.2]⟩
theorem InvE.pub {all ins : List Int} (h : InvE all ins) (v : Int) : InvE (all ++ [v]) ins :=
  ⟨by simp, h.few, fun x hx => by have := h.in_ x hx; simp; omega⟩
theorem InvE.set_ {all ins : List Int} (h : InvE all ins) (i : Nat) {x : Int} (hx : -1 ≤ x ∧ x < (all.length : Int)) : InvE all (ins.set i x) :=
  ⟨h.one, by simpa using h.few, fun y hy => by
    rcases List.mem_or_eq_of_mem_set hy with h1 | h1
    · exact h.in_ y h1
    · subst h1; exact hx⟩
/-- The reader r is in, out. -/
def inE (ins : List Int) (r : Int) : Bool := decide (1 ≤ r ∧ r ≤ (ins.length : Int)) && decide (0 ≤ ins.getD (r - 1).toNat (-1))
def outE (ins : List Int) (r : Int) : Bool := decide (1 ≤ r ∧ r ≤ (ins.length : Int)) && decide (ins.getD (r - 1).toNat (-1) < 0)
/-- What Enter leaves, and answers. -/
def entI (all ins : List Int) (r : Int) : List Int := if outE ins r = true then ins.set (r - 1).toNat ((all.length - 1 : Nat) : Int) else ins
def curE (all : List Int) : Int := all.getD (all.length - 1) 0
def entV (all ins : List Int) (r : Int) : Int := if outE ins r = true then curE all else 0
def entN (ins : List Int) (r : Int) : Int := if outE ins r = true then 0 else 120
/-- Leave. -/
def levI (ins : List Int) (r : Int) : List Int := if inE ins r = true then ins.set (r - 1).toNat (-1) else ins
def levN (ins : List Int) (r : Int) : Int := if inE ins r = true then 0 else 120
def levV (all ins : List Int) (r : Int) : List Int := bkE all (lowE all ins) (lowE all (levI ins r))
def pubV (all ins : List Int) (v : Int) : List Int := bkE (all ++ [v]) (lowE all ins) (lowE (all ++ [v]) ins)
/-- Seen, Waiting. -/
def seeV (all ins : List Int) (r : Int) : Int := if inE ins r = true then all.getD (ins.getD (r - 1).toNat (-1)).toNat 0 else 0
def wtE (all ins : List Int) : List Int := bkE all (lowE all ins) (all.length - 1)
theorem lowE_pub (all ins : List Int) (v : Int) : lowE all ins ≤ lowE (all ++ [v]) ins := by
  unfold lowE
  exact loE_mono _ (by simp)
theorem lowE_lev (all ins : List Int) (r : Int) : lowE all ins ≤ lowE all (levI ins r) := by
  unfold lowE levI
  split
  · exact loE_out _ _ _
  · exact Nat.le_refl _
theorem lowE_ent {all ins : List Int} (r : Int) : lowE all (entI all ins r) = lowE all ins := by
  unfold lowE entI
  split
  · rename_i h
    simp only [outE, Bool.and_eq_true, decide_eq_true_eq] at h
    have hl : (r - 1).toNat < ins.length := by omega
    have h2 := h.2
    rw [List.getD_eq_getElem?_getD, List.getElem?_eq_getElem hl] at h2
    exact loE_enter _ (List.getElem?_eq_getElem hl) h2
  · rfl
theorem InvE.ent {all ins : List Int} (h : InvE all ins) (r : Int) : InvE all (entI all ins r) := by
  unfold entI
  split
  · exact h.set_ _ (by have := h.one; omega)
  · exact h
theorem InvE.lev {all ins : List Int} (h : InvE all ins) (r : Int) : InvE all (levI ins r) := by
  unfold levI
  split
  · exact h.set_ _ (by have := h.one; omega)
  · exact h
theorem levI_len (ins : List Int) (r : Int) : (levI ins r).length = ins.length := by unfold levI; split <;> simp
theorem entI_len (all ins : List Int) (r : Int) : (entI all ins r).length = ins.length := by unfold entI; split <;> simp
theorem inE_bad {ins : List Int} {r : Int} (h : r < 1 ∨ (ins.length : Int) < r) : inE ins r = false ∧ outE ins r = false := by
  unfold inE outE
  rw [decide_eq_false (by omega : ¬ (1 ≤ r ∧ r ≤ (ins.length : Int)))]
  exact ⟨rfl, rfl⟩
theorem inE_at {ins : List Int} {i : Nat} {x : Int} (h : ins[i]? = some x) : inE ins ((i : Int) + 1) = decide (0 ≤ x) ∧ outE ins ((i : Int) + 1) = decide (x < 0) := by
  have hl := (List.getElem?_eq_some_iff.1 h).1
  unfold inE outE
  rw [decide_eq_true (by omega : 1 ≤ (i : Int) + 1 ∧ (i : Int) + 1 ≤ (ins.length : Int)), show ((i : Int) + 1 - 1).toNat = i by omega, List.getD_eq_getElem?_getD, h]
  exact ⟨rfl, rfl⟩
/-- A reader's number: none, or the one at i. -/
theorem reader_cases (ins : List Int) (r : Int) : (r < 1 ∨ (ins.length : Int) < r) ∨ ∃ (i : Nat) (x : Int), r = (i : Int) + 1 ∧ i < ins.length ∧ ins[i]? = some x := by
  by_cases h : r < 1 ∨ (ins.length : Int) < r
  · exact .inl h
  · refine .inr ⟨(r - 1).toNat, ins[(r - 1).toNat]'(by omega), by omega, by omega, List.getElem?_eq_getElem _⟩
theorem outE_of {ins : List Int} {r : Int} (h1 : 1 ≤ r) (h2 : r ≤ (ins.length : Int)) (h : inE ins r = false) : outE ins r = true := by
  unfold inE at h
  unfold outE
  rw [decide_eq_true ⟨h1, h2⟩] at h ⊢
  simp at h ⊢
  exact h
theorem inE_rng {ins : List Int} {r : Int} (h : inE ins r = true) : 1 ≤ r ∧ r ≤ (ins.length : Int) := by
  unfold inE at h
  simp at h
  exact h.1
theorem outE_in {ins : List Int} {r : Int} (h : inE ins r = true) : outE ins r = false := by
  unfold inE at h
  unfold outE
  simp at h ⊢
  omega
theorem levI_no {ins : List Int} {r : Int} (h : inE ins r = false) : levI ins r = ins := by unfold levI; rw [h]; rfl
theorem levV_no {all ins : List Int} {r : Int} (h : inE ins r = false) : levV all ins r = [] := by unfold levV; rw [levI_no h]; exact bkE_nil _ _
theorem levN_no {ins : List Int} {r : Int} (h : inE ins r = false) : levN ins r = 120 := by unfold levN; rw [h]; rfl
theorem entI_no {all ins : List Int} {r : Int} (h : outE ins r = false) : entI all ins r = ins := by unfold entI; rw [h]; rfl
theorem entV_no {all ins : List Int} {r : Int} (h : outE ins r = false) : entV all ins r = 0 := by unfold entV; rw [h]; rfl
theorem entN_no {ins : List Int} {r : Int} (h : outE ins r = false) : entN ins r = 120 := by unfold entN; rw [h]; rfl
theorem entV_yes {all ins : List Int} {r : Int} (h : outE ins r = true) : entV all ins r = curE all := by unfold entV; rw [h]; rfl
theorem entN_yes {ins : List Int} {r : Int} (h : outE ins r = true) : entN ins r = 0 := by unfold entN; rw [h]; rfl
theorem seeV_no {all ins : List Int} {r : Int} (h : inE ins r = false) : seeV all ins r = 0 := by unfold seeV; rw [h]; rfl
theorem wtE_ent {all ins : List Int} (r : Int) : wtE all (entI all ins r) = wtE all ins := by unfold wtE; rw [lowE_ent]
/-- Rows of truth values: the first lo are true. -/
def gvE (n lo : Nat) : List Value := (List.range n).map fun k => .bool (decide (k < lo))
theorem gvE_len (n lo : Nat) : (gvE n lo).length = n := by simp [gvE]
theorem gvE_at {n lo k : Nat} (h : k < n) : (gvE n lo)[k]? = some (.bool (decide (k < lo))) := by simp [gvE, h]
theorem gvE_snoc {n lo : Nat} (h : lo ≤ n) : gvE (n + 1) lo = gvE n lo ++ [.bool false] := by
  unfold gvE
  rw [List.range_succ, List.map_append]
  simp; omega
theorem gvE_set {n lo : Nat} (h : lo < n) : (gvE n lo).set lo (.bool true) = gvE n (lo + 1) := by
  apply List.ext_getElem?
  intro k
  by_cases hk : k < n
  · rw [gvE_at hk]
    by_cases e : lo = k
    · subst e
      rw [List.getElem?_set_self (by rw [gvE_len]; exact hk)]
      simp
    · rw [List.getElem?_set_ne e, gvE_at hk]
      congr 2
      by_cases h2 : k < lo
      · rw [decide_eq_true h2, decide_eq_true (by omega)]
      · rw [decide_eq_false h2, decide_eq_false (by omega)]
  · rw [List.getElem?_eq_none (by simp [gvE]; omega), List.getElem?_eq_none (by simp [gvE]; omega)]
end Go.Proofs.Ytakeodnebegbhaa
