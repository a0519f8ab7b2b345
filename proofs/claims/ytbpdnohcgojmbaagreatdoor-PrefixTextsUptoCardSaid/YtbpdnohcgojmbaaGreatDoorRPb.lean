/-
  The eight groups that the document's Parse lays, plainly.
-/
import Derived.Test.YtbpdnohcgojmbaaGreatDoorRSix
import Derived.Test.YtbpdnohcgojmbaaGreatDoorRAz
import Derived.Test.YtbpdnohcgojmbaaGreatDoorAppk
namespace Go.Proofs.YtbpdnohcgojmbaaGreatDoor
open Go.RowKit
set_option linter.unusedVariables false

/-- What of the eight groups stands when I are laid. -/
def preA (gl : List Int) (K m I : Nat) : List Int := if K < I then gl.take K ++ List.replicate (8 - m) 0 ++ (gl.take I).drop K else gl.take I
theorem preA_nil (gl : List Int) (K m : Nat) : preA gl K m 0 = [] := by unfold preA; simp
/-- One more. -/
theorem preA_next {gl : List Int} {K m I : Nat} {z : Int} (h : gl[I]? = some z) (hK : I ≠ K) : preA gl K m (I + 1) = preA gl K m I ++ [z] := by
  have e : gl.take (I + 1) = gl.take I ++ [z] := by rw [List.take_add_one, h]; rfl
  have hl : I < gl.length := (List.getElem?_eq_some_iff.1 h).1
  unfold preA
  by_cases hk : K < I
  · rw [if_pos (by omega), if_pos hk, e, List.drop_append_of_le_length (by rw [List.length_take]; omega)]
    simp only [List.append_assoc]
  · rw [if_neg (by omega), if_neg hk, e]
theorem preA_gap {gl : List Int} {K m : Nat} {z : Int} (h : gl[K]? = some z) : preA gl K m (K + 1) = preA gl K m K ++ List.replicate (8 - m) 0 ++ [z] := by
  have e : gl.take (K + 1) = gl.take K ++ [z] := by rw [List.take_add_one, h]; rfl
  have hl : K < gl.length := (List.getElem?_eq_some_iff.1 h).1
  unfold preA
  rw [if_pos (by omega), if_neg (by omega), e, List.drop_append_of_le_length (by rw [List.length_take]; omega), List.drop_eq_nil_of_le (by rw [List.length_take]; omega), List.nil_append]
theorem preA_len {gl : List Int} {K m I : Nat} (hm : gl.length = m) (hI : I ≤ m) : (preA gl K m I).length ≤ 16 + m := by
  unfold preA
  split
  · simp only [List.length_append, List.length_take, List.length_replicate, List.length_drop]; omega
  · rw [List.length_take]; omega
/-- All eight. -/
def allA (gl : List Int) (K m : Nat) : List Int := gl.take K ++ List.replicate (8 - m) 0 ++ gl.drop K
theorem preA_all {gl : List Int} {K m : Nat} (hm : gl.length = m) (hK : K < m) : preA gl K m m = allA gl K m := by
  unfold preA allA
  rw [if_pos hK, List.take_of_length_le (Nat.le_of_eq hm)]
theorem preA_last {gl : List Int} {m : Nat} (hm : gl.length = m) : preA gl m m m ++ List.replicate (8 - m) 0 = allA gl m m := by
  unfold preA allA
  rw [if_neg (Nat.lt_irrefl _), List.drop_eq_nil_of_le (Nat.le_of_eq hm), List.append_nil]
theorem preA_eight {gl : List Int} (hm : gl.length = 8) : preA gl 8 8 8 = allA gl 8 8 := by
  unfold preA allA
  rw [if_neg (Nat.lt_irrefl _), List.drop_eq_nil_of_le (Nat.le_of_eq hm)]
  simp
theorem allA_len {gl : List Int} {K m : Nat} (hm : gl.length = m) (hK : K ≤ m) (h8 : m ≤ 8) : (allA gl K m).length = 8 := by
  unfold allA
  simp only [List.length_append, List.length_take, List.length_replicate, List.length_drop]; omega
theorem allA_bd {gl : List Int} {K m : Nat} (h : ∀ x ∈ gl, 0 ≤ x ∧ x < 65536) : ∀ x ∈ allA gl K m, 0 ≤ x ∧ x < 65536 := by
  intro x hx
  unfold allA at hx
  rcases List.mem_append.1 hx with hx | hx
  · rcases List.mem_append.1 hx with hx | hx
    · exact h x (List.mem_of_mem_take hx)
    · rw [List.eq_of_mem_replicate hx]; decide
  · exact h x (List.mem_of_mem_drop hx)
/-- A number of groups. -/
def numG (l : List Int) : Int := l.foldl (fun n x => n * 65536 + x) 0
theorem numG_snoc (l : List Int) (z : Int) : numG (l ++ [z]) = numG l * 65536 + z := by simp [numG]
theorem numG_bd : ∀ (k : Nat) (l : List Int), l.length = k → (∀ x ∈ l, 0 ≤ x ∧ x < 65536) → 0 ≤ numG l ∧ numG l < 65536 ^ k := by
  intro k
  induction k with
  | zero => intro l hl _; rw [List.eq_nil_of_length_eq_zero hl]; exact ⟨by decide, by decide⟩
  | succ k ih =>
    intro l hl hb
    obtain ⟨r, z, rfl⟩ : ∃ r z, l = r ++ [z] := ⟨l.dropLast, l.getLast (fun h => by rw [h] at hl; cases hl), (List.dropLast_concat_getLast _).symm⟩
    have hr : r.length = k := by simp at hl; omega
    obtain ⟨h1, h2⟩ := ih r hr (fun x hx => hb x (by simp [hx]))
    obtain ⟨z1, z2⟩ := hb z (by simp)
    rw [numG_snoc, Int.pow_succ]
    omega
theorem eight_of {l : List Int} (h : l.length = 8) : ∃ a b c d e f g i, l = [a, b, c, d, e, f, g, i] := by
  match l, h with
  | [a, b, c, d, e, f, g, i], _ => exact ⟨a, b, c, d, e, f, g, i, rfl⟩
theorem adrOf_numG {l : List Int} (h : l.length = 8) : adrOf l = adr true (numG (l.take 4)) (numG ((l.drop 4).take 4)) := by
  obtain ⟨a, b, c, d, e, f, g, i, rfl⟩ := eight_of h
  unfold adrOf n4 numG
  simp
theorem sixE_all {gv : List Nat} {at_ : Int} {m K : Nat} (hm : gv.length = m) (hK : (at_ = -1 ∧ m = 8 ∧ K = 8) ∨ (at_ = (K : Int) ∧ K ≤ m ∧ m ≤ 7)) :
    sixV (sixE (some (gv, at_))) = .tuple #[adr true (numG ((allA (gv.map Int.ofNat) K m).take 4)) (numG (((allA (gv.map Int.ofNat) K m).drop 4).take 4)), .int .i64 0] := by
  have hgl : (gv.map Int.ofNat).length = m := by rw [List.length_map, hm]
  rcases hK with ⟨rfl, rfl, rfl⟩ | ⟨rfl, h1, h2⟩
  · have e : sixE (some (gv, -1)) = some gv := by simp only [sixE]; rw [if_pos (by decide), if_pos hm]
    have e2 : allA (gv.map Int.ofNat) 8 8 = gv.map Int.ofNat := by
      unfold allA
      rw [List.take_of_length_le (Nat.le_of_eq hgl), List.drop_eq_nil_of_le (Nat.le_of_eq hgl)]; simp
    rw [e, e2]
    simp only [sixV]
    rw [adrOf_numG hgl]
  · have e : sixE (some (gv, (K : Int))) = some (gv.take K ++ List.replicate (8 - m) 0 ++ gv.drop K) := by
      simp only [sixE]; rw [if_neg (by omega), if_pos (by omega), hm]; rfl
    have e2 : (gv.take K ++ List.replicate (8 - m) 0 ++ gv.drop K).map Int.ofNat = allA (gv.map Int.ofNat) K m := by
      unfold allA
      simp [List.map_take, List.map_drop]
    rw [e]
    simp only [sixV]
    rw [e2, adrOf_numG (allA_len hgl h1 (by omega))]
end Go.Proofs.YtbpdnohcgojmbaaGreatDoor
