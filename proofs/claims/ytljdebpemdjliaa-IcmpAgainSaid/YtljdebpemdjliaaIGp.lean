/-
  What a law on messages that are laid again needs: pure.
-/
import Derived.Test.YtljdebpemdjliaaILw
namespace Go.Proofs.Ytljdebpemdjliaa
open Go.RowKit
set_option linter.unusedVariables false

theorem allI_take2 (m : Ms) (x : Int) : (allI m x).take 2 = putOf 1 m.k ++ putOf 1 m.c := by
  unfold allI hdI
  rw [List.append_assoc]
  exact List.take_left' (by simp [putOf_len])
theorem allI_drop4 (m : Ms) (x : Int) : (allI m x).drop 4 = putOf 4 m.r ++ byt m.d := by
  unfold allI hdI
  rw [← List.append_assoc (putOf 1 m.k ++ putOf 1 m.c), List.append_assoc (putOf 1 m.k ++ putOf 1 m.c ++ putOf 2 x)]
  exact List.drop_left' (by simp [putOf_len])
theorem allI_2 (m : Ms) (x : Int) : (allI m x)[2]? = some (x / 256 % 256) ∧ (allI m x)[3]? = some (x % 256) := by
  unfold allI hdI
  rw [putI, putI]
  constructor <;> simp [putOf]
theorem byt_at (s : ByteArray) (i : Nat) (h : i < s.size) : (byt s)[i]? = some ((s[i]'h).toNat : Int) := by
  unfold byt
  rw [List.getElem?_map, List.getElem?_eq_getElem (by rw [Array.length_toList]; exact h), Option.map_some]
  rfl
/-- What is laid again beside what was taken. -/
structure Agn (s T : ByteArray) : Prop where
  size : T.size = s.size
  h8 : 8 ≤ s.size
  h9 : s.size ≤ 65008
  two : T.extract 0 2 = s.extract 0 2
  four : T.extract 4 T.size = s.extract 4 s.size
  same : T = s ∨ (¬ T = s ∧ ∃ c d : Int, (c = 0 ∨ c = 65535) ∧ (d = 0 ∨ d = 65535) ∧ (byt s)[2]? = some (c / 256 % 256) ∧ (byt s)[3]? = some (c % 256) ∧ (byt T)[2]? = some (d / 256 % 256) ∧ (byt T)[3]? = some (d % 256))
theorem agn_of {s : ByteArray} {six : Bool} {a b : Ad} (h : (tkIR s six a b).2 = 0) : Agn s (bytI (pkI s six) a b) ∧ OkI (pkI s six) a b ∧ tkIR s six a b = (pkI s six, 0) := by
  obtain ⟨h1, hr, ho, h8, h9, hf, c0, c1, ha⟩ := tk_okI h
  have hd : (pkI s six).d.size = s.size - 8 := by show (s.extract 8 s.size).size = _; rw [ByteArray.size_extract]; omega
  have hX := psI_nn six a b (s.size : Int)
  have hn : ((8 + (pkI s six).d.size : Nat) : Int) = (s.size : Int) := by omega
  have hag := againI hX h
  have hb : byt (bytI (pkI s six) a b) = allI (pkI s six) (chI (pkI s six) (psI six a b (s.size : Int))) := by rw [bytI_byt, hn]; rfl
  have hsz : (bytI (pkI s six) a b).size = s.size := by rw [bytI_size, hd]; omega
  have hcb := chI_bd (pkI s six) hX
  obtain ⟨X, hXX⟩ : ∃ X, chI (pkI s six) (psI six a b (s.size : Int)) = X := ⟨_, rfl⟩
  obtain ⟨C, hC⟩ : ∃ C, nAt (byt s) 2 2 = C := ⟨_, rfl⟩
  obtain ⟨T, hT⟩ : ∃ T, bytI (pkI s six) a b = T := ⟨_, rfl⟩
  rw [hXX] at hag hb
  rw [hC] at ha hag
  rw [hT] at hb hsz ⊢
  refine ⟨⟨hsz, h8, h9, ?_, ?_, ?_⟩, ⟨rgI_iff.2 hr, ho⟩, Prod.ext h1 h⟩
  · apply byt_inj
    rw [byt_extI, byt_extI, hb, ← ha, allI_take2, allI_take2]
  · apply byt_inj
    rw [byt_extI, byt_extI, List.take_of_length_le (by rw [byt_len]; exact Nat.le_refl _), List.take_of_length_le (by rw [byt_len]; exact Nat.le_refl _), hb, ← ha, allI_drop4, allI_drop4]
  · by_cases he : T = s
    · exact Or.inl he
    · refine Or.inr ⟨he, C, X, ?_⟩
      rcases hag with e | ⟨e1, e2⟩
      · exact absurd (byt_inj (by rw [hb, ← ha, e])) he
      · rw [← ha, hb]
        exact ⟨e1, e2, (allI_2 _ _).1, (allI_2 _ _).2, (allI_2 _ _).1, (allI_2 _ _).2⟩
end Go.Proofs.Ytljdebpemdjliaa
