/-
  The document's choice of the longest row of noughts is the program's.
-/
import Derived.Test.YtnhlgonldffgoaaDoorRZeros
import Derived.Test.YtnhlgonldffgoaaDoorLong
namespace Go.Proofs.YtnhlgonldffgoaaDoor
open Go.RowKit
set_option linter.unusedVariables false

/-- The place from which most groups are 0: of those up to k. -/
def amx (zs : List Int) : Nat → Nat
  | 0 => 0
  | k + 1 => if lz (zs.drop (amx zs k)) < lz (zs.drop (k + 1)) then k + 1 else amx zs k
theorem amx_le (zs : List Int) : ∀ k, amx zs k ≤ k
  | 0 => Nat.le_refl _
  | k + 1 => by have := amx_le zs k; unfold amx; split <;> omega
/-- Which are 0. -/
def nz (z : Int) : Int := if z = 0 then 0 else 1
theorem nz_zero (z : Int) : nz z = 0 ↔ z = 0 := by unfold nz; split <;> simp_all
theorem lngAux_nz : ∀ (l : List Int) (j p n r : Nat), lngAux (l.map nz) j p n r = lngAux l j p n r
  | [], _, _, _, _ => rfl
  | z :: l, j, p, n, r => by
    simp only [List.map_cons, lngAux, nz_zero]
    split
    · split <;> exact lngAux_nz l _ _ _ _
    · exact lngAux_nz l _ _ _ _
theorem lz_nz : ∀ l : List Int, lz (l.map nz) = lz l
  | [] => rfl
  | z :: l => by simp only [List.map_cons, lz, nz_zero, lz_nz l]
theorem amx_nz (l : List Int) : ∀ k, amx (l.map nz) k = amx l k
  | 0 => rfl
  | k + 1 => by simp only [amx, amx_nz l k, ← List.map_drop, lz_nz]
def pat (m : Nat) : List Int := (List.range 8).map fun i => ((m / 2 ^ i % 2 : Nat) : Int)
theorem pat_all : ∀ m : Fin 256, (if 1 < lz ((pat m.val).drop (amx (pat m.val) 7)) then lng (pat m.val) = (amx (pat m.val) 7, lz ((pat m.val).drop (amx (pat m.val) 7))) else (lng (pat m.val)).2 < 2) := by decide +kernel
theorem nz_bit (z : Int) : ∃ b : Nat, b < 2 ∧ nz z = (b : Int) := by
  unfold nz; split
  · exact ⟨0, by decide, rfl⟩
  · exact ⟨1, by decide, rfl⟩
theorem pat_of (zs : List Int) (h : zs.length = 8) : ∃ m : Nat, m < 256 ∧ zs.map nz = pat m := by
  match zs, h with
  | [a, b, c, d, e, f, g, i], _ =>
    obtain ⟨a', a1, a2⟩ := nz_bit a
    obtain ⟨b', b1, b2⟩ := nz_bit b
    obtain ⟨c', c1, c2⟩ := nz_bit c
    obtain ⟨d', d1, d2⟩ := nz_bit d
    obtain ⟨e', e1, e2⟩ := nz_bit e
    obtain ⟨f', f1, f2⟩ := nz_bit f
    obtain ⟨g', g1, g2⟩ := nz_bit g
    obtain ⟨i', i1, i2⟩ := nz_bit i
    refine ⟨a' + 2 * b' + 4 * c' + 8 * d' + 16 * e' + 32 * f' + 64 * g' + 128 * i', by omega, ?_⟩
    simp only [List.map_cons, List.map_nil, a2, b2, c2, d2, e2, f2, g2, i2, pat, show List.range 8 = [0, 1, 2, 3, 4, 5, 6, 7] from rfl, List.cons.injEq, and_true]
    refine ⟨?_, ?_, ?_, ?_, ?_, ?_, ?_, ?_⟩ <;> omega
theorem lng_amx (zs : List Int) (h : zs.length = 8) : (1 < lz (zs.drop (amx zs 7)) → lng zs = (amx zs 7, lz (zs.drop (amx zs 7)))) ∧ (¬ 1 < lz (zs.drop (amx zs 7)) → (lng zs).2 < 2) := by
  obtain ⟨m, hm, e⟩ := pat_of zs h
  have k := pat_all ⟨m, hm⟩
  simp only [← e, amx_nz, ← List.map_drop, lz_nz] at k
  have e2 : lng (zs.map nz) = lng zs := lngAux_nz zs 0 0 0 0
  rw [e2] at k
  refine ⟨fun h1 => ?_, fun h1 => ?_⟩
  · rwa [if_pos h1] at k
  · rwa [if_neg h1] at k
end Go.Proofs.YtnhlgonldffgoaaDoor
