/-
  Words for memory that a call makes: rows of bytes; how many bytes a width lays.
-/
import Derived.Test.YtlbkphnbpenbcaaWords
import Derived.Test.YtlbkphnbpenbcaaRows
import Derived.WalkKit
import Derived.WalkSpells
import Derived.WalkLawsBesides
import Derived.Outline
import Derived.Deep.QuietTactic
import Derived.BigQuiet
import Derived.Lib.Hide
import Derived.Laws.CopyOwn
import Derived.Deep.OwnRows
namespace Go.Proofs.Ytlbkphnbpenbcaa
open Go.RowKit
set_option linter.unusedVariables false

theorem Try.info5 : (Try.prog.info? 5).map (fun i => (i.zero, i.size, i.bytes)) = some (some (.int .u8 0), 1, 1) := by kernel_rfl

theorem make_sum (n k : Nat) (h : n + k ≤ 281474976710656) (w : World) :
    (Instr.makeSlice 96 (.int .i64 ((n : Int) + (k : Int))) (.int .i64 ((n : Int) + (k : Int)))).run Try.prog w = .ok (.slice (some ⟨w.heap.size, 0, none⟩) (n + k) (n + k)) (w.alloc (.cells (madeCells #[.int .u8 0] (n + k)) 5)) := by
  have h := run_make_row' (P := Try.prog) 96 5 (.int .u8 0) 1 Try.underlying96 Try.info5 rfl .i64 .i64 (n + k) (by omega) (by omega) w
  rwa [show ((n + k : Nat) : Int) = (n : Int) + (k : Int) by omega] at h

theorem made_list (n : Nat) : madeCells #[.int .u8 0] n = (List.replicate n (Value.int .u8 0)).toArray := by
  apply Array.ext
  · simp [madeCells]
  · intro i h1 h2
    simp [madeCells, Nat.mod_one]
theorem bytes_oneCell {zs : List Int} : ∀ u ∈ zs.map (Value.int .u8), u.oneCell' = true := ints_oneCell .u8 zs

theorem splice_start (n k : Nat) (zs : List Int) (h : zs.length = n) : splice (List.replicate (n + k) (Value.int .u8 0)) 0 (zs.map (Value.int .u8)) = ((zs ++ List.replicate (k - 0) 0 ++ putOf 0 0).map (Value.int .u8)) := by
  simp [splice, putOf, h]
theorem put_bytes (zs : List Int) (k j : Nat) (v : Int) (hj : j < k) :
    (((zs ++ List.replicate (k - j) 0 ++ putOf j v).map (Value.int .u8)).toArray).setIfInBounds (zs.length + (k - j - 1)) (.int .u8 (v / 256 ^ j % 256)) =
      ((zs ++ List.replicate (k - (j + 1)) 0 ++ putOf (j + 1) v).map (Value.int .u8)).toArray := by
  have e : k - j = (k - (j + 1)) + 1 := by omega
  rw [e, List.replicate_succ', putOf_cons]
  simp
theorem cs_len (zs : List Int) (n k : Nat) (h : zs.length = n) : (zs.map (Value.int .u8)).length = Nat.min n (n + k) := by
  simp only [List.length_map, h]; exact (Nat.min_eq_left (by omega)).symm

theorem cs_at {w1 : World} {A : Option Addr} {n B : Nat} {zs : List Int} (h : RI .u8 w1 B A n zs) (g : Nat) :
    0 < (zs.map (Value.int .u8)).length → (some (⟨g, 0, none⟩ : Addr) = some ⟨g, 0, none⟩) ∧ ∃ ad, A = some ad ∧ ∀ j v, (zs.map (Value.int .u8))[j]? = some v → w1.cell? (ad.add j) = some v := by
  intro hl
  obtain ⟨b, o, rfl, _, hc⟩ := h.2.1 (by have := h.1; simp at hl; omega)
  refine ⟨rfl, _, rfl, fun j v hv => ?_⟩
  rw [List.getElem?_map, Option.map_eq_some_iff] at hv
  obtain ⟨z, hz, rfl⟩ := hv
  rw [← hc j z hz]
  simp only [Addr.add]
  split
  · rename_i h0; simp [h0]
  · rfl

/-- How many bytes a width lays: none below 0, eight above 8. -/
def wide (width : Int) : Nat := (if 8 < (if width < 0 then 0 else width) then 8 else (if width < 0 then 0 else width)).toNat
theorem wide_le (width : Int) : wide width ≤ 8 := by unfold wide; split <;> omega
theorem wide_eq (width : Int) : (if 8 < (if width < 0 then 0 else width) then 8 else (if width < 0 then 0 else width)) = (wide width : Int) := by unfold wide; split <;> split <;> omega

end Go.Proofs.Ytlbkphnbpenbcaa
