/-
  What octet.Put and the document's own Put make of any bytes, any width and any number.
-/
import Derived.Test.YtelkjcgfielbpaaWords
import Derived.Test.YtelkjcgfielbpaaRows
import Derived.WalkKit
import Derived.WalkSpells
import Derived.WalkLawsBesides
import Derived.Outline
import Derived.Deep.QuietTactic
import Derived.BigQuiet
import Derived.Lib.Hide
import Derived.Laws.CopyOwn
import Derived.Deep.OwnRows
namespace Go.Proofs.Ytelkjcgfielbpaa
open Go.RowKit
set_option linter.unusedVariables false

theorem Try.info5 : (Try.prog.info? 5).map (fun i => (i.zero, i.size, i.bytes)) = some (some (.int .u8 0), 1, 1) := by kernel_rfl

theorem make_sum (n k : Nat) (h : n + k ≤ 281474976710656) (w : World) :
    (Instr.makeSlice 24 (.int .i64 ((n : Int) + (k : Int))) (.int .i64 ((n : Int) + (k : Int)))).run Try.prog w = .ok (.slice (some ⟨w.heap.size, 0, none⟩) (n + k) (n + k)) (w.alloc (.cells (madeCells #[.int .u8 0] (n + k)) 5)) := by
  have h := run_make_row' (P := Try.prog) 24 5 (.int .u8 0) 1 Try.underlying24 Try.info5 rfl .i64 .i64 (n + k) (by omega) (by omega) w
  rwa [show ((n + k : Nat) : Int) = (n : Int) + (k : Int) by omega] at h

theorem made_list (n : Nat) : madeCells #[.int .u8 0] n = (List.replicate n (Value.int .u8 0)).toArray := by
  apply Array.ext
  · simp [madeCells]
  · intro i h1 h2
    simp [madeCells, Nat.mod_one]
theorem bytes_oneCell {zs : List Int} : ∀ u ∈ zs.map (Value.int .u8), u.oneCell' = true := ints_oneCell .u8 zs

theorem splice_start (n k : Nat) (zs : List Int) (h : zs.length = n) : splice (List.replicate (n + k) (Value.int .u8 0)) 0 (zs.map (Value.int .u8)) = ((zs ++ List.replicate (k - 0) 0 ++ putOf 0 0).map (Value.int .u8)) := by
  simp [splice, putOf, h]
theorem put_bytes (zs : List Int) (k j : Nat) (v : Int) (hj : j < k) :
    (((zs ++ List.replicate (k - j) 0 ++ putOf j v).map (Value.int .u8)).toArray).setIfInBounds (zs.length + (k - j - 1)) (.int .u8 (v / 256 ^ j % 256)) =
      ((zs ++ List.replicate (k - (j + 1)) 0 ++ putOf (j + 1) v).map (Value.int .u8)).toArray := by
  have e : k - j = (k - (j + 1)) + 1 := by omega
  rw [e, List.replicate_succ', putOf_cons]
  simp
theorem cs_len (zs : List Int) (n k : Nat) (h : zs.length = n) : (zs.map (Value.int .u8)).length = Nat.min n (n + k) := by
  simp only [List.length_map, h]; exact (Nat.min_eq_left (by omega)).symm

theorem cs_at {w1 : World} {A : Option Addr} {n B : Nat} {zs : List Int} (h : RI .u8 w1 B A n zs) (g : Nat) :
    0 < (zs.map (Value.int .u8)).length → (some (⟨g, 0, none⟩ : Addr) = some ⟨g, 0, none⟩) ∧ ∃ ad, A = some ad ∧ ∀ j v, (zs.map (Value.int .u8))[j]? = some v → w1.cell? (ad.add j) = some v := by
  intro hl
  obtain ⟨b, o, rfl, _, hc⟩ := h.2.1 (by have := h.1; simp at hl; omega)
  refine ⟨rfl, _, rfl, fun j v hv => ?_⟩
  rw [List.getElem?_map, Option.map_eq_some_iff] at hv
  obtain ⟨z, hz, rfl⟩ := hv
  rw [← hc j z hz]
  simp only [Addr.add]
  split
  · rename_i h0; simp [h0]
  · rfl

set_option maxHeartbeats 400000 in
theorem put_at (w : World) (B : Nat) (A : Option Addr) (n c k : Nat) (v width x : Int) (zs : List Int) (hz : RI .u8 w B A n zs) (hB : B ≤ w.heap.size) (hk : k ≤ 8) (hn : n + 8 ≤ 281474976710656)
    (hv0 : 0 ≤ v) (hx : (if width < 0 then 0 else width) = x) (hm : (if 8 < x then 8 else x) = (k : Int)) :
    Calls Try.prog 27 #[.slice A n c, .int .i64 width, .int .u64 v] w fun e w' => e = .returned (.slice (some ⟨w.heap.size, 0, none⟩) (n + k) (n + k)) ∧ Blk w' w.heap.size 5 (((zs ++ putOf k v).map (Value.int .u8)).toArray) ∧ Below w.heap.size w w' := by
  have hmk := make_sum n k (by omega) w
  have HL := Lib.hid hz.1
  obtain ⟨w1, hw1⟩ : ∃ w1, w1 = w.alloc (.cells (madeCells #[.int .u8 0] (n + k)) 5) := ⟨_, rfl⟩
  have HG : Hid (w1.heap[w.heap.size]? = some (.cells (List.replicate (n + k) (Value.int .u8 0)).toArray 5 (0, 0))) := by
    show _ = _
    rw [hw1, heap_alloc_new, made_list]
  have HB : Below w.heap.size w w1 := by rw [hw1]; exact (Below.refl _ _).alloc (Nat.le_refl _) _
  have C1 := Lib.hid (cs_len zs n k hz.1)
  have C2 := Lib.hid (cs_at (hz.below (HB.mono hB)) w.heap.size)
  have C3 : Hid (0 + (zs.map (Value.int .u8)).length ≤ (List.replicate (n + k) (Value.int .u8 0)).length) := by
    show _ ≤ _
    simp [hz.1]
  rw [← hw1] at hmk
  clear hw1 hz
  go_enter Try.func27, Try.ntmps27
  go_wp2_with (with_reducible refine wpList_copy_splice rfl (.tmp 17) (.tmp 18) 24 24 rfl 5 Try.underlying24 (by kernel_rfl) _ _ _ _ _ _ rfl rfl w.heap.size 0 (List.replicate (n + k) (Value.int .u8 0)) 5 HG.out (zs.map (Value.int .u8)) C1.out C2.out C3.out bytes_oneCell w.heap.size w HB (Nat.le_refl _) ?_; intro w2 HG2 HB2)
  go_loopw [2, 8, 21] (fun nn _ i wr => ∃ j : Nat, j ≤ k ∧ i = .int .i64 j ∧ nn = .int .u64 (v / 256 ^ j) ∧ Blk wr w.heap.size 5 (((zs ++ List.replicate (k - j) 0 ++ putOf j v).map (Value.int .u8)).toArray) ∧ Below w.heap.size w wr) (fun _ _ i _ => k - (intOf i).toNat)
  case atStart => exact ⟨0, Nat.zero_le _, rfl, by simp, by have := HG2.out; rwa [splice_start n k zs HL.out] at this, HB2⟩
  case round =>
    obtain ⟨j, hj, rfl, rfl, hblk, hbel⟩ := hrel
    by_cases hlt : j < k
    · have hlen : n + k - 1 - j < ((zs ++ List.replicate (k - j) 0 ++ putOf j v).map (Value.int .u8)).length := by
        have := HL.out; simp [putOf_len]; omega
      obtain ⟨u, hu⟩ : ∃ u, wr.cell? ⟨w.heap.size, n + k - 1 - j, none⟩ = some u := ⟨_, (hblk.cell _).trans (by rw [List.getElem?_toArray, List.getElem?_eq_getElem hlen])⟩
      have hfz := hblk.frozen (n + k - 1 - j)
      have HN := Lib.hid (show Blk (wr.setCell ⟨w.heap.size, n + k - 1 - j, none⟩ (.int .u8 (v / 256 ^ j % 256))) w.heap.size 5 (((zs ++ List.replicate (k - (j + 1)) 0 ++ putOf (j + 1) v).map (Value.int .u8)).toArray) by
        have := hblk.set_ (zs.length + (k - j - 1)) (.int .u8 (v / 256 ^ j % 256))
        rw [put_bytes zs k j v hlt] at this
        rwa [show n + k - 1 - j = zs.length + (k - j - 1) by have := HL.out; omega])
      have HB3 := hbel.setCell (p := ⟨w.heap.size, n + k - 1 - j, none⟩) (Nat.le_refl _) (.int .u8 (v / 256 ^ j % 256))
      have HV := Lib.hid (show v / 256 ^ j / 256 = v / 256 ^ (j + 1) by rw [Int.pow_succ, Int.ediv_ediv_of_nonneg (Int.le_of_lt (pow256_pos j))])
      clear hlen hblk
      go_wp2
      go_roundw
      case rel => exact ⟨j + 1, by omega, by go_num, by rw [HV.out], HN.out, HB3⟩
      case measure => simp [intOf]; omega
    · obtain rfl : j = k := by omega
      have HN := Lib.hid hblk
      clear hblk
      go_wp2
      go_ret
      exact ⟨rfl, by simpa using HN.out, hbel⟩

/-- How many bytes a width lays: none below 0, eight above 8. -/
def wide (width : Int) : Nat := (if 8 < (if width < 0 then 0 else width) then 8 else (if width < 0 then 0 else width)).toNat
theorem wide_le (width : Int) : wide width ≤ 8 := by unfold wide; split <;> omega
theorem wide_eq (width : Int) : (if 8 < (if width < 0 then 0 else width) then 8 else (if width < 0 then 0 else width)) = (wide width : Int) := by unfold wide; split <;> split <;> omega

theorem put_any (w : World) (B : Nat) (A : Option Addr) (n c : Nat) (v width : Int) (zs : List Int) (hz : RI .u8 w B A n zs) (hB : B ≤ w.heap.size) (hn : n + 8 ≤ 281474976710656) (hv0 : 0 ≤ v) :
    Calls Try.prog 27 #[.slice A n c, .int .i64 width, .int .u64 v] w fun e w' => e = .returned (.slice (some ⟨w.heap.size, 0, none⟩) (n + wide width) (n + wide width)) ∧ Blk w' w.heap.size 5 (((zs ++ putOf (wide width) v).map (Value.int .u8)).toArray) ∧ Below w.heap.size w w' :=
  put_at w B A n c (wide width) v width _ zs hz hB (wide_le width) hn hv0 rfl (wide_eq width)
end Go.Proofs.Ytelkjcgfielbpaa
