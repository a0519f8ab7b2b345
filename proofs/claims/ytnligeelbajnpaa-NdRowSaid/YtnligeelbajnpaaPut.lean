/-
  What octet.Put makes of any bytes, any width and any number.
-/
import Derived.Test.YtnligeelbajnpaaMake
namespace Go.Proofs.Ytnligeelbajnpaa
open Go.RowKit
set_option linter.unusedVariables false

set_option maxHeartbeats 400000 in
theorem put_at (w : World) (B : Nat) (A : Option Addr) (n c k : Nat) (v width x : Int) (zs : List Int) (hz : RI .u8 w B A n zs) (hB : B ≤ w.heap.size) (hk : k ≤ 8) (hn : n + 8 ≤ 281474976710656)
    (hv0 : 0 ≤ v) (hx : (if width < 0 then 0 else width) = x) (hm : (if 8 < x then 8 else x) = (k : Int)) :
    Calls Try.prog 43 #[.slice A n c, .int .i64 width, .int .u64 v] w fun e w' => e = .returned (.slice (some ⟨w.heap.size, 0, none⟩) (n + k) (n + k)) ∧ Blk w' w.heap.size 5 (((zs ++ putOf k v).map (Value.int .u8)).toArray) ∧ Below w.heap.size w w' := by
  have hmk := make_sum n k (by omega) w
  have HL := Lib.hid hz.1
  obtain ⟨w1, hw1⟩ : ∃ w1, w1 = w.alloc (.cells (madeCells #[.int .u8 0] (n + k)) 5) := ⟨_, rfl⟩
  have HG : Hid (w1.heap[w.heap.size]? = some (.cells (List.replicate (n + k) (Value.int .u8 0)).toArray 5 (0, 0))) := by
    show _ = _
    rw [hw1, heap_alloc_new, made_list]
  have HB : Below w.heap.size w w1 := by rw [hw1]; exact (Below.refl _ _).alloc (Nat.le_refl _) _
  have C1 := Lib.hid (cs_len zs n k hz.1)
  have C2 := Lib.hid (cs_at (hz.below (HB.mono hB)) w.heap.size)
  have C3 : Hid (0 + (zs.map (Value.int .u8)).length ≤ (List.replicate (n + k) (Value.int .u8 0)).length) := by
    show _ ≤ _
    simp [hz.1]
  rw [← hw1] at hmk
  clear hw1 hz
  go_enter Try.func43, Try.ntmps43
  go_wp2_with (with_reducible refine wpList_copy_splice rfl (.tmp 17) (.tmp 18) 49 49 rfl 5 Try.underlying49 (by kernel_rfl) _ _ _ _ _ _ rfl rfl w.heap.size 0 (List.replicate (n + k) (Value.int .u8 0)) 5 HG.out (zs.map (Value.int .u8)) C1.out C2.out C3.out bytes_oneCell w.heap.size w HB (Nat.le_refl _) ?_; intro w2 HG2 HB2)
  go_loopw [2, 8, 21] (fun nn _ i wr => ∃ j : Nat, j ≤ k ∧ i = .int .i64 j ∧ nn = .int .u64 (v / 256 ^ j) ∧ Blk wr w.heap.size 5 (((zs ++ List.replicate (k - j) 0 ++ putOf j v).map (Value.int .u8)).toArray) ∧ Below w.heap.size w wr) (fun _ _ i _ => k - (intOf i).toNat)
  case atStart => exact ⟨0, Nat.zero_le _, rfl, by simp, by have := HG2.out; rwa [splice_start n k zs HL.out] at this, HB2⟩
  case round =>
    obtain ⟨j, hj, rfl, rfl, hblk, hbel⟩ := hrel
    by_cases hlt : j < k
    · have hlen : n + k - 1 - j < ((zs ++ List.replicate (k - j) 0 ++ putOf j v).map (Value.int .u8)).length := by
        have := HL.out; simp [putOf_len]; omega
      obtain ⟨u, hu⟩ : ∃ u, wr.cell? ⟨w.heap.size, n + k - 1 - j, none⟩ = some u := ⟨_, (hblk.cell _).trans (by rw [List.getElem?_toArray, List.getElem?_eq_getElem hlen])⟩
      have hfz := hblk.frozen (n + k - 1 - j)
      have HN := Lib.hid (show Blk (wr.setCell ⟨w.heap.size, n + k - 1 - j, none⟩ (.int .u8 (v / 256 ^ j % 256))) w.heap.size 5 (((zs ++ List.replicate (k - (j + 1)) 0 ++ putOf (j + 1) v).map (Value.int .u8)).toArray) by
        have := hblk.set_ (zs.length + (k - j - 1)) (.int .u8 (v / 256 ^ j % 256))
        rw [put_bytes zs k j v hlt] at this
        rwa [show n + k - 1 - j = zs.length + (k - j - 1) by have := HL.out; omega])
      have HB3 := hbel.setCell (p := ⟨w.heap.size, n + k - 1 - j, none⟩) (Nat.le_refl _) (.int .u8 (v / 256 ^ j % 256))
      have HV := Lib.hid (show v / 256 ^ j / 256 = v / 256 ^ (j + 1) by rw [Int.pow_succ, Int.ediv_ediv_of_nonneg (Int.le_of_lt (pow256_pos j))])
      clear hlen hblk
      go_wp2
      go_roundw
      case rel => exact ⟨j + 1, by omega, by go_num, by rw [HV.out], HN.out, HB3⟩
      case measure => simp [intOf]; omega
    · obtain rfl : j = k := by omega
      have HN := Lib.hid hblk
      clear hblk
      go_wp2
      go_ret
      exact ⟨rfl, by simpa using HN.out, hbel⟩

theorem put_any (w : World) (B : Nat) (A : Option Addr) (n c : Nat) (v width : Int) (zs : List Int) (hz : RI .u8 w B A n zs) (hB : B ≤ w.heap.size) (hn : n + 8 ≤ 281474976710656) (hv0 : 0 ≤ v) :
    Calls Try.prog 43 #[.slice A n c, .int .i64 width, .int .u64 v] w fun e w' => e = .returned (.slice (some ⟨w.heap.size, 0, none⟩) (n + wide width) (n + wide width)) ∧ Blk w' w.heap.size 5 (((zs ++ putOf (wide width) v).map (Value.int .u8)).toArray) ∧ Below w.heap.size w w' :=
  put_at w B A n c (wide width) v width _ zs hz hB (wide_le width) hn hv0 rfl (wide_eq width)
theorem put_nil (k : Nat) (hk : k ≤ 8) (v : Int) (hv0 : 0 ≤ v) (w : World) :
    Calls Try.prog 43 #[.slice none 0 0, .int .i64 (k : Int), .int .u64 v] w fun e w' => e = .returned (.slice (some ⟨w.heap.size, 0, none⟩) k k) ∧ Blk w' w.heap.size 5 (((putOf k v).map (Value.int .u8)).toArray) ∧ Below w.heap.size w w' := by
  have h := put_at w 0 none 0 0 k v (k : Int) _ [] RI.nil_ (Nat.zero_le _) hk (by omega) hv0 (if_neg (by omega)) (if_neg (by omega))
  simpa using h
theorem put_k (k n : Nat) (hk : k ≤ 8) (v : Int) (hv0 : 0 ≤ v) (hn : n ≤ 100) {w : World} {A : Option Addr} {c : Nat} {zs : List Int} (hz : RI .u8 w w.heap.size A n zs) :
    Calls Try.prog 43 #[.slice A n c, .int .i64 (k : Int), .int .u64 v] w fun e w' => e = .returned (.slice (some ⟨w.heap.size, 0, none⟩) (n + k) (n + k)) ∧ Blk w' w.heap.size 5 (((zs ++ putOf k v).map (Value.int .u8)).toArray) ∧ Below w.heap.size w w' :=
  put_at w _ A n c k v (k : Int) _ zs hz (Nat.le_refl _) hk (by omega) hv0 (if_neg (by omega)) (if_neg (by omega))
end Go.Proofs.Ytnligeelbajnpaa
