/-
  One byte of a message changed, or one more: pure; a byte stored into '[]byte(s)'.
-/
import Derived.Test.YtljdebpemdjliaaILw
namespace Go.Proofs.Ytljdebpemdjliaa
open Go.RowKit
set_option linter.unusedVariables false

theorem and127 (n : Int) : 0 ≤ bits .and .i64 n 127 ∧ bits .and .i64 n 127 ≤ 127 := by
  have h : ((BitVec.ofInt 64 n) &&& (BitVec.ofInt 64 127)).toNat ≤ 127 := by
    rw [BitVec.toNat_and]
    exact Nat.le_trans Nat.and_le_right (by decide)
  show 0 ≤ IntKind.i64.wrap (((BitVec.ofInt 64 n) &&& (BitVec.ofInt 64 127)).toNat : Int) ∧ IntKind.i64.wrap (((BitVec.ofInt 64 n) &&& (BitVec.ofInt 64 127)).toNat : Int) ≤ 127
  rw [IntKind.wrap_i64]
  omega
theorem xor_off (x d : Int) (hx : 0 ≤ x ∧ x ≤ 255) (hd : 1 ≤ d ∧ d ≤ 128) : 0 ≤ bits .xor .u8 x d ∧ bits .xor .u8 x d ≤ 255 ∧ x ≠ bits .xor .u8 x d := by
  rw [u8_xor x d hx.1 (by omega) (by omega) (by omega)]
  have h1 : x.toNat < 2 ^ 8 := by omega
  have h2 : d.toNat < 2 ^ 8 := by omega
  have h3 := Nat.xor_lt_two_pow h1 h2
  refine ⟨by omega, by omega, fun h => ?_⟩
  have h4 : x.toNat ^^^ d.toNat = x.toNat := by omega
  have h5 : d.toNat = 0 := by
    have h6 : x.toNat ^^^ (x.toNat ^^^ d.toNat) = x.toNat ^^^ x.toNat := by rw [h4]
    rwa [← Nat.xor_assoc, Nat.xor_self, Nat.zero_xor] at h6
  omega
theorem conv_one (w : World) (X : Int) : (convert 39 9 (.slice (some ⟨w.heap.size, 0, none⟩) 1 1)).run Try.prog (w.alloc (.cells #[.int .u8 X] 5)) = .ok (.string (strOfNums [X])) (w.alloc (.cells #[.int .u8 X] 5)) := by
  refine run_convert_bytes_arg _ 39 5 (by kernel_rfl) (by kernel_rfl) _ 0 1 1 [X] rfl (fun i hi => ?_) 9 (by kernel_rfl)
  rw [(Blk.new w 5 #[.int .u8 X]).cell]
  obtain rfl : i = 0 := by omega
  rfl
theorem bw_frozen (w : World) (s : ByteArray) (K : Nat) (h : K < s.size) : (Lib.bytesWorld w 5 s).frozen? ⟨w.heap.size, K, none⟩ = false := by
  have e := Lib.bytesWorld_at_new w 5 s
  have hs : s.size ≤ (Lib.bytesCells w 5 s).size := by simp [Lib.bytesCells]
  unfold World.frozen?
  simp [e]
  omega
theorem ri_set {w : World} {B n g : Nat} {zs : List Int} (h : RI .u8 w B (some ⟨g, 0, none⟩) n zs) (K : Nat) (hK : K < n) (y : Int) (hy : 0 ≤ y ∧ y ≤ 255) : RI .u8 (w.setCell ⟨g, K, none⟩ (.int .u8 y)) B (some ⟨g, 0, none⟩) n (zs.set K y) := by
  obtain ⟨h1, h2, h3⟩ := h
  refine ⟨by rw [List.length_set]; exact h1, fun hn => ?_, fun z hz => ?_⟩
  · obtain ⟨b, o, e, hb, hc⟩ := h2 hn
    injection e with e
    injection e with e1 e2
    subst e1 e2
    refine ⟨g, 0, rfl, hb, fun j z hz => ?_⟩
    rw [Nat.zero_add]
    rw [List.getElem?_set] at hz
    split at hz
    · rename_i hj
      subst hj
      split at hz
      · injection hz with hz
        subst hz
        have hlt : K < zs.length := by omega
        have hcK := hc K _ (List.getElem?_eq_getElem hlt)
        rw [Nat.zero_add] at hcK
        exact World.cell?_setCell_same w _ _ hcK
      · cases hz
    · rename_i hj
      have := hc j z hz
      rw [Nat.zero_add] at this
      rw [← this]
      exact World.cell?_setCell_other w _ _ _ (by intro h; injection h with _ h; exact hj h)
  · rcases List.mem_or_eq_of_mem_set hz with h | h
    · exact h3 z h
    · rw [h]; exact wf_u8 hy
/-- A changed byte is told. -/
theorem turned_no {m : Ms} {a b : Ad} (h : OkI m a b) (K : Nat) (x y : Int) (hx : (byt (bytI m a b))[K]? = some x) (hy : 0 ≤ y ∧ y ≤ 255) (hne : x ≠ y) : tkIR (strOfNums ((byt (bytI m a b)).set K y)) m.s a b = (noM, 72) := by
  have hK : K < (byt (bytI m a b)).length := (List.getElem?_eq_some_iff.1 hx).1
  have hb0 : By (byt (bytI m a b)) := byt_by _
  have hbs : By ((byt (bytI m a b)).set K y) := fun z hz => by
    rcases List.mem_or_eq_of_mem_set hz with h | h
    · exact hb0 z h
    · rw [h]; exact hy
  have hsz : (strOfNums ((byt (bytI m a b)).set K y)).size = 8 + m.d.size := by rw [strOfNums_size, List.length_set, byt_len, bytI_size]
  have hbt : byt (strOfNums ((byt (bytI m a b)).set K y)) = (byt (bytI m a b)).set K y := byt_str hbs
  refine tkI_sum h.2 (by omega) ?_
  unfold SumI
  rw [hbt, hsz, tot_set hx]
  have hf := fo_allI m (psI_nn m.s a b ((8 + m.d.size : Nat) : Int))
  rw [← bytI_byt] at hf
  have hp := psI_nn m.s a b ((8 + m.d.size : Nat) : Int)
  have h0 := tot_nonneg hb0.bysI 0
  have h1 := tot_nonneg hbs.bysI 0
  rw [tot_set hx] at h1
  have hxb : 0 ≤ x ∧ x ≤ 255 := hb0 x (List.mem_of_getElem? hx)
  obtain ⟨w1, w2, w3⟩ := wt_off (i := K) hxb hy hne
  exact fo_off (by omega) hf (by omega) (by omega) (by omega)
/-- A byte behind it that is none of nought is told. -/
theorem behind_no {m : Ms} {a b : Ad} (h : OkI m a b) (hs : m.s = false) (hl : (bytI m a b).size ≠ 65008) (y : Int) (hy : 1 ≤ y ∧ y ≤ 128) : tkIR (bytI m a b ++ strOfNums [y]) m.s a b = (noM, 72) := by
  have hby : By [y] := fun z hz => by rw [List.mem_singleton] at hz; subst hz; omega
  have hsz : (bytI m a b ++ strOfNums [y]).size = 8 + m.d.size + 1 := by rw [ByteArray.size_append, bytI_size, strOfNums_size]; rfl
  have hbt : byt (bytI m a b ++ strOfNums [y]) = byt (bytI m a b) ++ [y] := by
    have e := byt_str hby
    rw [show byt (bytI m a b ++ strOfNums [y]) = byt (bytI m a b) ++ byt (strOfNums [y]) by simp only [byt, ByteArray.data_append, Array.toList_append, List.map_append], e]
  refine tkI_sum h.2 (by omega) ?_
  unfold SumI
  rw [hbt, hsz, hs, tot_append]
  have hf := fo_allI m (psI_nn m.s a b ((8 + m.d.size : Nat) : Int))
  rw [← bytI_byt, hs] at hf
  have e0 : ∀ n : Int, psI false a b n = 0 := fun _ => rfl
  rw [e0] at hf
  rw [e0]
  have h0 := tot_nonneg (byt_by (bytI m a b)).bysI 0
  have e1 : 1 ≤ tot (0 + (byt (bytI m a b)).length) [y] ∧ tot (0 + (byt (bytI m a b)).length) [y] ≤ 32768 := by
    simp only [tot, wt]
    split <;> omega
  exact fo_off (by omega) hf (by omega) (by omega) (by omega)
end Go.Proofs.Ytljdebpemdjliaa
