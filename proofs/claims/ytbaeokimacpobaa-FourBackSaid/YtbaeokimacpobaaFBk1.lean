/-
  FourBack: a piece of its walk.
-/
import Derived.Test.YtbaeokimacpobaaFAwk
import Derived.Test.YtbaeokimacpobaaFFrm
namespace Go.Proofs.Ytbaeokimacpobaa.Back
open Go.ChangeShapes Go.WideShapes Go.ChangeAt Go.RowKit
set_option linter.unusedVariables false

set_option maxRecDepth 100000 in
set_option maxHeartbeats 8000000 in
theorem walk_1 (w : World) (a0_0 : Int) (w0_0 : (Lit.int .i64 a0_0).wf = true) (a0_1 : Int) (w0_1 : (Lit.int .i64 a0_1).wf = true) (a0_2 : Bool) (a0_3 : Bool) (a0_4 : Int) (w0_4 : (Lit.int .i64 a0_4).wf = true) (a0_5 : Int) (w0_5 : (Lit.int .i64 a0_5).wf = true) (a0_6 : Int) (w0_6 : (Lit.int .i64 a0_6).wf = true) (a0_7 : Bool) (a0_8 : Int) (w0_8 : (Lit.int .u64 a0_8).wf = true) (a0_9 : Int) (w0_9 : (Lit.int .u64 a0_9).wf = true) (a0_10 : Bool) (a0_11 : Int) (w0_11 : (Lit.int .u64 a0_11).wf = true) (a0_12 : Int) (w0_12 : (Lit.int .u64 a0_12).wf = true) (a0_13 : ByteArray) (w0_13 : a0_13.size ≤ maxLen) (a0_14 : ByteArray) (w0_14 : a0_14.size ≤ maxLen) (a1 : ByteArray) (w1 : a1.size ≤ maxLen) (a2 : Int) (w2 : (Lit.int .i64 a2).wf = true) (hok : Rg (⟨a0_0, a0_1, a0_2, a0_3, a0_4, a0_5, a0_6, a0_7, a0_8, a0_9, a0_10, a0_11, a0_12, a0_13, a0_14⟩ : Pk) ∧ 20 + a0_13.size + a0_14.size ≤ 65535) (hb1 : 5000 < a1.size) (hc1 : a2 < 0) :
    Calls Try.prog 6 #[.agg #[.int .i64 a0_0, .int .i64 a0_1, .bool a0_2, .bool a0_3, .int .i64 a0_4, .int .i64 a0_5, .int .i64 a0_6, .bool a0_7, .int .u64 a0_8, .int .u64 a0_9, .bool a0_10, .int .u64 a0_11, .int .u64 a0_12, .string a0_13, .string a0_14], .string a1, .int .i64 a2] w fun e w' => e = .returned (.bool true) ∧ Below w.heap.size w w' := by
  have hw : Wf (⟨a0_0, a0_1, a0_2, a0_3, a0_4, a0_5, a0_6, a0_7, a0_8, a0_9, a0_10, a0_11, a0_12, a0_13, a0_14⟩ : Pk) := ⟨wf_nonneg w0_9, wf_nonneg w0_12⟩
  have HP : Hid (∀ (W : World) (g : Nat), Blk W g 26 #[.int .i64 a0_0, .int .i64 a0_1, .bool a0_2, .bool a0_3, .int .i64 a0_4, .int .i64 a0_5, .int .i64 a0_6, .bool a0_7, .int .u64 a0_8, .int .u64 a0_9, .bool a0_10, .int .u64 a0_11, .int .u64 a0_12, .string a0_13, .string a0_14] → _) := Lib.hid (fun W g (h : Blk W g 26 (fcs (⟨a0_0, a0_1, a0_2, a0_3, a0_4, a0_5, a0_6, a0_7, a0_8, a0_9, a0_10, a0_11, a0_12, a0_13, a0_14⟩ : Pk))) => h.f15)
  have HA := Lib.hid (fun W => fawake_yes W)
  have HL0 := Lib.hid (fun W => lay_any (⟨a0_0, a0_1, a0_2, a0_3, a0_4, a0_5, a0_6, a0_7, a0_8, a0_9, a0_10, a0_11, a0_12, a0_13, a0_14⟩ : Pk) hw W)
  have HL : Hid (∀ W : World, Calls Try.prog 9 #[.agg #[.int .i64 a0_0, .int .i64 a0_1, .bool a0_2, .bool a0_3, .int .i64 a0_4, .int .i64 a0_5, .int .i64 a0_6, .bool a0_7, .int .u64 a0_8, .int .u64 a0_9, .bool a0_10, .int .u64 a0_11, .int .u64 a0_12, .string a0_13, .string a0_14]] W fun e w' => e = .returned (lyRV (⟨a0_0, a0_1, a0_2, a0_3, a0_4, a0_5, a0_6, a0_7, a0_8, a0_9, a0_10, a0_11, a0_12, a0_13, a0_14⟩ : Pk)) ∧ Below W.heap.size W w') := Lib.hid HL0.out
  have K0 := Lib.hid (Blk.new w 26 #[.int .i64 a0_0, .int .i64 a0_1, .bool a0_2, .bool a0_3, .int .i64 a0_4, .int .i64 a0_5, .int .i64 a0_6, .bool a0_7, .int .u64 a0_8, .int .u64 a0_9, .bool a0_10, .int .u64 a0_11, .int .u64 a0_12, .string a0_13, .string a0_14])
  have L0 := Lib.hid ((Below.refl _ w).alloc (Nat.le_refl _) (.cells #[.int .i64 a0_0, .int .i64 a0_1, .bool a0_2, .bool a0_3, .int .i64 a0_4, .int .i64 a0_5, .int .i64 a0_6, .bool a0_7, .int .u64 a0_8, .int .u64 a0_9, .bool a0_10, .int .u64 a0_11, .int .u64 a0_12, .string a0_13, .string a0_14] 26))
  clear HL0 w0_0 w0_1 w0_4 w0_5 w0_6 w0_8 w0_9 w0_11 w0_12 w0_13 w0_14
  have hcut : -9223372036854775808 ≤ a2 ∧ a2 ≤ 9223372036854775807 := by
    simp [Lit.wf, IntKind.min, IntKind.max, IntKind.bits, IntKind.signed] at w2; omega
  clear w1 w2
  obtain ⟨B, hb2⟩ : ∃ B : ByteArray, B = a1.extract 0 5000 := ⟨_, rfl⟩
  have hBs : B.size ≤ 5000 := by rw [hb2, ByteArray.size_extract]; omega
  obtain ⟨CU, hc2⟩ : ∃ C : Int, C = -(a2 + 1) := ⟨_, rfl⟩
  have hC0 : 0 ≤ CU ∧ CU ≤ 9223372036854775807 := by omega
  obtain ⟨hrg, ht⟩ := hok
  have hR := ly_ok hrg ht
  have hsz := ly_size (p := (⟨a0_0, a0_1, a0_2, a0_3, a0_4, a0_5, a0_6, a0_7, a0_8, a0_9, a0_10, a0_11, a0_12, a0_13, a0_14⟩ : Pk)) (chk (⟨a0_0, a0_1, a0_2, a0_3, a0_4, a0_5, a0_6, a0_7, a0_8, a0_9, a0_10, a0_11, a0_12, a0_13, a0_14⟩ : Pk))
  have HT1 := Lib.hid (fun W => take_any (strOfNums (hdN (⟨a0_0, a0_1, a0_2, a0_3, a0_4, a0_5, a0_6, a0_7, a0_8, a0_9, a0_10, a0_11, a0_12, a0_13, a0_14⟩ : Pk) (chk (⟨a0_0, a0_1, a0_2, a0_3, a0_4, a0_5, a0_6, a0_7, a0_8, a0_9, a0_10, a0_11, a0_12, a0_13, a0_14⟩ : Pk))) ++ a0_14 ++ B) (by rw [ByteArray.size_append, show (strOfNums (hdN (⟨a0_0, a0_1, a0_2, a0_3, a0_4, a0_5, a0_6, a0_7, a0_8, a0_9, a0_10, a0_11, a0_12, a0_13, a0_14⟩ : Pk) (chk (⟨a0_0, a0_1, a0_2, a0_3, a0_4, a0_5, a0_6, a0_7, a0_8, a0_9, a0_10, a0_11, a0_12, a0_13, a0_14⟩ : Pk))) ++ a0_14).size = 20 + a0_13.size + a0_14.size from hsz]; omega) W)
  unfold tkRV at HT1
  rw [tk_lyR (⟨a0_0, a0_1, a0_2, a0_3, a0_4, a0_5, a0_6, a0_7, a0_8, a0_9, a0_10, a0_11, a0_12, a0_13, a0_14⟩ : Pk) hrg hw ht B] at HT1
  have HT2 := Lib.hid (fun k W => take_any ((strOfNums (hdN (⟨a0_0, a0_1, a0_2, a0_3, a0_4, a0_5, a0_6, a0_7, a0_8, a0_9, a0_10, a0_11, a0_12, a0_13, a0_14⟩ : Pk) (chk (⟨a0_0, a0_1, a0_2, a0_3, a0_4, a0_5, a0_6, a0_7, a0_8, a0_9, a0_10, a0_11, a0_12, a0_13, a0_14⟩ : Pk))) ++ a0_14).extract 0 k) (by rw [ByteArray.size_extract, show (strOfNums (hdN (⟨a0_0, a0_1, a0_2, a0_3, a0_4, a0_5, a0_6, a0_7, a0_8, a0_9, a0_10, a0_11, a0_12, a0_13, a0_14⟩ : Pk) (chk (⟨a0_0, a0_1, a0_2, a0_3, a0_4, a0_5, a0_6, a0_7, a0_8, a0_9, a0_10, a0_11, a0_12, a0_13, a0_14⟩ : Pk))) ++ a0_14).size = 20 + a0_13.size + a0_14.size from hsz]; omega) W)
  have HCt := Lib.hid (fun k hk => tk_cutR (⟨a0_0, a0_1, a0_2, a0_3, a0_4, a0_5, a0_6, a0_7, a0_8, a0_9, a0_10, a0_11, a0_12, a0_13, a0_14⟩ : Pk) hrg hw ht k hk)
  unfold lyRV at HL
  rw [hR] at HL
  obtain ⟨S, hS⟩ : ∃ S, strOfNums (hdN (⟨a0_0, a0_1, a0_2, a0_3, a0_4, a0_5, a0_6, a0_7, a0_8, a0_9, a0_10, a0_11, a0_12, a0_13, a0_14⟩ : Pk) (chk (⟨a0_0, a0_1, a0_2, a0_3, a0_4, a0_5, a0_6, a0_7, a0_8, a0_9, a0_10, a0_11, a0_12, a0_13, a0_14⟩ : Pk))) ++ a0_14 = S := ⟨_, rfl⟩
  have hS' : strOfNums (hdN (⟨a0_0, a0_1, a0_2, a0_3, a0_4, a0_5, a0_6, a0_7, a0_8, a0_9, a0_10, a0_11, a0_12, a0_13, a0_14⟩ : Pk) (chk (⟨a0_0, a0_1, a0_2, a0_3, a0_4, a0_5, a0_6, a0_7, a0_8, a0_9, a0_10, a0_11, a0_12, a0_13, a0_14⟩ : Pk))) ++ ((⟨a0_0, a0_1, a0_2, a0_3, a0_4, a0_5, a0_6, a0_7, a0_8, a0_9, a0_10, a0_11, a0_12, a0_13, a0_14⟩ : Pk)).d = S := hS
  rw [hS] at HT1 HT2
  rw [hS'] at HL HCt hsz
  have hN : S.size = 20 + a0_13.size + a0_14.size := hsz
  obtain ⟨N, hNN⟩ : ∃ N, S.size = N := ⟨_, rfl⟩
  have hN1 : 20 ≤ N := by omega
  have hN2 : N ≤ 70000 := by omega
  have hmo1 : 0 ≤ CU % (N : Int) := Int.emod_nonneg _ (by omega)
  have hmo2 : CU % (N : Int) < N := Int.emod_lt_of_pos _ (by omega)
  obtain ⟨K, hK⟩ : ∃ K : Nat, (K : Int) = CU % N := ⟨(CU % N).toNat, by omega⟩
  have hKN : K < N := by omega
  have HT3 := Lib.hid (HT2.out K)
  have hce := HCt.out K (by show K < 20 + a0_13.size + a0_14.size; rw [← hN, hNN]; exact hKN)
  unfold tkRV at HT3
  obtain ⟨q, hq⟩ : ∃ q, (tkR (S.extract 0 K)).1 = q := ⟨_, rfl⟩
  obtain ⟨E, hE⟩ : ∃ E, (tkR (S.extract 0 K)).2 = E := ⟨_, rfl⟩
  rw [hq, hE] at HT3
  rw [hE] at hce
  have hE0 : (E == 0) = false := by simpa using hce
  have HNE := Lib.hid hce
  have hadd : ∀ W : World, (Op.stringOp .add S B).run Try.prog W = .ok (.string (S ++ B)) W := fun W => run_string_add_sum _ _ _ (by omega)
  have hKi : (K : Int) ≤ N := by omega
  have hKi0 : (0 : Int) ≤ K := by omega
  have hmod : Int.tmod CU N = K := by rw [Int.tmod_eq_emod_of_nonneg hC0.1]; exact hK.symm
  have hmod2 : CU % (N : Int) = K := hK.symm
  have hN0 : ¬ (N : Int) = 0 := by omega
  have hNpos : (0 : Int) < N := by omega
  obtain ⟨q1, q2, q3, q4, q5, q6, q7, q8, q9, q10, q11, q12, q13, q14, q15⟩ := q
  clear HT2 HCt hR hS hS' hsz hN hrg ht hw hq hE hce hK
  have j1 : (5000 : Int) < a1.size := by omega
  have j2 : a1.extract 0 5000 = B := hb2.symm
  have j3 : (5000 : Int) ≤ a1.size := by omega
  clear hb1 hb2
  have j4 : IntKind.i64.wrap (a2 + 1) = a2 + 1 := by rw [IntKind.wrap_i64]; omega
  have j5 : wrap64 (-(a2 + 1)) = CU := by unfold wrap64; omega
  clear hc2
  clear hBs hC0 hcut
  go_enter Try.func6, Try.ntmps6
  go_wp2_with fail
  refine Calls.mono (HA.out _) ?_
  rintro e w1 ⟨rfl, hb⟩
  have L1 := Lib.hid (L0.out.trans (hb.mono L0.out.size))
  have K1 := Lib.hid (K0.out.below hb K0.out.lt)
  clear hb
  obtain ⟨f0, f1, f2, f3, f4, f5, f6, f7, f8, f9, f10, f11, f12, f13, f14⟩ := HP.out _ _ K1.out
  go_wp2_with fail
  refine Calls.mono (HL.out _) ?_
  rintro e w2 ⟨rfl, hb⟩
  have L2 := Lib.hid (L1.out.trans (hb.mono L1.out.size))
  have K2 := Lib.hid (K1.out.below hb K1.out.lt)
  clear hb f0 f1 f2 f3 f4 f5 f6 f7 f8 f9 f10 f11 f12 f13 f14
  go_wp2_with fail
  refine Calls.mono (HT1.out _) ?_
  rintro e w3 ⟨rfl, hb⟩
  have L3 := Lib.hid ((L2.out.trans (hb.mono L2.out.size)).alloc (L2.out.trans (hb.mono L2.out.size)).size (.cells #[.int .i64 a0_0, .int .i64 a0_1, .bool a0_2, .bool a0_3, .int .i64 a0_4, .int .i64 a0_5, .int .i64 a0_6, .bool a0_7, .int .u64 a0_8, .int .u64 a0_9, .bool a0_10, .int .u64 a0_11, .int .u64 a0_12, .string a0_13, .string a0_14] 26))
  have K3 := Lib.hid ((K2.out.below hb K2.out.lt).alloc (.cells #[.int .i64 a0_0, .int .i64 a0_1, .bool a0_2, .bool a0_3, .int .i64 a0_4, .int .i64 a0_5, .int .i64 a0_6, .bool a0_7, .int .u64 a0_8, .int .u64 a0_9, .bool a0_10, .int .u64 a0_11, .int .u64 a0_12, .string a0_13, .string a0_14] 26))
  have P3 := Lib.hid (Blk.new w3 26 #[.int .i64 a0_0, .int .i64 a0_1, .bool a0_2, .bool a0_3, .int .i64 a0_4, .int .i64 a0_5, .int .i64 a0_6, .bool a0_7, .int .u64 a0_8, .int .u64 a0_9, .bool a0_10, .int .u64 a0_11, .int .u64 a0_12, .string a0_13, .string a0_14])
  clear hb
  go_wp2_with fail
  refine Calls.mono (HT3.out _) ?_
  rintro e w4 ⟨rfl, hb⟩
  have L4 := Lib.hid ((L3.out.trans (hb.mono L3.out.size)).alloc (L3.out.trans (hb.mono L3.out.size)).size (.cells #[.int .i64 q1, .int .i64 q2, .bool q3, .bool q4, .int .i64 q5, .int .i64 q6, .int .i64 q7, .bool q8, .int .u64 q9, .int .u64 q10, .bool q11, .int .u64 q12, .int .u64 q13, .string q14, .string q15] 26))
  have K4 := ((K3.out.below hb K3.out.lt).alloc (.cells #[.int .i64 q1, .int .i64 q2, .bool q3, .bool q4, .int .i64 q5, .int .i64 q6, .int .i64 q7, .bool q8, .int .u64 q9, .int .u64 q10, .bool q11, .int .u64 q12, .int .u64 q13, .string q14, .string q15] 26))
  have P4 := ((P3.out.below hb P3.out.lt).alloc (.cells #[.int .i64 q1, .int .i64 q2, .bool q3, .bool q4, .int .i64 q5, .int .i64 q6, .int .i64 q7, .bool q8, .int .u64 q9, .int .u64 q10, .bool q11, .int .u64 q12, .int .u64 q13, .string q14, .string q15] 26))
  obtain ⟨f0, f1, f2, f3, f4, f5, f6, f7, f8, f9, f10, f11, f12, f13, f14⟩ := HP.out _ _ K4
  obtain ⟨g0, g1, g2, g3, g4, g5, g6, g7, g8, g9, g10, g11, g12, g13, g14⟩ := HP.out _ _ P4
  clear hb K4 P4
  go_wp2
  go_ret
  exact ⟨ret_bool (by simpa using HNE.out), L4.out⟩
end Go.Proofs.Ytbaeokimacpobaa.Back
