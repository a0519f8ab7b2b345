/-
  SixBack: a piece of its walk.
-/
import Derived.Test.YtbhddodghbhjiaaSAw
import Derived.Test.YtbhddodghbhjiaaSFrm
namespace Go.Proofs.Ytbhddodghbhjiaa.Back
open Go.ChangeShapes Go.WideShapes Go.ChangeAt Go.RowKit
set_option linter.unusedVariables false

set_option maxRecDepth 100000 in
set_option maxHeartbeats 8000000 in
theorem walk_3 (w : World) (a0_0 : Int) (w0_0 : (Lit.int .i64 a0_0).wf = true) (a0_1 : Int) (w0_1 : (Lit.int .i64 a0_1).wf = true) (a0_2 : Int) (w0_2 : (Lit.int .i64 a0_2).wf = true) (a0_3 : Int) (w0_3 : (Lit.int .i64 a0_3).wf = true) (a0_4 : Bool) (a0_5 : Int) (w0_5 : (Lit.int .u64 a0_5).wf = true) (a0_6 : Int) (w0_6 : (Lit.int .u64 a0_6).wf = true) (a0_7 : Bool) (a0_8 : Int) (w0_8 : (Lit.int .u64 a0_8).wf = true) (a0_9 : Int) (w0_9 : (Lit.int .u64 a0_9).wf = true) (a0_10 : ByteArray) (w0_10 : a0_10.size ≤ maxLen) (a1 : ByteArray) (w1 : a1.size ≤ maxLen) (a2 : Int) (w2 : (Lit.int .i64 a2).wf = true) (hok : RgS (⟨a0_0, a0_1, a0_2, a0_3, a0_4, a0_5, a0_6, a0_7, a0_8, a0_9, a0_10⟩ : Sx) ∧ a0_10.size ≤ 65535) (hb1 : ¬ 5000 < a1.size) (hc1 : a2 < 0) :
    Calls Try.prog 7 #[.agg #[.int .i64 a0_0, .int .i64 a0_1, .int .i64 a0_2, .int .i64 a0_3, .bool a0_4, .int .u64 a0_5, .int .u64 a0_6, .bool a0_7, .int .u64 a0_8, .int .u64 a0_9, .string a0_10], .string a1, .int .i64 a2] w fun e w' => e = .returned (.bool true) ∧ Below w.heap.size w w' := by
  have hw : WfS (⟨a0_0, a0_1, a0_2, a0_3, a0_4, a0_5, a0_6, a0_7, a0_8, a0_9, a0_10⟩ : Sx) := ⟨wf_u6 w0_5, wf_u6 w0_6, wf_u6 w0_8, wf_u6 w0_9⟩
  have HP : Hid (∀ (W : World) (g : Nat), Blk W g 35 #[.int .i64 a0_0, .int .i64 a0_1, .int .i64 a0_2, .int .i64 a0_3, .bool a0_4, .int .u64 a0_5, .int .u64 a0_6, .bool a0_7, .int .u64 a0_8, .int .u64 a0_9, .string a0_10] → _) := Lib.hid (fun W g (h : Blk W g 35 (scs (⟨a0_0, a0_1, a0_2, a0_3, a0_4, a0_5, a0_6, a0_7, a0_8, a0_9, a0_10⟩ : Sx))) => h.s11)
  have HA := Lib.hid (fun W => sawake_yes W)
  have HL0 := Lib.hid (fun W => slay_any (⟨a0_0, a0_1, a0_2, a0_3, a0_4, a0_5, a0_6, a0_7, a0_8, a0_9, a0_10⟩ : Sx) hw W)
  have HL : Hid (∀ W : World, Calls Try.prog 16 #[.agg #[.int .i64 a0_0, .int .i64 a0_1, .int .i64 a0_2, .int .i64 a0_3, .bool a0_4, .int .u64 a0_5, .int .u64 a0_6, .bool a0_7, .int .u64 a0_8, .int .u64 a0_9, .string a0_10]] W fun e w' => e = .returned (lySV (⟨a0_0, a0_1, a0_2, a0_3, a0_4, a0_5, a0_6, a0_7, a0_8, a0_9, a0_10⟩ : Sx)) ∧ Below W.heap.size W w') := Lib.hid HL0.out
  have K0 := Lib.hid (Blk.new w 35 #[.int .i64 a0_0, .int .i64 a0_1, .int .i64 a0_2, .int .i64 a0_3, .bool a0_4, .int .u64 a0_5, .int .u64 a0_6, .bool a0_7, .int .u64 a0_8, .int .u64 a0_9, .string a0_10])
  have L0 := Lib.hid ((Below.refl _ w).alloc (Nat.le_refl _) (.cells #[.int .i64 a0_0, .int .i64 a0_1, .int .i64 a0_2, .int .i64 a0_3, .bool a0_4, .int .u64 a0_5, .int .u64 a0_6, .bool a0_7, .int .u64 a0_8, .int .u64 a0_9, .string a0_10] 35))
  clear HL0 w0_0 w0_1 w0_2 w0_3 w0_5 w0_6 w0_8 w0_9 w0_10
  have hcut : -9223372036854775808 ≤ a2 ∧ a2 ≤ 9223372036854775807 := by
    simp [Lit.wf, IntKind.min, IntKind.max, IntKind.bits, IntKind.signed] at w2; omega
  clear w1 w2
  obtain ⟨B, hb2⟩ : ∃ B : ByteArray, B = a1 := ⟨_, rfl⟩
  have hBs : B.size ≤ 5000 := by rw [hb2]; omega
  obtain ⟨CU, hc2⟩ : ∃ C : Int, C = -(a2 + 1) := ⟨_, rfl⟩
  have hC0 : 0 ≤ CU ∧ CU ≤ 9223372036854775807 := by omega
  obtain ⟨hrg, ht⟩ := hok
  have hR := lyS_ok (rgS_iff.2 hrg) ht
  have hsz := lyB_size (⟨a0_0, a0_1, a0_2, a0_3, a0_4, a0_5, a0_6, a0_7, a0_8, a0_9, a0_10⟩ : Sx)
  have HT1 := Lib.hid (fun W => stake_any (lyB (⟨a0_0, a0_1, a0_2, a0_3, a0_4, a0_5, a0_6, a0_7, a0_8, a0_9, a0_10⟩ : Sx) ++ B) (by rw [ByteArray.size_append, hsz]; show ((40 + a0_10.size + B.size : Nat) : Int) ≤ _; omega) W)
  unfold tkSV at HT1
  rw [tk_lyS (⟨a0_0, a0_1, a0_2, a0_3, a0_4, a0_5, a0_6, a0_7, a0_8, a0_9, a0_10⟩ : Sx) hrg hw ht B] at HT1
  have HT2 := Lib.hid (fun k W => stake_any ((lyB (⟨a0_0, a0_1, a0_2, a0_3, a0_4, a0_5, a0_6, a0_7, a0_8, a0_9, a0_10⟩ : Sx)).extract 0 k) (by rw [ByteArray.size_extract, hsz]; show ((min k (40 + a0_10.size) - 0 : Nat) : Int) ≤ _; omega) W)
  have HCt := Lib.hid (fun k hk => tk_cutS (⟨a0_0, a0_1, a0_2, a0_3, a0_4, a0_5, a0_6, a0_7, a0_8, a0_9, a0_10⟩ : Sx) hrg hw ht k hk)
  unfold lySV at HL
  rw [hR] at HL
  obtain ⟨S, hS⟩ : ∃ S, lyB (⟨a0_0, a0_1, a0_2, a0_3, a0_4, a0_5, a0_6, a0_7, a0_8, a0_9, a0_10⟩ : Sx) = S := ⟨_, rfl⟩
  rw [hS] at HT1 HT2 HL HCt hsz
  have hN : S.size = 40 + a0_10.size := hsz
  obtain ⟨N, hNN⟩ : ∃ N, S.size = N := ⟨_, rfl⟩
  have hN1 : 40 ≤ N := by omega
  have hN2 : N ≤ 70000 := by omega
  have hmo1 : 0 ≤ CU % (N : Int) := Int.emod_nonneg _ (by omega)
  have hmo2 : CU % (N : Int) < N := Int.emod_lt_of_pos _ (by omega)
  obtain ⟨K, hK⟩ : ∃ K : Nat, (K : Int) = CU % N := ⟨(CU % N).toNat, by omega⟩
  have hKN : K < N := by omega
  have HT3 := Lib.hid (HT2.out K)
  have hce := HCt.out K (by show K < 40 + a0_10.size; rw [← hN, hNN]; exact hKN)
  unfold tkSV at HT3
  rw [hce] at HT3
  replace HT3 : Hid (∀ W : World, Calls Try.prog 18 #[.string (S.extract 0 K)] W fun e w' => e = .returned (.tuple #[.agg #[.int .i64 0, .int .i64 0, .int .i64 0, .int .i64 0, .bool false, .int .u64 0, .int .u64 0, .bool false, .int .u64 0, .int .u64 0, .string ⟨#[]⟩], .int .i64 61]) ∧ Below W.heap.size W w') := HT3
  replace HT1 : Hid (∀ W : World, Calls Try.prog 18 #[.string (S ++ B)] W fun e w' => e = .returned (.tuple #[.agg #[.int .i64 a0_0, .int .i64 a0_1, .int .i64 a0_2, .int .i64 a0_3, .bool a0_4, .int .u64 a0_5, .int .u64 a0_6, .bool a0_7, .int .u64 a0_8, .int .u64 a0_9, .string a0_10], .int .i64 0]) ∧ Below W.heap.size W w') := HT1
  have hadd : ∀ W : World, (Op.stringOp .add S B).run Try.prog W = .ok (.string (S ++ B)) W := fun W => run_string_add_sum _ _ _ (by omega)
  have hKi : (K : Int) ≤ N := by omega
  have hKi0 : (0 : Int) ≤ K := by omega
  have hmod : Int.tmod CU N = K := by rw [Int.tmod_eq_emod_of_nonneg hC0.1]; exact hK.symm
  have hmod2 : CU % (N : Int) = K := hK.symm
  have hN0 : ¬ (N : Int) = 0 := by omega
  have hNpos : (0 : Int) < N := by omega
  clear HT2 HCt hR hS hsz hN hrg ht hw hce hK
  have j1 : ¬ (5000 : Int) < a1.size := by omega
  subst hb2
  clear hb1
  have j4 : IntKind.i64.wrap (a2 + 1) = a2 + 1 := by rw [IntKind.wrap_i64]; omega
  have j5 : wrap64 (-(a2 + 1)) = CU := by unfold wrap64; omega
  clear hc2
  clear hBs hC0 hcut
  go_enter Try.func7, Try.ntmps7
  go_wp2_with fail
  refine Calls.mono (HA.out _) ?_
  rintro e w1 ⟨rfl, hb⟩
  have L1 := Lib.hid (L0.out.trans (hb.mono L0.out.size))
  have K1 := Lib.hid (K0.out.below hb K0.out.lt)
  clear hb
  obtain ⟨f0, f1, f2, f3, f4, f5, f6, f7, f8, f9, f10⟩ := HP.out _ _ K1.out
  go_wp2_with fail
  refine Calls.mono (HL.out _) ?_
  rintro e w2 ⟨rfl, hb⟩
  have L2 := Lib.hid (L1.out.trans (hb.mono L1.out.size))
  have K2 := Lib.hid (K1.out.below hb K1.out.lt)
  clear hb f0 f1 f2 f3 f4 f5 f6 f7 f8 f9 f10
  go_wp2_with fail
  refine Calls.mono (HT1.out _) ?_
  rintro e w3 ⟨rfl, hb⟩
  have L3 := Lib.hid ((L2.out.trans (hb.mono L2.out.size)).alloc (L2.out.trans (hb.mono L2.out.size)).size (.cells #[.int .i64 a0_0, .int .i64 a0_1, .int .i64 a0_2, .int .i64 a0_3, .bool a0_4, .int .u64 a0_5, .int .u64 a0_6, .bool a0_7, .int .u64 a0_8, .int .u64 a0_9, .string a0_10] 35))
  have K3 := Lib.hid ((K2.out.below hb K2.out.lt).alloc (.cells #[.int .i64 a0_0, .int .i64 a0_1, .int .i64 a0_2, .int .i64 a0_3, .bool a0_4, .int .u64 a0_5, .int .u64 a0_6, .bool a0_7, .int .u64 a0_8, .int .u64 a0_9, .string a0_10] 35))
  have P3 := Lib.hid (Blk.new w3 35 #[.int .i64 a0_0, .int .i64 a0_1, .int .i64 a0_2, .int .i64 a0_3, .bool a0_4, .int .u64 a0_5, .int .u64 a0_6, .bool a0_7, .int .u64 a0_8, .int .u64 a0_9, .string a0_10])
  clear hb
  go_wp2_with fail
  refine Calls.mono (HT3.out _) ?_
  rintro e w4 ⟨rfl, hb⟩
  have L4 := Lib.hid ((L3.out.trans (hb.mono L3.out.size)).alloc (L3.out.trans (hb.mono L3.out.size)).size (.cells #[.int .i64 0, .int .i64 0, .int .i64 0, .int .i64 0, .bool false, .int .u64 0, .int .u64 0, .bool false, .int .u64 0, .int .u64 0, .string ⟨#[]⟩] 35))
  have K4 := ((K3.out.below hb K3.out.lt).alloc (.cells #[.int .i64 0, .int .i64 0, .int .i64 0, .int .i64 0, .bool false, .int .u64 0, .int .u64 0, .bool false, .int .u64 0, .int .u64 0, .string ⟨#[]⟩] 35))
  have P4 := ((P3.out.below hb P3.out.lt).alloc (.cells #[.int .i64 0, .int .i64 0, .int .i64 0, .int .i64 0, .bool false, .int .u64 0, .int .u64 0, .bool false, .int .u64 0, .int .u64 0, .string ⟨#[]⟩] 35))
  obtain ⟨f0, f1, f2, f3, f4, f5, f6, f7, f8, f9, f10⟩ := HP.out _ _ K4
  obtain ⟨g0, g1, g2, g3, g4, g5, g6, g7, g8, g9, g10⟩ := HP.out _ _ P4
  clear hb K4 P4
  go_wp2
  go_ret
  exact ⟨rfl, L4.out⟩
end Go.Proofs.Ytbhddodghbhjiaa.Back
