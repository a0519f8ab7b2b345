/-
  SixBack: a piece of its walk.
-/
import Derived.Test.YtbhddodghbhjiaaSAw
import Derived.Test.YtbhddodghbhjiaaSFrm
namespace Go.Proofs.Ytbhddodghbhjiaa.Back
open Go.ChangeShapes Go.WideShapes Go.ChangeAt Go.RowKit
set_option linter.unusedVariables false

set_option maxRecDepth 100000 in
set_option maxHeartbeats 8000000 in
theorem walk_5 (w : World) (a0_0 : Int) (w0_0 : (Lit.int .i64 a0_0).wf = true) (a0_1 : Int) (w0_1 : (Lit.int .i64 a0_1).wf = true) (a0_2 : Int) (w0_2 : (Lit.int .i64 a0_2).wf = true) (a0_3 : Int) (w0_3 : (Lit.int .i64 a0_3).wf = true) (a0_4 : Bool) (a0_5 : Int) (w0_5 : (Lit.int .u64 a0_5).wf = true) (a0_6 : Int) (w0_6 : (Lit.int .u64 a0_6).wf = true) (a0_7 : Bool) (a0_8 : Int) (w0_8 : (Lit.int .u64 a0_8).wf = true) (a0_9 : Int) (w0_9 : (Lit.int .u64 a0_9).wf = true) (a0_10 : ByteArray) (w0_10 : a0_10.size ≤ maxLen) (a1 : ByteArray) (w1 : a1.size ≤ maxLen) (a2 : Int) (w2 : (Lit.int .i64 a2).wf = true) (hok : ¬ (RgS (⟨a0_0, a0_1, a0_2, a0_3, a0_4, a0_5, a0_6, a0_7, a0_8, a0_9, a0_10⟩ : Sx) ∧ a0_10.size ≤ 65535)) :
    Calls Try.prog 7 #[.agg #[.int .i64 a0_0, .int .i64 a0_1, .int .i64 a0_2, .int .i64 a0_3, .bool a0_4, .int .u64 a0_5, .int .u64 a0_6, .bool a0_7, .int .u64 a0_8, .int .u64 a0_9, .string a0_10], .string a1, .int .i64 a2] w fun e w' => e = .returned (.bool true) ∧ Below w.heap.size w w' := by
  have hw : WfS (⟨a0_0, a0_1, a0_2, a0_3, a0_4, a0_5, a0_6, a0_7, a0_8, a0_9, a0_10⟩ : Sx) := ⟨wf_u6 w0_5, wf_u6 w0_6, wf_u6 w0_8, wf_u6 w0_9⟩
  have HP : Hid (∀ (W : World) (g : Nat), Blk W g 35 #[.int .i64 a0_0, .int .i64 a0_1, .int .i64 a0_2, .int .i64 a0_3, .bool a0_4, .int .u64 a0_5, .int .u64 a0_6, .bool a0_7, .int .u64 a0_8, .int .u64 a0_9, .string a0_10] → _) := Lib.hid (fun W g (h : Blk W g 35 (scs (⟨a0_0, a0_1, a0_2, a0_3, a0_4, a0_5, a0_6, a0_7, a0_8, a0_9, a0_10⟩ : Sx))) => h.s11)
  have HA := Lib.hid (fun W => sawake_yes W)
  have HL0 := Lib.hid (fun W => slay_any (⟨a0_0, a0_1, a0_2, a0_3, a0_4, a0_5, a0_6, a0_7, a0_8, a0_9, a0_10⟩ : Sx) hw W)
  have HL : Hid (∀ W : World, Calls Try.prog 16 #[.agg #[.int .i64 a0_0, .int .i64 a0_1, .int .i64 a0_2, .int .i64 a0_3, .bool a0_4, .int .u64 a0_5, .int .u64 a0_6, .bool a0_7, .int .u64 a0_8, .int .u64 a0_9, .string a0_10]] W fun e w' => e = .returned (lySV (⟨a0_0, a0_1, a0_2, a0_3, a0_4, a0_5, a0_6, a0_7, a0_8, a0_9, a0_10⟩ : Sx)) ∧ Below W.heap.size W w') := Lib.hid HL0.out
  have K0 := Lib.hid (Blk.new w 35 #[.int .i64 a0_0, .int .i64 a0_1, .int .i64 a0_2, .int .i64 a0_3, .bool a0_4, .int .u64 a0_5, .int .u64 a0_6, .bool a0_7, .int .u64 a0_8, .int .u64 a0_9, .string a0_10])
  have L0 := Lib.hid ((Below.refl _ w).alloc (Nat.le_refl _) (.cells #[.int .i64 a0_0, .int .i64 a0_1, .int .i64 a0_2, .int .i64 a0_3, .bool a0_4, .int .u64 a0_5, .int .u64 a0_6, .bool a0_7, .int .u64 a0_8, .int .u64 a0_9, .string a0_10] 35))
  clear HL0 w0_0 w0_1 w0_2 w0_3 w0_5 w0_6 w0_8 w0_9 w0_10
  have hcut : -9223372036854775808 ≤ a2 ∧ a2 ≤ 9223372036854775807 := by
    simp [Lit.wf, IntKind.min, IntKind.max, IntKind.bits, IntKind.signed] at w2; omega
  clear w1 w2
  have hz : ∃ E, E ≠ 0 ∧ lySR (⟨a0_0, a0_1, a0_2, a0_3, a0_4, a0_5, a0_6, a0_7, a0_8, a0_9, a0_10⟩ : Sx) = (⟨#[]⟩, E) := by
    by_cases h1 : rgSB (⟨a0_0, a0_1, a0_2, a0_3, a0_4, a0_5, a0_6, a0_7, a0_8, a0_9, a0_10⟩ : Sx) = false
    · exact ⟨60, by decide, lyS_no h1⟩
    · have h1' : rgSB (⟨a0_0, a0_1, a0_2, a0_3, a0_4, a0_5, a0_6, a0_7, a0_8, a0_9, a0_10⟩ : Sx) = true := by simpa using h1
      by_cases h2 : 65535 < a0_10.size
      · exact ⟨62, by decide, lyS_long h1' h2⟩
      · exact absurd ⟨rgS_iff.1 h1', by omega⟩ hok
  obtain ⟨E, hE, hR⟩ := hz
  unfold lySV at HL
  rw [hR] at HL
  have hE0 : (E == 0) = false := by simpa using hE
  clear hcut hok hw hR hE
  by_cases hb : 5000 < a1.size
  · have j1 : (5000 : Int) < a1.size := by omega
    have j3 : (5000 : Int) ≤ a1.size := by omega
    clear hb
    go_enter Try.func7, Try.ntmps7
    go_wp2_with fail
    refine Calls.mono (HA.out _) ?_
    rintro e w1 ⟨rfl, hb⟩
    have L1 := Lib.hid (L0.out.trans (hb.mono L0.out.size))
    have K1 := Lib.hid (K0.out.below hb K0.out.lt)
    clear hb
    obtain ⟨f0, f1, f2, f3, f4, f5, f6, f7, f8, f9, f10⟩ := HP.out _ _ K1.out
    go_wp2_with fail
    refine Calls.mono (HL.out _) ?_
    rintro e w2 ⟨rfl, hb⟩
    have L2 := L1.out.trans (hb.mono L1.out.size)
    clear hb f0 f1 f2 f3 f4 f5 f6 f7 f8 f9 f10
    go_wp2
    go_ret
    exact ⟨ret_bool (by simp), L2⟩
  · have j1 : ¬ (5000 : Int) < a1.size := by omega
    clear hb
    go_enter Try.func7, Try.ntmps7
    go_wp2_with fail
    refine Calls.mono (HA.out _) ?_
    rintro e w1 ⟨rfl, hb⟩
    have L1 := Lib.hid (L0.out.trans (hb.mono L0.out.size))
    have K1 := Lib.hid (K0.out.below hb K0.out.lt)
    clear hb
    obtain ⟨f0, f1, f2, f3, f4, f5, f6, f7, f8, f9, f10⟩ := HP.out _ _ K1.out
    go_wp2_with fail
    refine Calls.mono (HL.out _) ?_
    rintro e w2 ⟨rfl, hb⟩
    have L2 := L1.out.trans (hb.mono L1.out.size)
    clear hb f0 f1 f2 f3 f4 f5 f6 f7 f8 f9 f10
    go_wp2
    go_ret
    exact ⟨ret_bool (by simp), L2⟩
end Go.Proofs.Ytbhddodghbhjiaa.Back
