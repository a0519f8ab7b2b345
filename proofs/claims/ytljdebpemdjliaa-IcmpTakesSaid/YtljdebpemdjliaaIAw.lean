/-
  The chapter's examples that each law of icmp calls first: they answer true.
-/
import Derived.Test.YtljdebpemdjliaaITk
import Derived.Test.YtljdebpemdjliaaITr
namespace Go.Proofs.Ytljdebpemdjliaa
open Go.RowKit
set_option linter.unusedVariables false

def im1 : Ms := ⟨false, 8, 0, 65537, ⟨#[]⟩⟩
def im2 : Ms := ⟨true, 128, 0, 0, ⟨#[]⟩⟩
def ad0 : Ad := ⟨false, 0, 0⟩
def ad1 : Ad := ⟨true, 0, 1⟩
def ad2 : Ad := ⟨true, 0, 2⟩
def iS1 : ByteArray := ⟨#[8, 0, 247, 253, 0, 1, 0, 1]⟩
def iS2 : ByteArray := ⟨#[128, 0, 127, 186, 0, 0, 0, 0]⟩
theorem ad0_wf : WfA ad0 := ⟨by decide, by decide⟩
theorem ad1_wf : WfA ad1 := ⟨by decide, by decide⟩
theorem ad2_wf : WfA ad2 := ⟨by decide, by decide⟩
theorem im1_rg : rgIB im1 = true := by decide +kernel
theorem im2_rg : rgIB im2 = true := by decide +kernel
theorem im1_S : strOfNums (allI im1 (chI im1 0)) = iS1 := by decide +kernel
theorem im2_S : strOfNums (allI im2 (chI im2 (psI true ad1 ad2 8))) = iS2 := by decide +kernel
theorem im1_ly : lyIR im1 ad0 ad0 = (iS1, 0) := by
  rw [lyI_yes im1_rg (fun h => by cases h), ← im1_S]; rfl
theorem im2_ly : lyIR im2 ad1 ad2 = (iS2, 0) := by
  rw [lyI_yes im2_rg (fun _ => rfl), ← im2_S]; rfl
theorem im1_tk : tkIR iS1 false ad0 ad0 = (im1, 0) := by
  rw [← im1_S]
  exact tk_lyI im1 (rgI_iff.1 im1_rg) (ok := false) (fun h => by cases h) (X := 0) (Int.le_refl _)
theorem im1_rp : rpI im1 = (⟨false, 0, 0, 65537, ⟨#[]⟩⟩, 0) := by unfold rpI; rw [if_pos ⟨rfl, rfl⟩]; rfl

set_option maxRecDepth 100000 in
set_option maxHeartbeats 8000000 in
theorem iawake_yes (w : World) : Calls Try.prog 10 #[] w fun e w' => e = .returned (.bool true) ∧ Below w.heap.size w w' := by
  have HL := Lib.hid (fun W => ilay_any im1 ad0 ad0 ad0_wf ad0_wf W)
  have HT := Lib.hid (fun W => itake_any iS1 (by decide) false ad0 ad0 ad0_wf ad0_wf W)
  have HR := Lib.hid (fun W => irep_any im1 (by decide) W)
  have HM := Lib.hid (fun W => ilay_any im2 ad1 ad2 ad1_wf ad2_wf W)
  have HU := Lib.hid (fun W => itake_any ⟨#[49, 50, 51, 52, 53, 54, 55]⟩ (by decide) false ad0 ad0 ad0_wf ad0_wf W)
  have HE := Lib.hid (fun W => ierr_any ⟨true, 3, 0, 0, ⟨#[]⟩⟩ W)
  have HF := Lib.hid (fun W => ierr_any im1 W)
  unfold lyIV at HL HM
  unfold tkIV at HT HU
  unfold rpV at HR
  rw [im1_ly] at HL
  rw [im2_ly] at HM
  rw [im1_tk] at HT
  rw [im1_rp] at HR
  rw [tkI_short (fun h => by cases h) (by decide)] at HU
  rw [show errI ⟨true, 3, 0, 0, ⟨#[]⟩⟩ = true by decide] at HE
  rw [show errI im1 = false by decide] at HF
  replace HL : Hid (∀ W : World, Calls Try.prog 11 #[.agg #[.bool false, .int .i64 8, .int .i64 0, .int .i64 65537, .string ⟨#[]⟩], .agg #[.bool false, .int .u64 0, .int .u64 0], .agg #[.bool false, .int .u64 0, .int .u64 0]] W fun e w' => e = .returned (.tuple #[.string ⟨#[8, 0, 247, 253, 0, 1, 0, 1]⟩, .int .i64 0]) ∧ Below W.heap.size W w') := HL
  replace HT : Hid (∀ W : World, Calls Try.prog 13 #[.string ⟨#[8, 0, 247, 253, 0, 1, 0, 1]⟩, .bool false, .agg #[.bool false, .int .u64 0, .int .u64 0], .agg #[.bool false, .int .u64 0, .int .u64 0]] W fun e w' => e = .returned (.tuple #[.agg #[.bool false, .int .i64 8, .int .i64 0, .int .i64 65537, .string ⟨#[]⟩], .int .i64 0]) ∧ Below W.heap.size W w') := HT
  replace HR : Hid (∀ W : World, Calls Try.prog 15 #[.agg #[.bool false, .int .i64 8, .int .i64 0, .int .i64 65537, .string ⟨#[]⟩]] W fun e w' => e = .returned (.tuple #[.agg #[.bool false, .int .i64 0, .int .i64 0, .int .i64 65537, .string ⟨#[]⟩], .int .i64 0]) ∧ Below W.heap.size W w') := HR
  replace HM : Hid (∀ W : World, Calls Try.prog 11 #[.agg #[.bool true, .int .i64 128, .int .i64 0, .int .i64 0, .string ⟨#[]⟩], .agg #[.bool true, .int .u64 0, .int .u64 1], .agg #[.bool true, .int .u64 0, .int .u64 2]] W fun e w' => e = .returned (.tuple #[.string ⟨#[128, 0, 127, 186, 0, 0, 0, 0]⟩, .int .i64 0]) ∧ Below W.heap.size W w') := HM
  replace HU : Hid (∀ W : World, Calls Try.prog 13 #[.string ⟨#[49, 50, 51, 52, 53, 54, 55]⟩, .bool false, .agg #[.bool false, .int .u64 0, .int .u64 0], .agg #[.bool false, .int .u64 0, .int .u64 0]] W fun e w' => e = .returned (.tuple #[.agg #[.bool false, .int .i64 0, .int .i64 0, .int .i64 0, .string ⟨#[]⟩], .int .i64 71]) ∧ Below W.heap.size W w') := HU
  replace HE : Hid (∀ W : World, Calls Try.prog 17 #[.agg #[.bool true, .int .i64 3, .int .i64 0, .int .i64 0, .string ⟨#[]⟩]] W fun e w' => e = .returned (.bool true) ∧ Below W.heap.size W w') := HE
  replace HF : Hid (∀ W : World, Calls Try.prog 17 #[.agg #[.bool false, .int .i64 8, .int .i64 0, .int .i64 65537, .string ⟨#[]⟩]] W fun e w' => e = .returned (.bool false) ∧ Below W.heap.size W w') := HF
  have K0 := Lib.hid (Blk.new w 23 (mcs ⟨false, 8, 0, 65537, ⟨#[]⟩⟩))
  have L0 := Lib.hid ((Below.refl _ w).alloc (Nat.le_refl _) (.cells (mcs ⟨false, 8, 0, 65537, ⟨#[]⟩⟩) 23))
  obtain ⟨f0, f1, f2, f3, f4⟩ := K0.out.i5
  go_enter Try.func10, Try.ntmps10
  go_wp2_with fail
  refine Calls.mono (HL.out _) ?_
  rintro e w1 ⟨rfl, hb⟩
  have K1 := Lib.hid (K0.out.below hb K0.out.lt)
  have L1 := Lib.hid (L0.out.trans (hb.mono L0.out.size))
  clear hb f0 f1 f2 f3 f4
  go_wp2_with fail
  refine Calls.mono (HT.out _) ?_
  rintro e w2 ⟨rfl, hb⟩
  have T2 := Lib.hid (Blk.new w2 23 (mcs ⟨false, 8, 0, 65537, ⟨#[]⟩⟩))
  have K2 := Lib.hid ((K1.out.below hb K1.out.lt).alloc (.cells (mcs ⟨false, 8, 0, 65537, ⟨#[]⟩⟩) 23))
  have L2 := Lib.hid ((L1.out.trans (hb.mono L1.out.size)).alloc (L1.out.trans (hb.mono L1.out.size)).size (.cells (mcs ⟨false, 8, 0, 65537, ⟨#[]⟩⟩) 23))
  clear hb
  obtain ⟨f0, f1, f2, f3, f4⟩ := K2.out.i5
  go_wp2_with fail
  refine Calls.mono (HR.out _) ?_
  rintro e w3 ⟨rfl, hb⟩
  have T3 := Lib.hid ((T2.out.below hb T2.out.lt).alloc (.cells (mcs ⟨false, 0, 0, 65537, ⟨#[]⟩⟩) 23))
  have U3 := Lib.hid (Blk.new w3 23 (mcs ⟨false, 0, 0, 65537, ⟨#[]⟩⟩))
  have K3 := Lib.hid ((K2.out.below hb K2.out.lt).alloc (.cells (mcs ⟨false, 0, 0, 65537, ⟨#[]⟩⟩) 23))
  have L3 := Lib.hid ((L2.out.trans (hb.mono L2.out.size)).alloc (L2.out.trans (hb.mono L2.out.size)).size (.cells (mcs ⟨false, 0, 0, 65537, ⟨#[]⟩⟩) 23))
  clear hb f0 f1 f2 f3 f4
  go_wp2_with fail
  refine Calls.mono (HM.out _) ?_
  rintro e w4 ⟨rfl, hb⟩
  have T4 := Lib.hid (T3.out.below hb T3.out.lt)
  have U4 := Lib.hid (U3.out.below hb U3.out.lt)
  have K4 := Lib.hid (K3.out.below hb K3.out.lt)
  have L4 := Lib.hid (L3.out.trans (hb.mono L3.out.size))
  clear hb
  go_wp2_with fail
  refine Calls.mono (HU.out _) ?_
  rintro e w5 ⟨rfl, hb⟩
  have T5 := Lib.hid ((T4.out.below hb T4.out.lt).alloc (.cells (mcs ⟨false, 0, 0, 0, ⟨#[]⟩⟩) 23))
  have U5 := Lib.hid ((U4.out.below hb U4.out.lt).alloc (.cells (mcs ⟨false, 0, 0, 0, ⟨#[]⟩⟩) 23))
  have K5 := Lib.hid ((K4.out.below hb K4.out.lt).alloc (.cells (mcs ⟨false, 0, 0, 0, ⟨#[]⟩⟩) 23))
  have L5 := Lib.hid ((L4.out.trans (hb.mono L4.out.size)).alloc (L4.out.trans (hb.mono L4.out.size)).size (.cells (mcs ⟨false, 0, 0, 0, ⟨#[]⟩⟩) 23))
  clear hb
  obtain ⟨f0, f1, f2, f3, f4⟩ := K5.out.i5
  obtain ⟨g0, g1, g2, g3, g4⟩ := T5.out.i5
  obtain ⟨h0, h1, h2, h3, h4⟩ := U5.out.i5
  go_wp2_with fail
  refine Calls.mono (HE.out _) ?_
  rintro e w6 ⟨rfl, hb⟩
  have K6 := Lib.hid (K5.out.below hb K5.out.lt)
  have L6 := Lib.hid (L5.out.trans (hb.mono L5.out.size))
  clear hb f0 f1 f2 f3 f4 g0 g1 g2 g3 g4 h0 h1 h2 h3 h4
  obtain ⟨f0, f1, f2, f3, f4⟩ := K6.out.i5
  go_wp2_with fail
  refine Calls.mono (HF.out _) ?_
  rintro e w7 ⟨rfl, hb⟩
  have L7 := Lib.hid (L6.out.trans (hb.mono L6.out.size))
  clear hb f0 f1 f2 f3 f4
  go_wp2
  go_ret
  exact ⟨rfl, L7.out⟩
end Go.Proofs.Ytljdebpemdjliaa
