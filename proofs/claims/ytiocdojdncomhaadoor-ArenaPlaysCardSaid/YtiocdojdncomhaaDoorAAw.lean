/-
  The laws' own helpers (layer 10): awake.
-/
import Derived.Test.YtiocdojdncomhaaDoorAMd
namespace Go.Proofs.YtiocdojdncomhaaDoor
open Go.RowKit Go.Maps
set_option linter.unusedVariables false

def aw1 : List Bl := [(0, 0)]
def aw2 : List Bl := [(0, 0), (2, 1)]
def aw3 : List Bl := [(0, 0), (1, 0), (2, 1)]
def aw4 : List Bl := [(0, 0), (2, 1)]
theorem aw_t1 : tkF 3 [] 0 = (0, 0, aw1) := by decide +kernel
theorem aw_t2 : tkF 3 aw1 1 = (2, 0, aw2) := by decide +kernel
theorem aw_t3 : tkF 3 aw2 0 = (1, 0, aw3) := by decide +kernel
theorem aw_t4 : tkF 3 aw3 3 = (0, 90, aw3) := by decide +kernel
theorem aw_g1 : gvF aw3 1 = (0, aw4) := by decide +kernel
theorem aw_g2 : gvF aw4 1 = (91, aw4) := by decide +kernel
theorem aw_f : ((2 ^ 3 - sumB aw3 : Nat) : Int) = 4 := by decide +kernel
theorem aw_g : grS (fre aw3 3 0) = 2 := by decide +kernel
theorem aw_o1 : ordS aw4 2 = 1 := by decide +kernel
theorem aw_o2 : ordS aw4 1 = -1 := by decide +kernel
theorem aw_a : ats aw3 = [0, 1, 2] := by decide +kernel
theorem rdi_012 (w : World) : RdI (w.alloc (.cells #[.int .i64 0, .int .i64 1, .int .i64 2] 3)) w.heap.size (some ⟨w.heap.size, 0, none⟩) 3 [0, 1, 2] := by
  have hb := Blk.new w 3 #[.int .i64 0, .int .i64 1, .int .i64 2]
  refine ⟨rfl, fun _ => ⟨w.heap.size, rfl, Nat.le_refl _, by simp, fun j z hz => ?_⟩⟩
  rw [hb.cell j]
  match j, hz with
  | 0, h => cases h; rfl
  | 1, h => cases h; rfl
  | 2, h => cases h; rfl
set_option maxRecDepth 100000 in
set_option maxHeartbeats 4000000 in
theorem aawake_yes (w : World) (hE : EnvA w) : Calls Tryd.prog 8 #[] w fun e w' => e = .returned (.bool true) ∧ Below w.heap.size w w' := by
  have HN := Lib.hid (as_new 3 (by omega) hE)
  go_enter Tryd.func8, Tryd.ntmps8
  go_wp2_with fail
  refine Calls.mono HN.out ?_
  rintro e w1 ⟨r, bm, bn, rfl, hA1⟩
  have A1 := Lib.hid hA1
  clear hA1
  go_wp2_with fail
  refine Calls.mono (pnew_bad 17 (by omega) w1) ?_
  rintro e w1' ⟨rfl, rfl⟩
  have T1 := as_take (by omega) A1.out 0
  rw [aw_t1] at T1
  have HT1 := Lib.hid T1
  clear T1
  go_wp2_with fail
  refine Calls.mono HT1.out ?_
  rintro e w2 ⟨rfl, hA2, -⟩
  have A2 := Lib.hid hA2
  clear hA2
  have T2 := as_take (by omega) A2.out 1
  rw [aw_t2] at T2
  have HT2 := Lib.hid T2
  clear T2
  go_wp2_with fail
  refine Calls.mono HT2.out ?_
  rintro e w3 ⟨rfl, hA3, -⟩
  have A3 := Lib.hid hA3
  clear hA3
  have T3 := as_take (by omega) A3.out 0
  rw [aw_t3] at T3
  have HT3 := Lib.hid T3
  clear T3
  go_wp2_with fail
  refine Calls.mono HT3.out ?_
  rintro e w4 ⟨rfl, hA4, -⟩
  have A4 := Lib.hid hA4
  clear hA4
  have T4 := as_take (by omega) A4.out 3
  rw [aw_t4] at T4
  have HT4 := Lib.hid T4
  clear T4
  go_wp2_with fail
  refine Calls.mono HT4.out ?_
  rintro e w5 ⟨rfl, hA5, -⟩
  have A5 := Lib.hid hA5
  clear hA5
  have HF := pfree_any r bm bn 3 aw3 w5 A5.out.ar
  rw [aw_f] at HF
  have HF5 := Lib.hid HF
  clear HF
  go_wp2_with fail
  refine Calls.mono HF5.out ?_
  rintro e w5' ⟨rfl, rfl⟩
  have HG := as_great (by omega) A5.out
  rw [aw_g] at HG
  have HG5 := Lib.hid HG
  clear HG
  go_wp2_with fail
  refine Calls.mono HG5.out ?_
  rintro e w6 ⟨rfl, hA6, -⟩
  have A6 := Lib.hid hA6
  clear hA6
  have HK := Lib.hid (as_taken (by omega) A6.out (n := 3) rfl)
  go_wp2_with fail
  refine Calls.mono HK.out ?_
  rintro e w7 ⟨At, ct, rfl, hR, -, hA7, -⟩
  have A7 := Lib.hid hA7
  have R7 := Lib.hid hR
  clear hA7 hR
  go_wp2_with fail
  refine Calls.mono (same_any w6.heap.size 3 ct At (ats aw3) w7.heap.size 3 3 (some ⟨w7.heap.size, 0, none⟩) [0, 1, 2] (by omega) _ (R7.out.below ((Below.refl _ w7).alloc (Nat.le_refl _) _)) (rdi_012 w7)) ?_
  rintro e w8 ⟨rfl, hb8⟩
  rw [aw_a]
  have A8 := Lib.hid (A7.out.below (((Below.refl _ w7).alloc (Nat.le_refl _) (.cells #[.int .i64 0, .int .i64 1, .int .i64 2] 3)).trans (hb8.mono (by simp))))
  clear hb8
  have hd : decide (([0, 1, 2] : List Int) = [0, 1, 2]) = true := by decide
  rw [hd]
  have G1 := as_give (by omega) A8.out 1 (by omega) (by omega)
  rw [aw_g1] at G1
  have HG1 := Lib.hid G1
  clear G1 hd
  go_wp2_with fail
  refine Calls.mono HG1.out ?_
  rintro e w9 ⟨rfl, hA9, -⟩
  have A9 := Lib.hid hA9
  clear hA9
  have G2 := as_give (by omega) A9.out 1 (by omega) (by omega)
  rw [aw_g2] at G2
  have HG2 := Lib.hid G2
  clear G2
  go_wp2_with fail
  refine Calls.mono HG2.out ?_
  rintro e w10 ⟨rfl, hA10, -⟩
  have A10 := Lib.hid hA10
  clear hA10
  have O1 := porder_any r bm bn 3 aw4 2 (by omega) (by omega) w10 A10.out.ar
  rw [aw_o1] at O1
  have O2 := porder_any r bm bn 3 aw4 1 (by omega) (by omega) w10 A10.out.ar
  rw [aw_o2] at O2
  have HO1 := Lib.hid O1
  have HO2 := Lib.hid O2
  clear O1 O2
  go_wp2_with fail
  refine Calls.mono HO1.out ?_
  rintro e w11 ⟨rfl, rfl⟩
  go_wp2_with fail
  refine Calls.mono HO2.out ?_
  rintro e w12 ⟨rfl, rfl⟩
  go_wp2
  go_ret
  exact ⟨rfl, A10.out.bel⟩
end Go.Proofs.YtiocdojdncomhaaDoor
