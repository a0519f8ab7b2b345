/-
  The chapter's example (layer 18).
-/
import Derived.Test.YtimcjfklnjompaaMtB
namespace Go.Proofs.Ytimcjfklnjompaa
open Go.RowKit
set_option linter.unusedVariables false

theorem MeI.tch {w w' : World} {p : Nat} {C : List CtI} {S : List Nat} (h : MeI w p C) (ht : Tch w w' S) (hn : p ∉ S) : MeI w' p C := ⟨ht.blk h.blk hn, h.len⟩
theorem BkI.tch {w w' : World} {p : Nat} {r b l : Int} {S : List Nat} (h : BkI w p r b l) (ht : Tch w w' S) (hn : p ∉ S) : BkI w' p r b l := Tch.blk ht h hn
theorem BkD.tch {w w' : World} {p : Nat} {r b l : Int} {S : List Nat} (h : BkD w p r b l) (ht : Tch w w' S) (hn : p ∉ S) : BkD w' p r b l := Tch.blk ht h hn
def exC : List CtI := [(1, 7), (0, 0), (0, 0), (2, 120), (0, 0), (0, 0), (0, 0), (0, 0), (0, 0), (0, 0), (0, 0), (0, 0), (0, 0), (0, 0), (0, 0), (0, 0)]
theorem wd2 : fN 2 = 4611686018427387904 := by decide
theorem wd3 : fN 3 = 4613937818241073152 := by decide
theorem wd8 : fN 8 = 4620693217682128896 := by decide
theorem wd30 : fN 30 = 4629137466983448576 := by decide
theorem wd120 : fN 120 = 4638144666238189568 := by decide
theorem wd127 : fN 127 = 4638637247447433216 := by decide
theorem q28 : qN 2 8 = 4598175219545276416 := by decide
theorem q30 : qN 30 120 = 4598175219545276416 := by decide
theorem o_ex (n : Nat) (h : n ≤ 4607182418800017408) : (FloatKind.f64.format.order n n == some .eq) = true := by
  show (Ieee.double.order n n == some .eq) = true
  rw [(ord_low h).1]; rfl
theorem o2 : (FloatKind.f64.format.order (fN 2) 4611686018427387904 == some .eq) = true := by decide
theorem o120 : (FloatKind.f64.format.order (fN 120) 4638144666238189568 == some .eq) = true := by decide
theorem o3 : (FloatKind.f64.format.order (fN 3) 4613937818241073152 == some .eq) = true := by decide
theorem o127 : (FloatKind.f64.format.order (fN 127) 4638637247447433216 == some .eq) = true := by decide
theorem o14 : (FloatKind.f64.format.order 4598175219545276416 4598175219545276416 == some .eq) = true := by decide
set_option maxRecDepth 100000 in
set_option maxHeartbeats 2000000 in
theorem awake_yes (w : World) : Calls Try.prog 7 #[] w fun e w' => e = .returned (.bool true) ∧ Below w.heap.size w w' := by
  have H1 := Lib.hid (new_any w)
  go_enter Try.func7, Try.ntmps7
  go_wp2_with fail
  refine Calls.mono H1.out ?_
  rintro e w1 ⟨m, rfl, hM, hm, hT⟩
  have M1 := Lib.hid hM
  have T1 : Hid (Tch w w1 []) := Lib.hid hT
  have Z1 := Lib.hid hm
  clear H1 hM hT hm
  have H2 := Lib.hid (bucket_ok w1 2 3 (by decide))
  go_wp2_with fail
  refine Calls.mono H2.out ?_
  rintro e w2 ⟨t, rfl, hB, ht, hT⟩
  have M2 := Lib.hid (M1.out.tch hT (by simp))
  have N2 : Hid (m ≠ t) := Lib.hid (by have := M1.out.blk.lt; omega)
  have K2 : Hid (BkI w2 t 2 3 3) := Lib.hid hB
  have T2 : Hid (Tch w w2 [m, t]) := Lib.hid ((T1.out.mono (by simp)).trans (hT.mono (by simp)))
  have Z2 : Hid (w.heap.size ≤ m ∧ w.heap.size ≤ t) := Lib.hid ⟨Z1.out, Nat.le_trans T1.out.size ht⟩
  clear H2 hB hT ht M1 T1 Z1
  have H3 := Lib.hid (count_any M2.out (k := 3) (b := 100) (c := (0, 0)) rfl (by decide) (by decide) (by decide))
  go_wp2_with fail
  refine Calls.mono H3.out ?_
  rintro e w3 ⟨rfl, hM, hT⟩
  have M3 := Lib.hid hM
  have K3 := Lib.hid (K2.out.tch hT (by simp; exact Ne.symm N2.out))
  have T3 := Lib.hid (T2.out.trans (hT.mono (by simp)))
  clear H3 hM hT M2 K2 T2
  have H4 := Lib.hid (count_any M3.out (k := 3) (b := 20) (c := (1, 100)) rfl (by decide) (by decide) (by decide))
  go_wp2_with fail
  refine Calls.mono H4.out ?_
  rintro e w4 ⟨rfl, hM, hT⟩
  have M4 := Lib.hid hM
  have K4 := Lib.hid (K3.out.tch hT (by simp; exact Ne.symm N2.out))
  have T4 := Lib.hid (T3.out.trans (hT.mono (by simp)))
  clear H4 hM hT M3 K3 T3
  have H5 := Lib.hid (count_any M4.out (k := 0) (b := 7) (c := (0, 0)) rfl (by decide) (by decide) (by decide))
  go_wp2_with fail
  refine Calls.mono H5.out ?_
  rintro e w5 ⟨rfl, hM, hT⟩
  have M5 : Hid (MeI w5 m exC) := Lib.hid hM
  have K5 := Lib.hid (K4.out.tch hT (by simp; exact Ne.symm N2.out))
  have T5 := Lib.hid (T4.out.trans (hT.mono (by simp)))
  clear H5 hM hT M4 K4 T4
  have H6 := Lib.hid (count_no (w := w5) m)
  go_wp2_with fail
  refine Calls.mono H6.out ?_
  rintro e w' ⟨rfl, rfl⟩
  clear H6
  have H7 := Lib.hid (told_any M5.out (k := 3) (c := (2, 120)) rfl)
  have H8 := Lib.hid (all_any M5.out (by decide))
  rw [show sm1 exC = 3 by decide, show sm2 exC = 127 by decide] at H8
  have o2 := o2
  have o3 := o3
  have o120 := o120
  have o127 := o127
  have o14 := o14
  go_wp2_with fail
  refine Calls.mono H7.out ?_
  rintro e w' ⟨rfl, rfl⟩
  go_wp2_with fail
  refine Calls.mono H8.out ?_
  rintro e w' ⟨rfl, rfl⟩
  clear H7 H8
  have H9 := Lib.hid (take_any K5.out (by decide) 4)
  go_wp2_with fail
  refine Calls.mono H9.out ?_
  rintro e w6 ⟨rfl, hB, hT⟩
  have K6 : Hid (BkI w6 t 2 3 3) := Lib.hid hB
  have T6 := Lib.hid (T5.out.trans (hT.mono (by simp)))
  clear H9 hB hT K5 T5 M5
  have H10 := Lib.hid (take_any K6.out (by decide) 3)
  go_wp2_with fail
  refine Calls.mono H10.out ?_
  rintro e w7 ⟨rfl, hB, hT⟩
  have K7 : Hid (BkI w7 t 2 3 0) := Lib.hid hB
  have T7 := Lib.hid (T6.out.trans (hT.mono (by simp)))
  clear H10 hB hT K6 T6
  have H11 := Lib.hid (take_any K7.out (by decide) 1)
  go_wp2_with fail
  refine Calls.mono H11.out ?_
  rintro e w8 ⟨rfl, hB, hT⟩
  have K8 : Hid (BkI w8 t 2 3 0) := Lib.hid hB
  have T8 := Lib.hid (T7.out.trans (hT.mono (by simp)))
  clear H11 hB hT K7 T7
  have H12 := Lib.hid (tick_any K8.out (by decide) (by decide))
  go_wp2_with fail
  refine Calls.mono H12.out ?_
  rintro e w9 ⟨rfl, hB, hT⟩
  have K9 : Hid (BkI w9 t 2 3 2) := Lib.hid hB
  have T9 := Lib.hid (T8.out.trans (hT.mono (by simp)))
  clear H12 hB hT K8 T8
  have H13 := Lib.hid (level_any K9.out)
  go_wp2_with fail
  refine Calls.mono H13.out ?_
  rintro e w' ⟨rfl, rfl⟩
  clear H13
  have H14 := Lib.hid (tick_any K9.out (by decide) (by decide))
  go_wp2_with fail
  refine Calls.mono H14.out ?_
  rintro e w10 ⟨rfl, hB, hT⟩
  have K10 : Hid (BkI w10 t 2 3 3) := Lib.hid hB
  have T10 := Lib.hid (T9.out.trans (hT.mono (by simp)))
  clear H14 hB hT K9 T9
  have H15 := Lib.hid (level_any K10.out)
  have H16 := share_any w10 (x := 2) (z := 8) (u := 30) (v := 120) (by decide) (by decide) (by decide) (by decide)
  rw [wd2, wd8, wd30, wd120, q28, q30] at H16
  have H16 := Lib.hid H16
  have t1 : tkB 3 4 = false := by decide
  have t2 : tkB 3 3 = true := by decide
  have t3 : tkB 0 1 = false := by decide
  go_wp2_with fail
  refine Calls.mono H15.out ?_
  rintro e w' ⟨rfl, rfl⟩
  go_wp2_with fail
  refine Calls.mono H16.out ?_
  rintro e w' ⟨rfl, rfl⟩
  go_wp2
  go_ret
  exact ⟨rfl, T10.out.below (Nat.le_refl _) (by have := Z2.out; simp; omega)⟩
end Go.Proofs.Ytimcjfklnjompaa
