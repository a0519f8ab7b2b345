/-
  The chapter's examples that each law of addr calls first: they answer true.
-/
import Derived.Test.YtplidholnfmoeaaDoorPrint
namespace Go.Proofs.YtplidholnfmoeaaDoor
open Go.RowKit
set_option linter.unusedVariables false

set_option maxRecDepth 100000 in
set_option maxHeartbeats 1000000 in
theorem six_one (w : World) : Calls Tryd.prog 26 #[.agg #[.int .u16 0, .int .u16 0, .int .u16 0, .int .u16 0, .int .u16 0, .int .u16 0, .int .u16 0, .int .u16 1]] w fun e w' => e = .returned (.int .i64 1) ∧ Below w.heap.size w w' := by
  have q1 : ∀ W : World, (Op.equalIn 10000 48 (.agg #[.int .u16 0, .int .u16 0, .int .u16 0, .int .u16 0, .int .u16 0, .int .u16 0, .int .u16 0, .int .u16 1]) (.agg #[.int .u16 0, .int .u16 0, .int .u16 0, .int .u16 0, .int .u16 0, .int .u16 0, .int .u16 0, .int .u16 0])).run Tryd.prog W = .ok false W := fun W => by kernel_rfl
  have q2 : ∀ W : World, (Op.equalIn 10000 48 (.agg #[.int .u16 0, .int .u16 0, .int .u16 0, .int .u16 0, .int .u16 0, .int .u16 0, .int .u16 0, .int .u16 1]) (.agg #[.int .u16 0, .int .u16 0, .int .u16 0, .int .u16 0, .int .u16 0, .int .u16 0, .int .u16 0, .int .u16 1])).run Tryd.prog W = .ok true W := fun W => by kernel_rfl
  go_enter Tryd.func26, Tryd.ntmps26
  go_wp2
  go_ret
  exact ⟨rfl, (Below.refl _ _).alloc (Nat.le_refl _) _⟩
theorem grs_one : grs 0 1 = .agg #[.int .u16 0, .int .u16 0, .int .u16 0, .int .u16 0, .int .u16 0, .int .u16 0, .int .u16 0, .int .u16 1] := rfl
theorem grs_three : grs 0 3 = .agg #[.int .u16 0, .int .u16 0, .int .u16 0, .int .u16 0, .int .u16 0, .int .u16 0, .int .u16 0, .int .u16 3] := rfl
theorem groups_at (s : Bool) (h l : Int) (hh : U6 h) (hl : U6 l) {v : Value} (hv : grs h l = v) (w : World) :
    Calls Tryd.prog 21 #[adr s h l] w fun e w' => e = .returned v ∧ Below w.heap.size w w' := by
  subst hv; exact groups_any s h l hh hl w
theorem u6_0 : U6 0 := by unfold U6; decide
theorem u6_1 : U6 1 := by unfold U6; decide
theorem u6_3 : U6 3 := by unfold U6; decide
theorem u6_k : U6 65536 := by unfold U6; decide
theorem u6_a : U6 167772161 := by unfold U6; decide
set_option maxRecDepth 100000 in
set_option maxHeartbeats 1000000 in
theorem class_one (w : World) : Calls Tryd.prog 12 #[adr true 0 1] w fun e w' => e = .returned (.int .i64 1) ∧ Below w.heap.size w w' := by
  have H1 := Lib.hid (fun W => valid_at true 0 1 W (vld_six 0 1))
  have H2 := Lib.hid (fun W => groups_at true 0 1 u6_0 u6_1 grs_one W)
  go_enter Tryd.func12, Tryd.ntmps12
  go_wp2_with fail
  refine Calls.mono (H1.out _) ?_
  rintro e w1 ⟨rfl, hb⟩
  have R1 := Lib.hid ((Blk.new w 25 _).below hb (by simp only [World.size_alloc]; omega))
  have L1 := Lib.hid (((Below.refl _ w).alloc (Nat.le_refl _) _).trans (hb.mono (by simp only [World.size_alloc]; omega)))
  obtain ⟨g1, g2, g3⟩ := R1.out.c3
  clear hb
  go_wp2_with fail
  refine Calls.mono (H2.out _) ?_
  rintro e w2 ⟨rfl, hb⟩
  have L2 := Lib.hid (L1.out.trans (hb.mono L1.out.size))
  clear hb g1 g2 g3
  go_wp2_with fail
  refine Calls.mono (six_one _) ?_
  rintro e w3 ⟨rfl, hb⟩
  have L3 := L2.out.trans (hb.mono L2.out.size)
  clear hb
  go_wp2
  go_ret
  exact ⟨rfl, L3⟩
theorem sol_val : adr true (n4 65282 0 0 0) (n4 0 1 65280 3) = adr true 18375249429625044992 8573157379 := rfl
set_option maxHeartbeats 1000000 in
set_option maxRecDepth 100000 in
theorem sol_three (w : World) : Calls Tryd.prog 13 #[adr true 0 3] w fun e w' => e = .returned (adr true 18375249429625044992 8573157379) ∧ Below w.heap.size w w' := by
  have H2 := Lib.hid (fun W => groups_at true 0 3 u6_0 u6_3 grs_three W)
  have H3 := Lib.hid (fun W => gaddr_any 65282 0 0 0 0 1 65280 3 (by unfold U2; decide) (by unfold U2; decide) (by unfold U2; decide) (by unfold U2; decide) (by unfold U2; decide) (by unfold U2; decide) (by unfold U2; decide) (by unfold U2; decide) W)
  have hb1 : bits BinOp.and IntKind.u16 0 255 = 0 := by decide +kernel
  have hb2 : bits BinOp.or IntKind.u16 65280 0 = 65280 := by decide +kernel
  go_enter Tryd.func13, Tryd.ntmps13
  go_wp2_with fail
  refine Calls.mono (H2.out _) ?_
  rintro e w1 ⟨rfl, hb⟩
  have R1 := Lib.hid ((Blk.new (w.alloc (.cells #[.bool true, .int .u64 0, .int .u64 3] 25)) 25 _).below hb (by simp only [World.size_alloc]; omega))
  have L1 := Lib.hid ((((Below.refl _ w).alloc (Nat.le_refl _) _).alloc (by simp) _).trans (hb.mono (by simp only [World.size_alloc]; omega)))
  have hs1 : w.heap.size + 1 < w1.heap.size := by have := hb.size; simp only [World.size_alloc] at this; omega
  rw [World.size_alloc] at R1
  clear hb
  go_wp2_with fail
  refine Calls.mono (H3.out _) ?_
  rintro e w2 ⟨rfl, hb⟩
  have R2 := Lib.hid ((R1.out.alloc (.cells #[.int .u16 0, .int .u16 0, .int .u16 0, .int .u16 0, .int .u16 0, .int .u16 0, .int .u16 0, .int .u16 3] 48)).below hb (by simp only [World.size_alloc]; omega))
  have L2 := Lib.hid ((L1.out.alloc (by omega) (.cells #[.int .u16 0, .int .u16 0, .int .u16 0, .int .u16 0, .int .u16 0, .int .u16 0, .int .u16 0, .int .u16 3] 48)).trans (hb.mono (by simp only [World.size_alloc]; omega)))
  obtain ⟨g1, g2, g3⟩ := R2.out.c3
  have z1 := R2.out.frozen 0
  have z2 := R2.out.frozen 1
  have z3 := R2.out.frozen 2
  clear hb
  go_wp2
  exact bodyPost_ret (v := adr true (n4 65282 0 0 0) (n4 0 1 65280 3)) (by simp [results, Tryd.results13, go_sem, g1, g2, g3]) rfl ⟨by rw [sol_val], ((L2.out.setCell (p := ⟨_, _, _⟩) (by simp) _).setCell (p := ⟨_, _, _⟩) (by simp) _).setCell (p := ⟨_, _, _⟩) (by simp) _⟩

theorem less_at (s : Bool) (h l : Int) (s' : Bool) (h' l' : Int) (w : World) {b : Bool} (e : lss s h l s' h' l' = b) :
    Calls Tryd.prog 11 #[adr s h l, adr s' h' l'] w fun e w' => e = .returned (.bool b) ∧ Below w.heap.size w w' := by
  subst e; exact less_any s h l s' h' l' w
theorem ofV_1 : ofV [10, 0, 0, 1] = .tuple #[adr false 0 167772161, .int .i64 0] := rfl
theorem parse_at (s : ByteArray) (hs : s.size ≤ 100) {v : Value} (hv : prsV s.data.toList = v) (w : World) (hE : Env w) :
    Calls Tryd.prog 5 #[.string s] w fun e w' => e = .returned v ∧ Below w.heap.size w w' := by
  subst hv; exact parse_any s (by omega) w hE
theorem print_at (s : Bool) (h l : Int) (hh : U6 h) (hl : U6 l) {v : ByteArray} (hv : (⟨(prn s h l).toArray⟩ : ByteArray) = v) (w : World) (hE : Env w) :
    Calls Tryd.prog 7 #[adr s h l] w fun e w' => e = .returned (.string v) ∧ Below w.heap.size w w' := by
  subst hv; exact print_any s h l hh hl w hE
theorem prs_1 : prsV [49, 48, 46, 48, 46, 48, 46, 49] = .tuple #[adr false 0 167772161, .int .i64 0] := by kernel_rfl
theorem prs_2 : prsV [48, 58, 48, 58, 48, 58, 48, 58, 48, 58, 48, 58, 48, 58, 49] = .tuple #[adr true 0 1, .int .i64 0] := by kernel_rfl
theorem prs_3 : prsV [49, 58, 50, 58, 51, 58, 52, 58, 53, 58, 54, 58, 55, 58, 56, 58, 58] = .tuple #[adr false 0 0, .int .i64 20] := by kernel_rfl
theorem prn_1 : (⟨(prn true 0 1).toArray⟩ : ByteArray) = ⟨#[58, 58, 49]⟩ := by kernel_rfl
theorem prn_2 : (⟨(prn true 65536 65536).toArray⟩ : ByteArray) = ⟨#[48, 58, 48, 58, 49, 58, 58, 49, 58, 48]⟩ := by kernel_rfl

set_option maxRecDepth 100000 in
set_option maxHeartbeats 4000000 in
theorem awake_yes (w : World) (hE : Env w) : Calls Tryd.prog 4 #[] w fun e w' => e = .returned (.bool true) ∧ Below w.heap.size w w' := by
  have P1 := Lib.hid (parse_at ⟨#[49, 48, 46, 48, 46, 48, 46, 49]⟩ (by decide) prs_1)
  have P2 := Lib.hid (parse_at ⟨#[48, 58, 48, 58, 48, 58, 48, 58, 48, 58, 48, 58, 48, 58, 49]⟩ (by decide) prs_2)
  have P3 := Lib.hid (parse_at ⟨#[49, 58, 50, 58, 51, 58, 52, 58, 53, 58, 54, 58, 55, 58, 56, 58, 58]⟩ (by decide) prs_3)
  have Q1 := Lib.hid (print_at true 0 1 u6_0 u6_1 prn_1)
  have Q2 := Lib.hid (print_at true 65536 65536 u6_k u6_k prn_2)
  have V1 := Lib.hid (fun W => valid_at false 0 167772161 W (b := true) (by decide))
  have BY := Lib.hid (fun W => bytes_any true 0 1 u6_0 u6_1 W)
  have LS := Lib.hid (fun W => less_at false 0 167772161 true 0 1 W (b := true) (by decide))
  go_enter Tryd.func4, Tryd.ntmps4
  go_wp2_with fail
  refine Calls.mono (P1.out _ hE) ?_
  rintro e w1 ⟨rfl, hb⟩
  have E1 := (hE.below hb).alloc (.cells #[.bool false, .int .u64 0, .int .u64 167772161] 25)
  have L1 := Lib.hid (hb.alloc hb.size (.cells #[.bool false, .int .u64 0, .int .u64 167772161] 25))
  clear hb
  go_wp2_with fail
  refine Calls.mono (P2.out _ E1) ?_
  rintro e w2 ⟨rfl, hb⟩
  have E2 := (E1.below hb).alloc (.cells #[.bool true, .int .u64 0, .int .u64 1] 25)
  have KA2 := Lib.hid (((Blk.new w1 25 _).below hb (by simp only [World.size_alloc]; omega)).alloc (.cells #[.bool true, .int .u64 0, .int .u64 1] 25))
  have L2 := Lib.hid ((L1.out.trans (hb.mono L1.out.size)).alloc (L1.out.trans (hb.mono L1.out.size)).size (.cells #[.bool true, .int .u64 0, .int .u64 1] 25))
  have s12 : w1.heap.size < w2.heap.size := by have := hb.size; simp only [World.size_alloc] at this; omega
  clear hb E1 L1
  go_wp2_with fail
  refine Calls.mono (P3.out _ E2) ?_
  rintro e w3 ⟨rfl, hb⟩
  have E3 := (E2.below hb).alloc (.cells #[.bool false, .int .u64 0, .int .u64 0] 25)
  have KA3 := Lib.hid ((KA2.out.below hb (by simp only [World.size_alloc]; omega)).alloc (.cells #[.bool false, .int .u64 0, .int .u64 0] 25))
  have KB3 := Lib.hid (((Blk.new w2 25 #[.bool true, .int .u64 0, .int .u64 1]).below hb (by simp only [World.size_alloc]; omega)).alloc (.cells #[.bool false, .int .u64 0, .int .u64 0] 25))
  have L3 := Lib.hid ((L2.out.trans (hb.mono L2.out.size)).alloc (L2.out.trans (hb.mono L2.out.size)).size (.cells #[.bool false, .int .u64 0, .int .u64 0] 25))
  have s23 : w2.heap.size < (w3.alloc (.cells #[.bool false, .int .u64 0, .int .u64 0] 25)).heap.size := by have := hb.size; simp only [World.size_alloc] at this ⊢; omega
  obtain ⟨a1, a2, a3⟩ := KA3.out.c3
  obtain ⟨b1, b2, b3⟩ := KB3.out.c3
  clear hb E2 L2 KA2
  go_wp2_with fail
  refine Calls.mono (Q1.out _ E3) ?_
  rintro e w4 ⟨rfl, hb⟩
  have E4 := E3.below hb
  have KA4 := Lib.hid (KA3.out.below hb (by omega))
  have KB4 := Lib.hid (KB3.out.below hb (by omega))
  have L4 := Lib.hid (L3.out.trans (hb.mono L3.out.size))
  have s24 : w2.heap.size < w4.heap.size := by have := hb.size; omega
  clear a1 a2 a3 b1 b2 b3 hb E3 KA3 KB3 L3 s23
  obtain ⟨a1, a2, a3⟩ := KA4.out.c3
  obtain ⟨b1, b2, b3⟩ := KB4.out.c3
  go_wp2_with fail
  refine Calls.mono (Q2.out _ E4) ?_
  rintro e w5 ⟨rfl, hb⟩
  have E5 := E4.below hb
  have KA5 := Lib.hid (KA4.out.below hb (by omega))
  have KB5 := Lib.hid (KB4.out.below hb (by omega))
  have L5 := Lib.hid (L4.out.trans (hb.mono L4.out.size))
  have s25 : w2.heap.size < w5.heap.size := by have := hb.size; omega
  clear a1 a2 a3 b1 b2 b3 hb E4 KA4 KB4 L4 s24
  obtain ⟨a1, a2, a3⟩ := KA5.out.c3
  obtain ⟨b1, b2, b3⟩ := KB5.out.c3
  go_wp2_with fail
  refine Calls.mono (V1.out _) ?_
  rintro e w6 ⟨rfl, hb⟩
  have E6 := E5.below hb
  have KA6 := Lib.hid (KA5.out.below hb (by omega))
  have KB6 := Lib.hid (KB5.out.below hb (by omega))
  have L6 := Lib.hid (L5.out.trans (hb.mono L5.out.size))
  have s26 : w2.heap.size < w6.heap.size := by have := hb.size; omega
  clear a1 a2 a3 b1 b2 b3 hb E5 KA5 KB5 L5 s25
  obtain ⟨a1, a2, a3⟩ := KA6.out.c3
  obtain ⟨b1, b2, b3⟩ := KB6.out.c3
  have G7 := Blk.new w6 5 (([10, 0, 0, 1] : List Int).map (Value.int .u8)).toArray
  have HO := of_any _ _ _ 4 4 [10, 0, 0, 1] (G7.reads (zs := [10, 0, 0, 1]) (by decide) G7.lt) (by simp) (Nat.le_refl _) (by decide)
  rw [ofV_1] at HO
  have HOF := Lib.hid HO
  have E6' := E6.alloc (.cells ((([10, 0, 0, 1] : List Int).map (Value.int .u8)).toArray) 5)
  have KA6' := Lib.hid (KA6.out.alloc (.cells ((([10, 0, 0, 1] : List Int).map (Value.int .u8)).toArray) 5))
  have KB6' := Lib.hid (KB6.out.alloc (.cells ((([10, 0, 0, 1] : List Int).map (Value.int .u8)).toArray) 5))
  have L6' := Lib.hid (L6.out.alloc L6.out.size (.cells ((([10, 0, 0, 1] : List Int).map (Value.int .u8)).toArray) 5))
  have hs6 : w2.heap.size < (w6.alloc (.cells ((([10, 0, 0, 1] : List Int).map (Value.int .u8)).toArray) 5)).heap.size := by simp only [World.size_alloc]; omega
  clear HO G7
  go_wp2_with fail
  refine Calls.mono HOF.out ?_
  rintro e w7 ⟨rfl, hb⟩
  have E7 := (E6'.below hb).alloc (.cells #[.bool false, .int .u64 0, .int .u64 167772161] 25)
  have KA7 := Lib.hid ((KA6'.out.below hb (by omega)).alloc (.cells #[.bool false, .int .u64 0, .int .u64 167772161] 25))
  have KB7 := Lib.hid ((KB6'.out.below hb (by omega)).alloc (.cells #[.bool false, .int .u64 0, .int .u64 167772161] 25))
  have L7 := Lib.hid ((L6'.out.trans (hb.mono L6'.out.size)).alloc (L6'.out.trans (hb.mono L6'.out.size)).size (.cells #[.bool false, .int .u64 0, .int .u64 167772161] 25))
  have s27 : w2.heap.size < (w7.alloc (.cells #[.bool false, .int .u64 0, .int .u64 167772161] 25)).heap.size := by have := hb.size; simp only [World.size_alloc] at this hs6 ⊢; omega
  clear a1 a2 a3 b1 b2 b3 hb E6 E6' KA6 KA6' KB6 KB6' L6 L6' hs6 s26
  obtain ⟨a1, a2, a3⟩ := KA7.out.c3
  obtain ⟨b1, b2, b3⟩ := KB7.out.c3
  go_wp2_with fail
  refine Calls.mono (BY.out _) ?_
  rintro e w8 ⟨A8, c8, rfl, -, -, -, -, -, hb, -⟩
  have E8 := E7.below hb
  have KA8 := Lib.hid (KA7.out.below hb (by omega))
  have KB8 := Lib.hid (KB7.out.below hb (by omega))
  have L8 := Lib.hid (L7.out.trans (hb.mono L7.out.size))
  have s28 : w2.heap.size < w8.heap.size := by have := hb.size; omega
  clear a1 a2 a3 b1 b2 b3 hb E7 KA7 KB7 L7 s27
  obtain ⟨a1, a2, a3⟩ := KA8.out.c3
  obtain ⟨b1, b2, b3⟩ := KB8.out.c3
  go_wp2_with fail
  refine Calls.mono (LS.out _) ?_
  rintro e w9 ⟨rfl, hb⟩
  have E9 := E8.below hb
  have KA9 := Lib.hid (KA8.out.below hb (by omega))
  have KB9 := Lib.hid (KB8.out.below hb (by omega))
  have L9 := Lib.hid (L8.out.trans (hb.mono L8.out.size))
  have s29 : w2.heap.size < w9.heap.size := by have := hb.size; omega
  clear a1 a2 a3 b1 b2 b3 hb E8 KA8 KB8 L8 s28
  obtain ⟨a1, a2, a3⟩ := KA9.out.c3
  obtain ⟨b1, b2, b3⟩ := KB9.out.c3
  go_wp2_with fail
  refine Calls.mono (class_one _) ?_
  rintro e w10 ⟨rfl, hb⟩
  have E10 := E9.below hb
  have KA10 := Lib.hid (KA9.out.below hb (by omega))
  have KB10 := Lib.hid (KB9.out.below hb (by omega))
  have L10 := Lib.hid (L9.out.trans (hb.mono L9.out.size))
  have s210 : w2.heap.size < w10.heap.size := by have := hb.size; omega
  clear a1 a2 a3 b1 b2 b3 hb E9 KA9 KB9 L9 s29
  obtain ⟨a1, a2, a3⟩ := KA10.out.c3
  obtain ⟨b1, b2, b3⟩ := KB10.out.c3
  go_wp2_with fail
  refine Calls.mono (sol_three _) ?_
  rintro e w11 ⟨rfl, hb⟩
  have E11 := E10.below hb
  have KA11 := Lib.hid (KA10.out.below hb (by omega))
  have KB11 := Lib.hid (KB10.out.below hb (by omega))
  have L11 := Lib.hid (L10.out.trans (hb.mono L10.out.size))
  have s211 : w2.heap.size < w11.heap.size := by have := hb.size; omega
  clear a1 a2 a3 b1 b2 b3 hb E10 KA10 KB10 L10 s210
  obtain ⟨a1, a2, a3⟩ := KA11.out.c3
  obtain ⟨b1, b2, b3⟩ := KB11.out.c3
  go_wp2
  go_ret
  exact ⟨rfl, L11.out⟩
end Go.Proofs.YtplidholnfmoeaaDoor
