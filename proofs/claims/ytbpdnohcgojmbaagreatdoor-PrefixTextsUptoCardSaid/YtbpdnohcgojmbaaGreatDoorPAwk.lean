/-
  The chapter's examples that each law of prefixes calls first: they answer true.
-/
import Derived.Test.YtbpdnohcgojmbaaGreatDoorMgD
import Derived.Test.YtbpdnohcgojmbaaGreatDoorMgB
namespace Go.Proofs.YtbpdnohcgojmbaaGreatDoor
open Go.RowKit
set_option linter.unusedVariables false

set_option maxRecDepth 100000 in
set_option maxHeartbeats 1000000 in
theorem ten_at (b : Int) (w : World) : Calls Tryz.prog 11 #[.int .i64 b] w fun e w' => e = .returned (pfx false 0 167772160 b) ∧ Below w.heap.size w w' := by
  go_enter Tryz.func11, Tryz.ntmps11
  go_wp2
  exact bodyPost_ret (v := pfx false 0 167772160 b) (by simp [results, Tryz.results11, go_sem]) rfl ⟨rfl, (Below.refl _ _).alloc (Nat.le_refl _) _⟩
theorem n64_lit {n : Nat} (h : decide (n < 18446744073709551616) = true) : N64 n := by unfold N64; exact of_decide_eq_true h
theorem aw_of (w : World) : Calls Tryz.prog 9 #[adr false 0 167772161, .int .i64 8] w fun e w' => e = .returned (.tuple #[pfx false 0 167772160 8, .int .i64 0]) ∧ Below w.heap.size w w' :=
  ofP_at false 0 167772161 8 (n64_lit rfl) (n64_lit rfl) (by kernel_rfl) w
theorem aw_halves (w : World) : Calls Tryz.prog 10 #[pfx false 0 167772160 8] w fun e w' => e = .returned (.tuple #[pfx false 0 167772160 9, pfx false 0 176160768 9, .int .i64 0]) ∧ Below w.heap.size w w' :=
  halves_any false 0 167772160 8 (n64_lit rfl) (n64_lit rfl) (by kernel_rfl) w
theorem aw_text : pprn false 0 167772160 8 = [49, 48, 46, 48, 46, 48, 46, 48, 47, 56] := by kernel_rfl
theorem aw_pvl : pvl false 0 167772160 8 = true := by kernel_rfl
theorem aw_parse (w : World) (hE : Env w) : Calls Tryz.prog 5 #[.string ⟨#[49, 48, 46, 48, 46, 48, 46, 48, 47, 56]⟩] w fun e w' => e = .returned (.tuple #[pfx false 0 167772160 8, .int .i64 0]) ∧ Below w.heap.size w w' := by
  have h := ppr_prn (s := false) (h := 0) (l := 167772160) (b := 8) (n64_lit rfl) (n64_lit rfl) aw_pvl
  rw [aw_text] at h
  exact pparse_any ⟨#[49, 48, 46, 48, 46, 48, 46, 48, 47, 56]⟩ (by decide) _ h w hE
theorem aw_prs : prsV [49, 48, 46, 48, 46, 48, 46, 49] = .tuple #[adr false 0 167772161, .int .i64 0] := by kernel_rfl
theorem aw_num : numw [56] = some 8 := by kernel_rfl
theorem aw_npv : pvl false 0 167772161 8 = false := by kernel_rfl
theorem aw_parse2 (w : World) (hE : Env w) : Calls Tryz.prog 5 #[.string ⟨#[49, 48, 46, 48, 46, 48, 46, 49, 47, 56]⟩] w fun e w' => e = .returned (.tuple #[pfx false 0 0 0, .int .i64 30]) ∧ Below w.heap.size w w' := by
  refine pparse_any ⟨#[49, 48, 46, 48, 46, 48, 46, 49, 47, 56]⟩ (by decide) _ (.inr ⟨[49, 48, 46, 48, 46, 48, 46, 49], [56], rfl, by decide, .inr ⟨false, 0, 167772161, n64_lit rfl, n64_lit rfl, aw_prs, .inr ⟨fun n e => ?_, rfl⟩⟩⟩) w hE
  rw [aw_num] at e
  cases e
  exact aw_npv
theorem aw_print (w : World) (hE : Env w) : Calls Tryz.prog 7 #[pfx false 0 167772160 8] w fun e w' => e = .returned (.string ⟨#[49, 48, 46, 48, 46, 48, 46, 48, 47, 56]⟩) ∧ Below w.heap.size w w' := by
  have h := pprint_any false 0 167772160 8 (n64_lit rfl) (n64_lit rfl) w hE
  rw [aw_text] at h
  exact h
theorem aw_valid (w : World) : Calls Tryz.prog 12 #[pfx false 0 167772160 8] w fun e w' => e = .returned (.bool true) ∧ Below w.heap.size w w' :=
  pvalid_at false 0 167772160 8 (n64_lit rfl) (n64_lit rfl) aw_pvl w
theorem aw_holds (w : World) : Calls Tryz.prog 13 #[pfx false 0 167772160 8, adr false 0 167772161] w fun e w' => e = .returned (.bool true) ∧ Below w.heap.size w w' :=
  holds_at false 0 167772160 8 false 0 167772161 (n64_lit rfl) (n64_lit rfl) (by kernel_rfl) w
theorem aw_covers (w : World) : Calls Tryz.prog 14 #[pfx false 0 167772160 8, pfx false 0 167772160 9] w fun e w' => e = .returned (.bool true) ∧ Below w.heap.size w w' :=
  covers_at false 0 167772160 8 false 0 167772160 9 (n64_lit rfl) (n64_lit rfl) (by kernel_rfl) w
theorem aw_bitv : bitV false 0 1 31 = 1 := by kernel_rfl
theorem aw_bit (w : World) : Calls Tryz.prog 15 #[adr false 0 1, .int .i64 31] w fun e w' => e = .returned (.int .i64 1) ∧ Below w.heap.size w w' := by
  have h := pbit_any false 0 1 31 (n64_lit rfl) (n64_lit rfl) w
  rw [aw_bitv] at h
  exact h
theorem aw_common (w : World) : Calls Tryz.prog 16 #[adr false 0 167772160, adr false 0 176160768] w fun e w' => e = .returned (.int .i64 8) ∧ Below w.heap.size w w' :=
  common_at false 0 167772160 false 0 176160768 (n64_lit rfl) (n64_lit rfl) (n64_lit rfl) (n64_lit rfl) (by kernel_rfl) w
theorem aw_less (w : World) : Calls Tryz.prog 17 #[pfx false 0 167772160 8, pfx false 0 167772160 9] w fun e w' => e = .returned (.bool true) ∧ Below w.heap.size w w' :=
  pless_at false 0 167772160 8 false 0 167772160 9 (n64_lit rfl) (n64_lit rfl) (n64_lit rfl) (n64_lit rfl) (by kernel_rfl) w

set_option maxRecDepth 100000 in
set_option maxHeartbeats 4000000 in
theorem pawake_yes (w : World) (hE : Env w) : Calls Tryz.prog 4 #[] w fun e w' => e = .returned (.bool true) ∧ Below w.heap.size w w' := by
  go_enter Tryz.func4, Tryz.ntmps4
  go_wp2_with fail
  refine Calls.mono (aw_of _) ?_
  rintro e w1 ⟨rfl, hb⟩
  have L1 := Lib.hid (hb.alloc hb.size (.cells #[.bool false, .int .u64 0, .int .u64 167772160, .int .i64 8] 26))
  have K1 := Lib.hid (Blk.new w1 26 #[.bool false, .int .u64 0, .int .u64 167772160, .int .i64 8])
  have E1 := Lib.hid (hE.below L1.out)
  clear hb hE
  go_wp2_with fail
  refine Calls.mono (ten_at _ _) ?_
  rintro e w2 ⟨rfl, hb⟩
  have K2 := Lib.hid (K1.out.below hb (by simp only [World.size_alloc]; omega))
  have L2 := Lib.hid (L1.out.trans (hb.mono L1.out.size))
  have E2 := Lib.hid (E1.out.below hb)
  have s2 : w1.heap.size < w2.heap.size := K2.out.lt
  clear hb
  go_wp2_with fail
  refine Calls.mono (aw_halves _) ?_
  rintro e w3 ⟨rfl, hb⟩
  have K3 := Lib.hid (((K2.out.below hb s2).alloc (.cells #[.bool false, .int .u64 0, .int .u64 167772160, .int .i64 9] 26)).alloc (.cells #[.bool false, .int .u64 0, .int .u64 176160768, .int .i64 9] 26))
  have X3 := Lib.hid ((Blk.new w3 26 #[.bool false, .int .u64 0, .int .u64 167772160, .int .i64 9]).alloc (.cells #[.bool false, .int .u64 0, .int .u64 176160768, .int .i64 9] 26))
  have Y3 := Lib.hid (Blk.new (w3.alloc (.cells #[.bool false, .int .u64 0, .int .u64 167772160, .int .i64 9] 26)) 26 #[.bool false, .int .u64 0, .int .u64 176160768, .int .i64 9])
  rw [World.size_alloc] at Y3
  have L3 := Lib.hid (((L2.out.trans (hb.mono L2.out.size)).alloc (L2.out.trans (hb.mono L2.out.size)).size (.cells #[.bool false, .int .u64 0, .int .u64 167772160, .int .i64 9] 26)).alloc ((L2.out.trans (hb.mono L2.out.size)).alloc (L2.out.trans (hb.mono L2.out.size)).size (.cells #[.bool false, .int .u64 0, .int .u64 167772160, .int .i64 9] 26)).size (.cells #[.bool false, .int .u64 0, .int .u64 176160768, .int .i64 9] 26))
  have E3 := Lib.hid (((E2.out.below hb).alloc (.cells #[.bool false, .int .u64 0, .int .u64 167772160, .int .i64 9] 26)).alloc (.cells #[.bool false, .int .u64 0, .int .u64 176160768, .int .i64 9] 26))
  have s3 : w1.heap.size < w3.heap.size := by have := hb.size; omega
  clear hb
  go_wp2_with fail
  refine Calls.mono (aw_parse _ E3.out) ?_
  rintro e w4 ⟨rfl, hb⟩
  have K4 := Lib.hid ((K3.out.below hb (by simp only [World.size_alloc]; omega)).alloc (.cells #[.bool false, .int .u64 0, .int .u64 167772160, .int .i64 8] 26))
  have X4 := Lib.hid ((X3.out.below hb (by simp only [World.size_alloc]; omega)).alloc (.cells #[.bool false, .int .u64 0, .int .u64 167772160, .int .i64 8] 26))
  have Y4 := Lib.hid ((Y3.out.below hb (by simp only [World.size_alloc]; omega)).alloc (.cells #[.bool false, .int .u64 0, .int .u64 167772160, .int .i64 8] 26))
  have Q4 := Lib.hid (Blk.new w4 26 #[.bool false, .int .u64 0, .int .u64 167772160, .int .i64 8])
  have L4 := Lib.hid ((L3.out.trans (hb.mono L3.out.size)).alloc (L3.out.trans (hb.mono L3.out.size)).size (.cells #[.bool false, .int .u64 0, .int .u64 167772160, .int .i64 8] 26))
  have E4 := Lib.hid ((E3.out.below hb).alloc (.cells #[.bool false, .int .u64 0, .int .u64 167772160, .int .i64 8] 26))
  have s4 : w3.heap.size + 1 < w4.heap.size := by have := hb.size; simp only [World.size_alloc] at this; omega
  clear hb
  go_wp2_with fail
  refine Calls.mono (aw_parse2 _ E4.out) ?_
  rintro e w5 ⟨rfl, hb⟩
  have K5 := Lib.hid ((K4.out.below hb (by simp only [World.size_alloc]; omega)).alloc (.cells #[.bool false, .int .u64 0, .int .u64 0, .int .i64 0] 26))
  have X5 := Lib.hid ((X4.out.below hb (by simp only [World.size_alloc]; omega)).alloc (.cells #[.bool false, .int .u64 0, .int .u64 0, .int .i64 0] 26))
  have Y5 := Lib.hid ((Y4.out.below hb (by simp only [World.size_alloc]; omega)).alloc (.cells #[.bool false, .int .u64 0, .int .u64 0, .int .i64 0] 26))
  have Q5 := Lib.hid ((Q4.out.below hb (by simp only [World.size_alloc]; omega)).alloc (.cells #[.bool false, .int .u64 0, .int .u64 0, .int .i64 0] 26))
  have L5 := Lib.hid ((L4.out.trans (hb.mono L4.out.size)).alloc (L4.out.trans (hb.mono L4.out.size)).size (.cells #[.bool false, .int .u64 0, .int .u64 0, .int .i64 0] 26))
  have E5 := Lib.hid ((E4.out.below hb).alloc (.cells #[.bool false, .int .u64 0, .int .u64 0, .int .i64 0] 26))
  have s5 : w4.heap.size < (w5.alloc (.cells #[.bool false, .int .u64 0, .int .u64 0, .int .i64 0] 26)).heap.size := by have := hb.size; simp only [World.size_alloc] at this ⊢; omega
  clear hb
  go_wp2
  generalize w5.alloc (.cells #[.bool false, .int .u64 0, .int .u64 0, .int .i64 0] 26) = w6 at *
  generalize w1.heap.size = ga at *
  generalize w3.heap.size = gx at *
  generalize w4.heap.size = gq at *
  have hga : ga < w6.heap.size := K5.out.lt
  have hgx : gx < w6.heap.size := X5.out.lt
  have hgy : gx + 1 < w6.heap.size := Y5.out.lt
  have hgq : gq < w6.heap.size := Q5.out.lt
  have HC : Hid (∀ W', Below w6.heap.size w6 W' → W'.cell? ⟨ga, 0, none⟩ = some (.bool false) ∧ W'.cell? ⟨ga, 1, none⟩ = some (.int .u64 0) ∧ W'.cell? ⟨ga, 2, none⟩ = some (.int .u64 167772160) ∧ W'.cell? ⟨ga, 3, none⟩ = some (.int .i64 8) ∧ W'.cell? ⟨gx, 0, none⟩ = some (.bool false) ∧ W'.cell? ⟨gx, 1, none⟩ = some (.int .u64 0) ∧ W'.cell? ⟨gx, 2, none⟩ = some (.int .u64 167772160) ∧ W'.cell? ⟨gx, 3, none⟩ = some (.int .i64 9) ∧ W'.cell? ⟨gx + 1, 0, none⟩ = some (.bool false) ∧ W'.cell? ⟨gx + 1, 1, none⟩ = some (.int .u64 0) ∧ W'.cell? ⟨gx + 1, 2, none⟩ = some (.int .u64 176160768) ∧ W'.cell? ⟨gx + 1, 3, none⟩ = some (.int .i64 9)) := by
    show ∀ W', _ → _
    intro W' hB
    obtain ⟨a0, a1, a2, a3⟩ := (K5.out.below hB hga).c4
    obtain ⟨b0, b1, b2, b3⟩ := (X5.out.below hB hgx).c4
    obtain ⟨c0, c1, c2, c3⟩ := (Y5.out.below hB hgy).c4
    exact ⟨a0, a1, a2, a3, b0, b1, b2, b3, c0, c1, c2, c3⟩
  have hR : Below w6.heap.size w6 w6.drew := (Below.refl _ _).drew
  obtain ⟨a0, a1, a2, a3⟩ := K5.out.c4
  obtain ⟨b0, b1, b2, b3⟩ := X5.out.c4
  obtain ⟨c0, c1, c2, c3⟩ := Y5.out.c4
  go_region_held3 (fun w' => w'.cell? ⟨ga, 0, none⟩ = some (.bool false) ∧ w'.cell? ⟨ga, 1, none⟩ = some (.int .u64 0) ∧ w'.cell? ⟨ga, 2, none⟩ = some (.int .u64 167772160) ∧ w'.cell? ⟨ga, 3, none⟩ = some (.int .i64 8) ∧ w'.cell? ⟨gx, 0, none⟩ = some (.bool false) ∧ w'.cell? ⟨gx, 1, none⟩ = some (.int .u64 0) ∧ w'.cell? ⟨gx, 2, none⟩ = some (.int .u64 167772160) ∧ w'.cell? ⟨gx, 3, none⟩ = some (.int .i64 9) ∧ w'.cell? ⟨gx + 1, 0, none⟩ = some (.bool false) ∧ w'.cell? ⟨gx + 1, 1, none⟩ = some (.int .u64 0) ∧ w'.cell? ⟨gx + 1, 2, none⟩ = some (.int .u64 176160768) ∧ w'.cell? ⟨gx + 1, 3, none⟩ = some (.int .i64 9))
    (first | exact HC.out _ hR | go_keep)
    ((go_at_call 11; (with_reducible refine Calls.mono (ten_at _ _) ?_); rintro e W' ⟨rfl, hb⟩; replace hR := hR.trans (hb.mono hR.size); clear hb))
  have R7 := Lib.hid hR
  clear hR a0 a1 a2 a3 b0 b1 b2 b3 c0 c1 c2 c3
  obtain ⟨a0, a1, a2, a3, b0, b1, b2, b3, c0, c1, c2, c3⟩ := HC.out _ R7.out
  obtain ⟨q0, q1, q2, q3⟩ := (Q5.out.below R7.out hgq).c4
  go_wp2_with fail
  refine Calls.mono (aw_print _ (E5.out.below R7.out)) ?_
  rintro e w8 ⟨rfl, hb⟩
  clear a0 a1 a2 a3 b0 b1 b2 b3 c0 c1 c2 c3 q0 q1 q2 q3
  have R8 := Lib.hid (R7.out.trans (hb.mono R7.out.size))
  clear hb
  obtain ⟨a0, a1, a2, a3, b0, b1, b2, b3, c0, c1, c2, c3⟩ := HC.out _ R8.out
  obtain ⟨q0, q1, q2, q3⟩ := (Q5.out.below R8.out hgq).c4
  go_wp2_with fail
  refine Calls.mono (aw_valid _) ?_
  rintro e w9 ⟨rfl, hb⟩
  clear a0 a1 a2 a3 b0 b1 b2 b3 c0 c1 c2 c3 q0 q1 q2 q3
  have R9 := Lib.hid (R8.out.trans (hb.mono R8.out.size))
  clear hb
  obtain ⟨a0, a1, a2, a3, b0, b1, b2, b3, c0, c1, c2, c3⟩ := HC.out _ R9.out
  obtain ⟨q0, q1, q2, q3⟩ := (Q5.out.below R9.out hgq).c4
  go_wp2_with fail
  refine Calls.mono (aw_holds _) ?_
  rintro e w10 ⟨rfl, hb⟩
  clear a0 a1 a2 a3 b0 b1 b2 b3 c0 c1 c2 c3 q0 q1 q2 q3
  have R10 := Lib.hid (R9.out.trans (hb.mono R9.out.size))
  clear hb
  obtain ⟨a0, a1, a2, a3, b0, b1, b2, b3, c0, c1, c2, c3⟩ := HC.out _ R10.out
  obtain ⟨q0, q1, q2, q3⟩ := (Q5.out.below R10.out hgq).c4
  go_wp2_with fail
  refine Calls.mono (aw_covers _) ?_
  rintro e w11 ⟨rfl, hb⟩
  clear a0 a1 a2 a3 b0 b1 b2 b3 c0 c1 c2 c3 q0 q1 q2 q3
  have R11 := Lib.hid (R10.out.trans (hb.mono R10.out.size))
  clear hb
  obtain ⟨a0, a1, a2, a3, b0, b1, b2, b3, c0, c1, c2, c3⟩ := HC.out _ R11.out
  obtain ⟨q0, q1, q2, q3⟩ := (Q5.out.below R11.out hgq).c4
  go_wp2_with fail
  refine Calls.mono (aw_bit _) ?_
  rintro e w12 ⟨rfl, hb⟩
  clear a0 a1 a2 a3 b0 b1 b2 b3 c0 c1 c2 c3 q0 q1 q2 q3
  have R12 := Lib.hid (R11.out.trans (hb.mono R11.out.size))
  clear hb
  obtain ⟨a0, a1, a2, a3, b0, b1, b2, b3, c0, c1, c2, c3⟩ := HC.out _ R12.out
  obtain ⟨q0, q1, q2, q3⟩ := (Q5.out.below R12.out hgq).c4
  go_wp2_with fail
  refine Calls.mono (aw_common _) ?_
  rintro e w13 ⟨rfl, hb⟩
  clear a0 a1 a2 a3 b0 b1 b2 b3 c0 c1 c2 c3 q0 q1 q2 q3
  have R13 := Lib.hid (R12.out.trans (hb.mono R12.out.size))
  clear hb
  obtain ⟨a0, a1, a2, a3, b0, b1, b2, b3, c0, c1, c2, c3⟩ := HC.out _ R13.out
  obtain ⟨q0, q1, q2, q3⟩ := (Q5.out.below R13.out hgq).c4
  go_wp2_with fail
  refine Calls.mono (aw_less _) ?_
  rintro e w14 ⟨rfl, hb⟩
  clear a0 a1 a2 a3 b0 b1 b2 b3 c0 c1 c2 c3 q0 q1 q2 q3
  have R14 := Lib.hid (R13.out.trans (hb.mono R13.out.size))
  clear hb
  obtain ⟨a0, a1, a2, a3, b0, b1, b2, b3, c0, c1, c2, c3⟩ := HC.out _ R14.out
  obtain ⟨q0, q1, q2, q3⟩ := (Q5.out.below R14.out hgq).c4
  clear a0 a1 a2 a3 b0 b1 b2 b3 c0 c1 c2 c3 q0 q1 q2 q3
  go_wp2
  go_ret
  exact ⟨rfl, L5.out.trans (R14.out.mono L5.out.size)⟩
end Go.Proofs.YtbpdnohcgojmbaaGreatDoor
