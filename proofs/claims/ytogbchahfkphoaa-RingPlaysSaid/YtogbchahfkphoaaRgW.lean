/-
  The laws' own helpers (layer 12): kind, awake.
-/
import Derived.Test.YtogbchahfkphoaaRgI
import Derived.Test.YtogbchahfkphoaaRgF
import Derived.Laws.BitsLemmas
namespace Go.Proofs.Ytogbchahfkphoaa
open Go.RowKit
set_option linter.unusedVariables false

theorem i64_and3 (n : Int) : bits .and .i64 n 3 = n % 4 := by
  have h3 : (BitVec.ofInt 64 3).toNat = 2 ^ 2 - 1 := by decide
  have key : (BitVec.ofInt 64 n &&& BitVec.ofInt 64 3).toNat = (n % ((2 ^ 64 : Nat) : Int)).toNat % 2 ^ 2 := by
    rw [BitVec.toNat_and, BitVec.toNat_ofInt, h3, Nat.and_two_pow_sub_one_eq_mod]
  show IntKind.i64.wrap ((BitVec.ofInt 64 n &&& BitVec.ofInt 64 3).toNat : Nat) = n % 4
  rw [key, IntKind.wrap_i64]
  omega
theorem i64_and7 (n : Int) : bits .and .i64 n 7 = n % 8 := by
  have h7 : (BitVec.ofInt 64 7).toNat = 2 ^ 3 - 1 := by decide
  have key : (BitVec.ofInt 64 n &&& BitVec.ofInt 64 7).toNat = (n % ((2 ^ 64 : Nat) : Int)).toNat % 2 ^ 3 := by
    rw [BitVec.toNat_and, BitVec.toNat_ofInt, h7, Nat.and_two_pow_sub_one_eq_mod]
  show IntKind.i64.wrap ((BitVec.ofInt 64 n &&& BitVec.ofInt 64 7).toNat : Nat) = n % 8
  rw [key, IntKind.wrap_i64]
  omega
set_option maxHeartbeats 1000000 in
theorem kind_any (x : Stp) (w : World) : Calls Try.prog 11 #[.agg #[.int .i64 x.1, .int .i64 x.2.1, .string x.2.2]] w fun e w' => e = .returned (.int .i64 (x.1 % 4)) ∧ Below w.heap.size w w' := by
  obtain ⟨q, n, s⟩ := x
  have h3 := i64_and3 q
  go_enter Try.func11, Try.ntmps11
  go_wp2
  go_ret
  exact ⟨rfl, (Below.refl _ _).alloc (Nat.le_refl _) _⟩
theorem ret_as {P : Program} {f : Nat} {args : Array Value} {w : World} {v v' : Value} {R : World → Prop} (h : Calls P f args w fun e w' => e = .returned v ∧ R w') (hv : v = v') : Calls P f args w fun e w' => e = .returned v' ∧ R w' := by rw [hv] at h; exact h
set_option maxRecDepth 100000 in
set_option maxHeartbeats 4000000 in
theorem awake_yes (w : World) : Calls Try.prog 8 #[] w fun e w' => e = .returned (.bool true) ∧ Below w.heap.size w w' := by
  have H1 : Calls Try.prog 31 #[.int .i64 1] w _ := newI_ok 1 (by decide) w
  go_enter Try.func8, Try.ntmps8
  go_wp2_with fail
  refine Calls.mono H1 ?_
  rintro e w1 ⟨r, b, rfl, hR, hb, hr, hbb⟩
  have R1 := Lib.hid hR
  have B1 := Lib.hid (And.intro hb (And.intro hr hbb))
  have H17 := newI_bad 17 (by decide) w1
  clear hR hb hr hbb H1
  go_wp2_with fail
  refine Calls.mono H17 ?_
  rintro e x ⟨rfl, rfl⟩
  have P1 := pushI_ok r b (2 ^ 1) [] 0 5 (by decide) (by decide) w1 R1.out
  clear H17
  go_wp2_with fail
  refine Calls.mono P1 ?_
  rintro e w2 ⟨rfl, hR, hT⟩
  have R2 := Lib.hid hR
  have T2 := Lib.hid hT
  have P2 := pushI_ok r b (2 ^ 1) _ 0 6 (by decide) (by decide) w2 R2.out
  clear P1 hR hT
  go_wp2_with fail
  refine Calls.mono P2 ?_
  rintro e w3 ⟨rfl, hR, hT⟩
  have R3 := Lib.hid hR
  have T3 := Lib.hid (T2.out.trans hT)
  have P3 := pushI_full r b (2 ^ 1) _ 0 7 (by decide) (by decide) w3 R3.out
  clear P2 hR hT
  go_wp2_with fail
  refine Calls.mono P3 ?_
  rintro e w4 ⟨rfl, hR, hT⟩
  have R4 := Lib.hid hR
  have T4 := Lib.hid (T3.out.trans hT)
  have P4 := popI_ok r b (2 ^ 1) _ 0 5 rfl (by decide) w4 R4.out
  clear P3 hR hT
  go_wp2_with fail
  refine Calls.mono P4 ?_
  rintro e w5 ⟨rfl, hR, hT⟩
  have R5 := Lib.hid hR
  have T5 := Lib.hid (T4.out.trans hT)
  have P5 := pushI_ok r b (2 ^ 1) _ 1 7 (by decide) (by decide) w5 R5.out
  clear P4 hR hT
  go_wp2_with fail
  refine Calls.mono P5 ?_
  rintro e w6 ⟨rfl, hR, hT⟩
  have R6 := Lib.hid hR
  have T6 := Lib.hid (T5.out.trans hT)
  have P6 : Calls Try.prog 36 #[.pointer (some ⟨r, 0, none⟩), .int .i64 1] w6 _ := peekI_ok r b (2 ^ 1) _ 1 1 7 rfl (by decide) w6 R6.out
  clear P5 hR hT
  go_wp2_with fail
  refine Calls.mono P6 ?_
  rintro e w7 ⟨rfl, hT⟩
  have R7 := Lib.hid (R6.out.tch hT (by simp) (by simp))
  have T7 := Lib.hid (T6.out.trans (hT.mono (by simp)))
  have P7 := peekI_bad r b (2 ^ 1) _ 1 2 (by decide) (by decide) w7 R7.out
  clear P6 hT
  go_wp2_with fail
  refine Calls.mono P7 ?_
  rintro e w8 ⟨rfl, hT⟩
  have R8 := Lib.hid (R7.out.tch hT (by simp) (by simp))
  have T8 := Lib.hid (T7.out.trans (hT.mono (by simp)))
  have P8 := Lib.hid (ret_as (v' := .int .i64 2) (lenI_any r b (2 ^ 1) _ 1 (by decide) w8 R8.out) rfl)
  clear P7 hT
  go_wp2_with fail
  refine Calls.mono P8.out ?_
  rintro e w9 ⟨rfl, hw9⟩
  have R9 : Hid (RgI w9 r b (2 ^ 1) ([] ++ [[.int .i64 5]] ++ [[.int .i64 6]] ++ [[.int .i64 7]]) 1) := Lib.hid (hw9 ▸ R8.out)
  have T9 : Hid (Tch w1 w9 [r, b]) := Lib.hid (hw9 ▸ T8.out)
  have P9 := Lib.hid (ret_as (v' := .int .i64 0) (roomI_any r b (2 ^ 1) _ 1 (by decide) w9 R9.out) rfl)
  clear hw9 P8
  go_wp2_with fail
  refine Calls.mono P9.out ?_
  rintro e w10 ⟨rfl, hT⟩
  have R10 := Lib.hid (R9.out.tch hT (by simp) (by simp))
  have T10 := Lib.hid (T9.out.trans (hT.mono (by simp)))
  have P10 := Lib.hid (ret_as (v' := .int .u64 3) (pushedI_any r b (2 ^ 1) _ 1 w10 R10.out) rfl)
  clear P9 hT
  go_wp2_with fail
  refine Calls.mono P10.out ?_
  rintro e w11 ⟨rfl, hT⟩
  have R11 := Lib.hid (R10.out.tch hT (by simp) (by simp))
  have T11 := Lib.hid (T10.out.trans (hT.mono (by simp)))
  have P11 := Lib.hid (ret_as (v' := .int .u64 1) (poppedI_any r b (2 ^ 1) _ 1 w11 R11.out) rfl)
  clear P10 hT
  go_wp2_with fail
  refine Calls.mono P11.out ?_
  rintro e w12 ⟨rfl, hT⟩
  have T12 := Lib.hid (T11.out.trans (hT.mono (by simp)))
  clear P11 hT
  go_wp2
  go_ret
  exact ⟨rfl, B1.out.1.trans (T12.out.below B1.out.1.size (by simp; exact ⟨B1.out.2.1, B1.out.2.2⟩))⟩
end Go.Proofs.Ytogbchahfkphoaa
