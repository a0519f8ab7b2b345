/-
  prefix.Bit of any address.
-/
import Derived.Test.YtecgmejfkfoceaaDoorPLs
namespace Go.Proofs.YtecgmejfkfoceaaDoor
open Go.RowKit
set_option linter.unusedVariables false

def bitV (s : Bool) (h l : Nat) (i : Int) : Int := if vld s h l = true ∧ 0 ≤ i ∧ i < (wd s : Int) then ((bt (nm h l) (wd s) i.toNat : Nat) : Int) else 0
theorem before_is (s : Bool) (h l z : Int) (hz : 128 - (wd s : Int) = z) (w : World) :
    Calls Tryd.prog 52 #[adr s h l] w fun e w' => e = .returned (.int .i64 z) ∧ Below w.heap.size w w' := by
  subst hz; exact before_at s h l _ rfl w
theorem one_bit (x : Nat) (j : Nat) (hx : N64 x) : bits BinOp.and IntKind.u64 ((x : Int) / 2 ^ j) 1 = ((x / 2 ^ j % 2 : Nat) : Int) := by
  have e : (x : Int) / 2 ^ j = ((x / 2 ^ j : Nat) : Int) := by simp
  have h1 : x / 2 ^ j < 18446744073709551616 := Nat.lt_of_le_of_lt (Nat.div_le_self _ _) hx
  rw [e, show (1 : Int) = ((1 : Nat) : Int) from rfl, u64_and_nat _ 1 h1 (by decide), nat_mask1]
theorem wrap_bit (n : Nat) : wrap64 ((n % 2 : Nat) : Int) = ((n % 2 : Nat) : Int) := by
  unfold wrap64; omega
theorem ret_i64 {a b : Int} (h : a = b) : Ending.returned (.int .i64 a) = .returned (.int .i64 b) := by rw [h]
theorem bit_val (x : Nat) (j k : Nat) (hx : N64 x) (hj : j = k) : wrap64 (bits BinOp.and IntKind.u64 ((x : Int) / 2 ^ j) 1) = ((x / 2 ^ k % 2 : Nat) : Int) := by
  rw [one_bit x j hx, wrap_bit, hj]

set_option maxRecDepth 100000 in
set_option maxHeartbeats 4000000 in
theorem bit_hi (h l : Nat) (i : Int) (hh : N64 h) (hl : N64 l) (h0 : 0 ≤ i) (h1 : i < 64) (w : World) :
    Calls Tryd.prog 15 #[adr true h l, .int .i64 i] w fun e w' => e = .returned (.int .i64 (bitV true h l i)) ∧ Below w.heap.size w w' := by
  have HV := Lib.hid (fun w => valid_at true h l w (vld_six h l))
  have HW := Lib.hid (fun w => width_at true h l 128 rfl w)
  have HB := Lib.hid (fun w => before_is true h l 0 rfl w)
  obtain ⟨R, hR⟩ : ∃ R, bitV true h l i = R := ⟨_, rfl⟩
  rw [hR]
  have HR := Lib.hid hR
  have HX := Lib.hid (vld_six h l)
  clear hR
  go_enter Tryd.func15, Tryd.ntmps15
  go_wp2_with fail
  refine Calls.mono (HV.out _) ?_
  rintro e w1 ⟨rfl, hb⟩
  have K1 := Lib.hid ((Blk.new w 24 #[.bool true, .int .u64 h, .int .u64 l]).below hb (by simp only [World.size_alloc]; omega))
  have L1 := Lib.hid (((Below.refl _ w).alloc (Nat.le_refl _) _).trans (hb.mono (by simp only [World.size_alloc]; omega)))
  have s1 : w.heap.size < w1.heap.size := by have := hb.size; simp only [World.size_alloc] at this; omega
  clear hb
  obtain ⟨f0, f1, f2⟩ := K1.out.c3
  go_wp2_with fail
  refine Calls.mono (HW.out _) ?_
  rintro e w2 ⟨rfl, hb⟩
  clear f0 f1 f2
  have K2 := Lib.hid (K1.out.below hb (by omega))
  have L2 := Lib.hid (L1.out.trans (hb.mono L1.out.size))
  have s2 : w.heap.size < w2.heap.size := by have := hb.size; omega
  clear hb
  obtain ⟨f0, f1, f2⟩ := K2.out.c3
  go_wp2_with fail
  refine Calls.mono (HB.out _) ?_
  rintro e w3 ⟨rfl, hb⟩
  clear f0 f1 f2
  have K3 := Lib.hid (K2.out.below hb (by omega))
  have L3 := Lib.hid (L2.out.trans (hb.mono L2.out.size))
  have s3 : w.heap.size < w3.heap.size := by have := hb.size; omega
  clear hb
  obtain ⟨f0, f1, f2⟩ := K3.out.c3
  go_wp2
  go_ret
  refine ⟨ret_i64 ?_, L3.out⟩
  rw [← HR.out]
  unfold bitV
  rw [if_pos ⟨HX.out, by omega, by show i < (128 : Int); omega⟩]
  rw [bit_val h _ (127 - i.toNat - 64) hh (by omega)]
  unfold bt
  rw [show wd true - 1 - i.toNat = 64 + (127 - i.toNat - 64) by unfold wd; simp; omega, nm_bit_hi h l _ hl.lt]

set_option maxRecDepth 100000 in
set_option maxHeartbeats 4000000 in
theorem bit_lo (h l : Nat) (i : Int) (hh : N64 h) (hl : N64 l) (h0 : 64 ≤ i) (h1 : i < 128) (w : World) :
    Calls Tryd.prog 15 #[adr true h l, .int .i64 i] w fun e w' => e = .returned (.int .i64 (bitV true h l i)) ∧ Below w.heap.size w w' := by
  have HV := Lib.hid (fun w => valid_at true h l w (vld_six h l))
  have HW := Lib.hid (fun w => width_at true h l 128 rfl w)
  have HB := Lib.hid (fun w => before_is true h l 0 rfl w)
  obtain ⟨R, hR⟩ : ∃ R, bitV true h l i = R := ⟨_, rfl⟩
  rw [hR]
  have HR := Lib.hid hR
  have HX := Lib.hid (vld_six h l)
  clear hR
  go_enter Tryd.func15, Tryd.ntmps15
  go_wp2_with fail
  refine Calls.mono (HV.out _) ?_
  rintro e w1 ⟨rfl, hb⟩
  have K1 := Lib.hid ((Blk.new w 24 #[.bool true, .int .u64 h, .int .u64 l]).below hb (by simp only [World.size_alloc]; omega))
  have L1 := Lib.hid (((Below.refl _ w).alloc (Nat.le_refl _) _).trans (hb.mono (by simp only [World.size_alloc]; omega)))
  have s1 : w.heap.size < w1.heap.size := by have := hb.size; simp only [World.size_alloc] at this; omega
  clear hb
  obtain ⟨f0, f1, f2⟩ := K1.out.c3
  go_wp2_with fail
  refine Calls.mono (HW.out _) ?_
  rintro e w2 ⟨rfl, hb⟩
  clear f0 f1 f2
  have K2 := Lib.hid (K1.out.below hb (by omega))
  have L2 := Lib.hid (L1.out.trans (hb.mono L1.out.size))
  have s2 : w.heap.size < w2.heap.size := by have := hb.size; omega
  clear hb
  obtain ⟨f0, f1, f2⟩ := K2.out.c3
  go_wp2_with fail
  refine Calls.mono (HB.out _) ?_
  rintro e w3 ⟨rfl, hb⟩
  clear f0 f1 f2
  have K3 := Lib.hid (K2.out.below hb (by omega))
  have L3 := Lib.hid (L2.out.trans (hb.mono L2.out.size))
  have s3 : w.heap.size < w3.heap.size := by have := hb.size; omega
  clear hb
  obtain ⟨f0, f1, f2⟩ := K3.out.c3
  go_wp2
  go_ret
  refine ⟨ret_i64 ?_, L3.out⟩
  rw [← HR.out]
  unfold bitV
  rw [if_pos ⟨HX.out, by omega, by show i < (128 : Int); omega⟩]
  rw [bit_val l _ (127 - i.toNat) hl (by omega)]
  unfold bt
  rw [show wd true - 1 - i.toNat = 127 - i.toNat by unfold wd; simp, nm_bit_lo h l _ (by omega)]

set_option maxRecDepth 100000 in
set_option maxHeartbeats 4000000 in
theorem bit_fo (h l : Nat) (i : Int) (hh : N64 h) (hl : N64 l) (h0 : 0 ≤ i) (h1 : i < 32) (hv : vld false h l = true) (w : World) :
    Calls Tryd.prog 15 #[adr false h l, .int .i64 i] w fun e w' => e = .returned (.int .i64 (bitV false h l i)) ∧ Below w.heap.size w w' := by
  have HV := Lib.hid (fun w => valid_at false h l w hv)
  have HW := Lib.hid (fun w => width_at false h l 32 rfl w)
  have HB := Lib.hid (fun w => before_is false h l 96 rfl w)
  obtain ⟨R, hR⟩ : ∃ R, bitV false h l i = R := ⟨_, rfl⟩
  rw [hR]
  have HR := Lib.hid hR
  have HX := Lib.hid hv
  clear hv
  clear hR
  go_enter Tryd.func15, Tryd.ntmps15
  go_wp2_with fail
  refine Calls.mono (HV.out _) ?_
  rintro e w1 ⟨rfl, hb⟩
  have K1 := Lib.hid ((Blk.new w 24 #[.bool false, .int .u64 h, .int .u64 l]).below hb (by simp only [World.size_alloc]; omega))
  have L1 := Lib.hid (((Below.refl _ w).alloc (Nat.le_refl _) _).trans (hb.mono (by simp only [World.size_alloc]; omega)))
  have s1 : w.heap.size < w1.heap.size := by have := hb.size; simp only [World.size_alloc] at this; omega
  clear hb
  obtain ⟨f0, f1, f2⟩ := K1.out.c3
  go_wp2_with fail
  refine Calls.mono (HW.out _) ?_
  rintro e w2 ⟨rfl, hb⟩
  clear f0 f1 f2
  have K2 := Lib.hid (K1.out.below hb (by omega))
  have L2 := Lib.hid (L1.out.trans (hb.mono L1.out.size))
  have s2 : w.heap.size < w2.heap.size := by have := hb.size; omega
  clear hb
  obtain ⟨f0, f1, f2⟩ := K2.out.c3
  go_wp2_with fail
  refine Calls.mono (HB.out _) ?_
  rintro e w3 ⟨rfl, hb⟩
  clear f0 f1 f2
  have K3 := Lib.hid (K2.out.below hb (by omega))
  have L3 := Lib.hid (L2.out.trans (hb.mono L2.out.size))
  have s3 : w.heap.size < w3.heap.size := by have := hb.size; omega
  clear hb
  obtain ⟨f0, f1, f2⟩ := K3.out.c3
  go_wp2
  go_ret
  refine ⟨ret_i64 ?_, L3.out⟩
  rw [← HR.out]
  unfold bitV
  rw [if_pos ⟨HX.out, by omega, by show i < (32 : Int); omega⟩]
  rw [bit_val l _ (31 - i.toNat) hl (by omega)]
  unfold bt
  rw [show wd false - 1 - i.toNat = 31 - i.toNat by unfold wd; simp, nm_bit_lo h l _ (by omega)]

set_option maxRecDepth 100000 in
set_option maxHeartbeats 4000000 in
theorem bit_bad (s : Bool) (h l : Nat) (i : Int) (hh : N64 h) (hl : N64 l) (hv : vld s h l = false) (w : World) :
    Calls Tryd.prog 15 #[adr s h l, .int .i64 i] w fun e w' => e = .returned (.int .i64 (bitV s h l i)) ∧ Below w.heap.size w w' := by
  have HV := Lib.hid (fun w => valid_at s h l w hv)
  obtain ⟨R, hR⟩ : ∃ R, bitV s h l i = R := ⟨_, rfl⟩
  rw [hR]
  have HR := Lib.hid hR
  have HX := Lib.hid hv
  clear hv
  clear hR
  go_enter Tryd.func15, Tryd.ntmps15
  go_wp2_with fail
  refine Calls.mono (HV.out _) ?_
  rintro e w1 ⟨rfl, hb⟩
  have K1 := Lib.hid ((Blk.new w 24 #[.bool s, .int .u64 h, .int .u64 l]).below hb (by simp only [World.size_alloc]; omega))
  have L1 := Lib.hid (((Below.refl _ w).alloc (Nat.le_refl _) _).trans (hb.mono (by simp only [World.size_alloc]; omega)))
  have s1 : w.heap.size < w1.heap.size := by have := hb.size; simp only [World.size_alloc] at this; omega
  clear hb
  obtain ⟨f0, f1, f2⟩ := K1.out.c3
  clear f0 f1 f2
  go_wp2
  go_ret
  exact ⟨ret_i64 (by rw [← HR.out]; unfold bitV; rw [if_neg (by rintro ⟨x, y, _⟩; first | omega | (rw [HX.out] at x; cases x))]), L1.out⟩

set_option maxRecDepth 100000 in
set_option maxHeartbeats 4000000 in
theorem bit_neg (s : Bool) (h l : Nat) (i : Int) (hh : N64 h) (hl : N64 l) (hv : vld s h l = true) (h0 : i < 0) (w : World) :
    Calls Tryd.prog 15 #[adr s h l, .int .i64 i] w fun e w' => e = .returned (.int .i64 (bitV s h l i)) ∧ Below w.heap.size w w' := by
  have HV := Lib.hid (fun w => valid_at s h l w hv)
  obtain ⟨R, hR⟩ : ∃ R, bitV s h l i = R := ⟨_, rfl⟩
  rw [hR]
  have HR := Lib.hid hR
  clear hv
  clear hR
  go_enter Tryd.func15, Tryd.ntmps15
  go_wp2_with fail
  refine Calls.mono (HV.out _) ?_
  rintro e w1 ⟨rfl, hb⟩
  have K1 := Lib.hid ((Blk.new w 24 #[.bool s, .int .u64 h, .int .u64 l]).below hb (by simp only [World.size_alloc]; omega))
  have L1 := Lib.hid (((Below.refl _ w).alloc (Nat.le_refl _) _).trans (hb.mono (by simp only [World.size_alloc]; omega)))
  have s1 : w.heap.size < w1.heap.size := by have := hb.size; simp only [World.size_alloc] at this; omega
  clear hb
  obtain ⟨f0, f1, f2⟩ := K1.out.c3
  clear f0 f1 f2
  go_wp2
  go_ret
  exact ⟨ret_i64 (by rw [← HR.out]; unfold bitV; rw [if_neg (by rintro ⟨x, y, _⟩; first | omega | (rw [HX.out] at x; cases x))]), L1.out⟩

set_option maxRecDepth 100000 in
set_option maxHeartbeats 4000000 in
theorem bit_out (s : Bool) (h l : Nat) (i : Int) (hh : N64 h) (hl : N64 l) (hv : vld s h l = true) (W : Int) (hW : (wd s : Int) = W) (h0 : W ≤ i) (w : World) :
    Calls Tryd.prog 15 #[adr s h l, .int .i64 i] w fun e w' => e = .returned (.int .i64 (bitV s h l i)) ∧ Below w.heap.size w w' := by
  have HV := Lib.hid (fun w => valid_at s h l w hv)
  have HW := Lib.hid (fun w => width_at s h l W hW w)
  obtain ⟨R, hR⟩ : ∃ R, bitV s h l i = R := ⟨_, rfl⟩
  rw [hR]
  have HR := Lib.hid hR
  have HX := Lib.hid hW
  have W0 : 0 ≤ W := by omega
  have W1 : ¬ i < 0 := by omega
  clear hv hW
  clear hR
  go_enter Tryd.func15, Tryd.ntmps15
  go_wp2_with fail
  refine Calls.mono (HV.out _) ?_
  rintro e w1 ⟨rfl, hb⟩
  have K1 := Lib.hid ((Blk.new w 24 #[.bool s, .int .u64 h, .int .u64 l]).below hb (by simp only [World.size_alloc]; omega))
  have L1 := Lib.hid (((Below.refl _ w).alloc (Nat.le_refl _) _).trans (hb.mono (by simp only [World.size_alloc]; omega)))
  have s1 : w.heap.size < w1.heap.size := by have := hb.size; simp only [World.size_alloc] at this; omega
  clear hb
  obtain ⟨f0, f1, f2⟩ := K1.out.c3
  go_wp2_with fail
  refine Calls.mono (HW.out _) ?_
  rintro e w2 ⟨rfl, hb⟩
  clear f0 f1 f2
  have K2 := Lib.hid (K1.out.below hb (by omega))
  have L2 := Lib.hid (L1.out.trans (hb.mono L1.out.size))
  have s2 : w.heap.size < w2.heap.size := by have := hb.size; omega
  clear hb
  obtain ⟨f0, f1, f2⟩ := K2.out.c3
  clear f0 f1 f2
  go_wp2
  go_ret
  exact ⟨ret_i64 (by rw [← HR.out]; unfold bitV; rw [if_neg (by rintro ⟨_, _, x⟩; have := HX.out; omega)]), L2.out⟩

theorem pbit_any (s : Bool) (h l : Nat) (i : Int) (hh : N64 h) (hl : N64 l) (w : World) :
    Calls Tryd.prog 15 #[adr s h l, .int .i64 i] w fun e w' => e = .returned (.int .i64 (bitV s h l i)) ∧ Below w.heap.size w w' := by
  by_cases hv : vld s h l = true
  · by_cases hn : i < 0
    · exact bit_neg s h l i hh hl hv hn w
    · by_cases ho : (wd s : Int) ≤ i
      · exact bit_out s h l i hh hl hv _ rfl ho w
      · cases s
        · exact bit_fo h l i hh hl (by omega) (by have : (wd false : Int) = 32 := rfl; omega) hv w
        · by_cases h64 : i < 64
          · exact bit_hi h l i hh hl (by omega) h64 w
          · exact bit_lo h l i hh hl (by omega) (by have : (wd true : Int) = 128 := rfl; omega) w
  · exact bit_bad s h l i hh hl (by simpa using hv) w
end Go.Proofs.YtecgmejfkfoceaaDoor
