/-
  The document's own Of, of any address and number of bits.
-/
import Derived.Test.YtecgmejfkfoceaaDoorPRCut
namespace Go.Proofs.YtecgmejfkfoceaaDoor
open Go.RowKit
set_option linter.unusedVariables false

set_option maxRecDepth 100000 in
set_option maxHeartbeats 4000000 in
theorem ro_a (s : Bool) (h l : Nat) (b : Int) (v : vld s h l = false) (w : World) :
    Calls Tryd.prog 14 #[adr s h l, .int .i64 b] w fun e w' => e = .returned (.tuple #[pfx false 0 0 0, .int .i64 1]) ∧ Below w.heap.size w w' := by
  have HV := Lib.hid (fun w => rvalid_at s h l w v)
  clear v
  go_enter Tryd.func14, Tryd.ntmps14
  go_wp2_with fail
  refine Calls.mono (HV.out _) ?_
  rintro e w1 ⟨rfl, hb⟩
  have K1 := Lib.hid ((Blk.new w 24 #[.bool s, .int .u64 h, .int .u64 l]).alloc (.cells #[.bool false, .int .u64 0, .int .u64 0, .int .i64 0] 26) |>.below hb (by simp only [World.size_alloc]; omega))
  have R1 := Lib.hid ((Blk.new (w.alloc (.cells #[.bool s, .int .u64 h, .int .u64 l] 24)) 26 #[.bool false, .int .u64 0, .int .u64 0, .int .i64 0]).below hb (by simp only [World.size_alloc]; omega))
  have L1 := Lib.hid ((((Below.refl _ w).alloc (Nat.le_refl _) _).alloc (by simp) _).trans (hb.mono (by simp only [World.size_alloc]; omega)))
  have s1 : w.heap.size + 1 < w1.heap.size := by have := hb.size; simp only [World.size_alloc] at this; omega
  rw [World.size_alloc] at R1
  obtain ⟨f0, f1, f2⟩ := K1.out.c3
  clear hb
  clear f0 f1 f2
  obtain ⟨g0, g1, g2, g3⟩ := R1.out.c4
  have z0 := R1.out.frozen 0
  have z1 := R1.out.frozen 1
  have z2 := R1.out.frozen 2
  have z3 := R1.out.frozen 3
  go_wp2
  refine bodyPost_ret (v := .tuple #[pfx false 0 0 0, .int .i64 1]) (by simp [results, Tryd.results14, go_sem, g0, g1, g2, g3]) rfl ⟨rfl, ?_⟩
  iterate 4 refine Below.setCell ?_ (by simp) _
  exact L1.out

set_option maxRecDepth 100000 in
set_option maxHeartbeats 4000000 in
theorem ro_b (s : Bool) (h l : Nat) (b : Int) (v : vld s h l = true) (hb0 : b < 0) (w : World) :
    Calls Tryd.prog 14 #[adr s h l, .int .i64 b] w fun e w' => e = .returned (.tuple #[pfx false 0 0 0, .int .i64 1]) ∧ Below w.heap.size w w' := by
  have HV := Lib.hid (fun w => rvalid_at s h l w v)
  clear v
  go_enter Tryd.func14, Tryd.ntmps14
  go_wp2_with fail
  refine Calls.mono (HV.out _) ?_
  rintro e w1 ⟨rfl, hb⟩
  have K1 := Lib.hid ((Blk.new w 24 #[.bool s, .int .u64 h, .int .u64 l]).alloc (.cells #[.bool false, .int .u64 0, .int .u64 0, .int .i64 0] 26) |>.below hb (by simp only [World.size_alloc]; omega))
  have R1 := Lib.hid ((Blk.new (w.alloc (.cells #[.bool s, .int .u64 h, .int .u64 l] 24)) 26 #[.bool false, .int .u64 0, .int .u64 0, .int .i64 0]).below hb (by simp only [World.size_alloc]; omega))
  have L1 := Lib.hid ((((Below.refl _ w).alloc (Nat.le_refl _) _).alloc (by simp) _).trans (hb.mono (by simp only [World.size_alloc]; omega)))
  have s1 : w.heap.size + 1 < w1.heap.size := by have := hb.size; simp only [World.size_alloc] at this; omega
  rw [World.size_alloc] at R1
  obtain ⟨f0, f1, f2⟩ := K1.out.c3
  clear hb
  clear f0 f1 f2
  obtain ⟨g0, g1, g2, g3⟩ := R1.out.c4
  have z0 := R1.out.frozen 0
  have z1 := R1.out.frozen 1
  have z2 := R1.out.frozen 2
  have z3 := R1.out.frozen 3
  go_wp2
  refine bodyPost_ret (v := .tuple #[pfx false 0 0 0, .int .i64 1]) (by simp [results, Tryd.results14, go_sem, g0, g1, g2, g3]) rfl ⟨rfl, ?_⟩
  iterate 4 refine Below.setCell ?_ (by simp) _
  exact L1.out

set_option maxRecDepth 100000 in
set_option maxHeartbeats 4000000 in
theorem ro_c (s : Bool) (h l : Nat) (b : Int) (v : vld s h l = true) (W : Int) (hW : (wd s : Int) = W) (hb0 : ¬ b < 0) (hb1 : W < b) (w : World) :
    Calls Tryd.prog 14 #[adr s h l, .int .i64 b] w fun e w' => e = .returned (.tuple #[pfx false 0 0 0, .int .i64 1]) ∧ Below w.heap.size w w' := by
  have HV := Lib.hid (fun w => rvalid_at s h l w v)
  have HW := Lib.hid (fun w => rwidth_at s h l W hW w)
  clear v hW
  go_enter Tryd.func14, Tryd.ntmps14
  go_wp2_with fail
  refine Calls.mono (HV.out _) ?_
  rintro e w1 ⟨rfl, hb⟩
  have K1 := Lib.hid ((Blk.new w 24 #[.bool s, .int .u64 h, .int .u64 l]).alloc (.cells #[.bool false, .int .u64 0, .int .u64 0, .int .i64 0] 26) |>.below hb (by simp only [World.size_alloc]; omega))
  have R1 := Lib.hid ((Blk.new (w.alloc (.cells #[.bool s, .int .u64 h, .int .u64 l] 24)) 26 #[.bool false, .int .u64 0, .int .u64 0, .int .i64 0]).below hb (by simp only [World.size_alloc]; omega))
  have L1 := Lib.hid ((((Below.refl _ w).alloc (Nat.le_refl _) _).alloc (by simp) _).trans (hb.mono (by simp only [World.size_alloc]; omega)))
  have s1 : w.heap.size + 1 < w1.heap.size := by have := hb.size; simp only [World.size_alloc] at this; omega
  rw [World.size_alloc] at R1
  obtain ⟨f0, f1, f2⟩ := K1.out.c3
  clear hb
  go_wp2_with fail
  refine Calls.mono (HW.out _) ?_
  rintro e w2 ⟨rfl, hb⟩
  clear f0 f1 f2
  have K2 := Lib.hid (K1.out.below hb K1.out.lt)
  have R2 := Lib.hid (R1.out.below hb R1.out.lt)
  have L2 := Lib.hid (L1.out.trans (hb.mono L1.out.size))
  clear hb
  obtain ⟨f0, f1, f2⟩ := K2.out.c3
  clear f0 f1 f2
  obtain ⟨g0, g1, g2, g3⟩ := R2.out.c4
  have z0 := R2.out.frozen 0
  have z1 := R2.out.frozen 1
  have z2 := R2.out.frozen 2
  have z3 := R2.out.frozen 3
  go_wp2
  refine bodyPost_ret (v := .tuple #[pfx false 0 0 0, .int .i64 1]) (by simp [results, Tryd.results14, go_sem, g0, g1, g2, g3]) rfl ⟨rfl, ?_⟩
  iterate 4 refine Below.setCell ?_ (by simp) _
  exact L2.out

set_option maxRecDepth 100000 in
set_option maxHeartbeats 4000000 in
theorem ro_d (s : Bool) (h l : Nat) (b : Int) (v : vld s h l = true) (hh : N64 h) (hl : N64 l) (W : Int) (hW : (wd s : Int) = W) (hb0 : ¬ b < 0) (hb1 : ¬ W < b) (w : World) :
    Calls Tryd.prog 14 #[adr s h l, .int .i64 b] w fun e w' => e = .returned (.tuple #[pfx s (ct h (kk s b - 64) : Nat) (ct l (kk s b) : Nat) b, .int .i64 0]) ∧ Below w.heap.size w w' := by
  have HV := Lib.hid (fun w => rvalid_at s h l w v)
  have HW := Lib.hid (fun w => rwidth_at s h l W hW w)
  obtain ⟨m, rfl⟩ := Int.eq_ofNat_of_zero_le (show 0 ≤ b by omega)
  have HCu := Lib.hid (fun w => rcut_any s h l m hh hl v (by omega) w)
  have ek : kk s (m : Int) = wd s - m := rfl
  rw [ek]
  obtain ⟨X, hX⟩ : ∃ X : Int, ((ct h (wd s - m - 64) : Nat) : Int) = X := ⟨_, rfl⟩
  obtain ⟨Y, hY⟩ : ∃ Y : Int, ((ct l (wd s - m) : Nat) : Int) = Y := ⟨_, rfl⟩
  obtain ⟨b, hbm⟩ : ∃ b : Int, (m : Int) = b := ⟨_, rfl⟩
  rw [hX, hY] at HCu
  rw [hX, hY]
  rw [hbm] at HCu hb0 hb1 ⊢
  clear v hW hX hY hbm ek hh hl
  go_enter Tryd.func14, Tryd.ntmps14
  go_wp2_with fail
  refine Calls.mono (HV.out _) ?_
  rintro e w1 ⟨rfl, hb⟩
  have K1 := Lib.hid ((Blk.new w 24 #[.bool s, .int .u64 h, .int .u64 l]).alloc (.cells #[.bool false, .int .u64 0, .int .u64 0, .int .i64 0] 26) |>.below hb (by simp only [World.size_alloc]; omega))
  have R1 := Lib.hid ((Blk.new (w.alloc (.cells #[.bool s, .int .u64 h, .int .u64 l] 24)) 26 #[.bool false, .int .u64 0, .int .u64 0, .int .i64 0]).below hb (by simp only [World.size_alloc]; omega))
  have L1 := Lib.hid ((((Below.refl _ w).alloc (Nat.le_refl _) _).alloc (by simp) _).trans (hb.mono (by simp only [World.size_alloc]; omega)))
  have s1 : w.heap.size + 1 < w1.heap.size := by have := hb.size; simp only [World.size_alloc] at this; omega
  rw [World.size_alloc] at R1
  obtain ⟨f0, f1, f2⟩ := K1.out.c3
  clear hb
  go_wp2_with fail
  refine Calls.mono (HW.out _) ?_
  rintro e w2 ⟨rfl, hb⟩
  clear f0 f1 f2
  have K2 := Lib.hid (K1.out.below hb K1.out.lt)
  have R2 := Lib.hid (R1.out.below hb R1.out.lt)
  have L2 := Lib.hid (L1.out.trans (hb.mono L1.out.size))
  clear hb
  obtain ⟨f0, f1, f2⟩ := K2.out.c3
  go_wp2_with fail
  refine Calls.mono (HCu.out _) ?_
  rintro e w3 ⟨rfl, hb⟩
  clear f0 f1 f2
  have K3 := Lib.hid (K2.out.below hb K2.out.lt)
  have R3 := Lib.hid (R2.out.below hb R2.out.lt)
  have L3 := Lib.hid (L2.out.trans (hb.mono L2.out.size))
  clear hb
  obtain ⟨f0, f1, f2⟩ := K3.out.c3
  clear f0 f1 f2
  obtain ⟨g0, g1, g2, g3⟩ := R3.out.c4
  have z0 := R3.out.frozen 0
  have z1 := R3.out.frozen 1
  have z2 := R3.out.frozen 2
  have z3 := R3.out.frozen 3
  go_wp2
  refine bodyPost_ret (v := .tuple #[pfx s X Y b, .int .i64 0]) (by simp [results, Tryd.results14, go_sem, g0, g1, g2, g3]) rfl ⟨rfl, ?_⟩
  iterate 4 refine Below.setCell ?_ (by simp) _
  exact L3.out

theorem rof_at (s : Bool) (h l : Nat) (b : Int) (hh : N64 h) (hl : N64 l) {v : Value} (e : ofP s h l b = v) (w : World) :
    Calls Tryd.prog 14 #[adr s h l, .int .i64 b] w fun e w' => e = .returned v ∧ Below w.heap.size w w' := by
  subst e
  by_cases hv : vld s h l = true
  · by_cases h0 : b < 0
    · rw [ofP_no (fun x => by have := (okn_iff.1 x.2).1; omega)]; exact ro_b s h l b hv h0 w
    · by_cases h1 : (wd s : Int) < b
      · rw [ofP_no (fun x => by have := (okn_iff.1 x.2).2; omega)]; exact ro_c s h l b hv _ rfl h0 h1 w
      · rw [ofP_yes ⟨hv, okn_iff.2 ⟨by omega, by omega⟩⟩]; exact ro_d s h l b hv hh hl _ rfl h0 h1 w
  · rw [ofP_no (fun x => hv x.1)]; exact ro_a s h l b (by simpa using hv) w
/-- Bit, whatever is asked for. -/
theorem rb_a (s : Bool) (h l : Nat) (i : Int) (v : vld s h l = false) (w : World) :
    Calls Tryd.prog 16 #[adr s h l, .int .i64 i] w fun e w' => e = .returned (.int .i64 0) ∧ Below w.heap.size w w' := by
  have HV := Lib.hid (fun w => rvalid_at s h l w v)
  clear v
  go_enter Tryd.func16, Tryd.ntmps16
  go_wp2_with fail
  refine Calls.mono (HV.out _) ?_
  rintro e w1 ⟨rfl, hb⟩
  have L1 := Lib.hid (((Below.refl _ w).alloc (Nat.le_refl _) _).trans (hb.mono (by simp only [World.size_alloc]; omega)))
  clear hb
  go_wp2
  go_ret
  exact ⟨rfl, L1.out⟩
theorem rb_b (s : Bool) (h l : Nat) (i : Int) (v : vld s h l = true) (hi : i < 0) (w : World) :
    Calls Tryd.prog 16 #[adr s h l, .int .i64 i] w fun e w' => e = .returned (.int .i64 0) ∧ Below w.heap.size w w' := by
  have HV := Lib.hid (fun w => rvalid_at s h l w v)
  clear v
  go_enter Tryd.func16, Tryd.ntmps16
  go_wp2_with fail
  refine Calls.mono (HV.out _) ?_
  rintro e w1 ⟨rfl, hb⟩
  have L1 := Lib.hid (((Below.refl _ w).alloc (Nat.le_refl _) _).trans (hb.mono (by simp only [World.size_alloc]; omega)))
  clear hb
  go_wp2
  go_ret
  exact ⟨rfl, L1.out⟩
theorem rb_c (s : Bool) (h l : Nat) (i W : Int) (hW : (wd s : Int) = W) (v : vld s h l = true) (h0 : ¬ i < 0) (hi : W ≤ i) (w : World) :
    Calls Tryd.prog 16 #[adr s h l, .int .i64 i] w fun e w' => e = .returned (.int .i64 0) ∧ Below w.heap.size w w' := by
  have HV := Lib.hid (fun w => rvalid_at s h l w v)
  have HW := Lib.hid (fun w => rwidth_at s h l W hW w)
  clear v hW
  go_enter Tryd.func16, Tryd.ntmps16
  go_wp2_with fail
  refine Calls.mono (HV.out _) ?_
  rintro e w1 ⟨rfl, hb⟩
  have K1 := Lib.hid ((Blk.new w 24 #[.bool s, .int .u64 h, .int .u64 l]).below hb (by simp only [World.size_alloc]; omega))
  have L1 := Lib.hid (((Below.refl _ w).alloc (Nat.le_refl _) _).trans (hb.mono (by simp only [World.size_alloc]; omega)))
  clear hb
  obtain ⟨f0, f1, f2⟩ := K1.out.c3
  go_wp2_with fail
  refine Calls.mono (HW.out _) ?_
  rintro e w2 ⟨rfl, hb⟩
  have L2 := Lib.hid (L1.out.trans (hb.mono L1.out.size))
  clear hb f0 f1 f2
  go_wp2
  go_ret
  exact ⟨rfl, L2.out⟩
theorem rbitv_at (s : Bool) (h l : Nat) (i : Int) (hh : N64 h) (hl : N64 l) {b : Int} (e : bitV s h l i = b) (w : World) :
    Calls Tryd.prog 16 #[adr s h l, .int .i64 i] w fun e w' => e = .returned (.int .i64 b) ∧ Below w.heap.size w w' := by
  subst e
  by_cases hv : vld s h l = true
  · by_cases h0 : i < 0
    · have e : bitV s h l i = 0 := by unfold bitV; rw [if_neg (fun x => by omega)]
      rw [e]; exact rb_b s h l i hv h0 w
    · by_cases h1 : (wd s : Int) ≤ i
      · have e : bitV s h l i = 0 := by unfold bitV; rw [if_neg (fun x => by omega)]
        rw [e]; exact rb_c s h l i _ rfl hv h0 h1 w
      · obtain ⟨j, rfl⟩ := Int.eq_ofNat_of_zero_le (show 0 ≤ i by omega)
        have e : bitV s h l (j : Int) = ((bt (nm h l) (wd s) j : Nat) : Int) := by unfold bitV; rw [if_pos ⟨hv, by omega, by omega⟩]; rfl
        rw [e]; exact rbit_in s h l j hh hl hv (by omega) w
  · have e : bitV s h l i = 0 := by unfold bitV; rw [if_neg (fun x => hv x.1)]
    rw [e]; exact rb_a s h l i (by simpa using hv) w
theorem pbit_at (s : Bool) (h l : Nat) (i : Int) (hh : N64 h) (hl : N64 l) {b : Int} (e : bitV s h l i = b) (w : World) :
    Calls Tryd.prog 15 #[adr s h l, .int .i64 i] w fun e w' => e = .returned (.int .i64 b) ∧ Below w.heap.size w w' := by
  subst e; exact pbit_any s h l i hh hl w
end Go.Proofs.YtecgmejfkfoceaaDoor
