/-
  prefix.last of a valid range.
-/
import Derived.Test.YtecgmejfkfoceaaDoorPBt
namespace Go.Proofs.YtecgmejfkfoceaaDoor
open Go.RowKit
set_option linter.unusedVariables false

theorem xor_mask (k : Nat) (hk : k ≤ 64) : (2 ^ 64 - 1) ^^^ (2 ^ 64 - 2 ^ k) = 2 ^ k - 1 := by
  apply Nat.eq_of_testBit_eq
  intro i
  have e : 2 ^ 64 - 2 ^ k = 2 ^ 64 - ((2 ^ k - 1) + 1) := by have := pw k; omega
  have hlt : 2 ^ k - 1 < 2 ^ 64 := by
    have h1 : 2 ^ k ≤ 2 ^ 64 := Nat.pow_le_pow_right (by decide) hk
    have := pw k; omega
  rw [Nat.testBit_xor, e, Nat.testBit_two_pow_sub_succ hlt, Nat.testBit_two_pow_sub_one, Nat.testBit_two_pow_sub_one]
  by_cases h1 : i < k
  · have h2 : i < 64 := by omega
    simp [h1, h2]
  · by_cases h2 : i < 64
    · simp [h1, h2]
    · simp [h1, h2]
theorem cell_alloc_old {W : World} {o : Obj} {b i : Nat} (h : b < W.heap.size) : (W.alloc o).cell? ⟨b, i, none⟩ = W.cell? ⟨b, i, none⟩ :=
  ((Below.refl W.heap.size W).alloc (Nat.le_refl _) o).cell (p := ⟨b, i, none⟩) h
theorem u64max : IntKind.u64.max = ((2 ^ 64 - 1 : Nat) : Int) := by decide
theorem onz_not (n : Int) (k : Nat) (hk : 64 - (min n.toNat 64) = k) (x : Nat) (hx : N64 x) (e : ct x k = x) :
    bits .or .u64 (x : Int) (bits .xor .u64 IntKind.u64.max (onz n)) = ((x + (2 ^ k - 1) : Nat) : Int) := by
  have h1 : (2 : Nat) ^ k ≤ 2 ^ 64 := Nat.pow_le_pow_right (by decide) (by omega)
  have h2 := pw k
  unfold onz
  rw [hk, u64max, u64_xor_nat _ _ (by decide) (by omega), xor_mask k (by omega), u64_or_nat x _ hx (by omega), or_rest x k e]

set_option maxRecDepth 100000 in
set_option maxHeartbeats 4000000 in
theorem last_at (s : Bool) (h l : Nat) (b : Int) (hh : N64 h) (hl : N64 l) (hp : pvl s h l b = true) {X Y : Int} (hX : ((h + (2 ^ (kk s b - 64) - 1) : Nat) : Int) = X) (hY : ((l + (2 ^ (min (kk s b) 64) - 1) : Nat) : Int) = Y) (w : World) :
    Calls Tryd.prog 56 #[pfx s h l b] w fun e w' => e = .returned (adr s X Y) ∧ Below w.heap.size w w' := by
  obtain ⟨v, o, e⟩ := (pvl_iff hl).1 hp
  obtain ⟨o1, o2⟩ := okn_iff.1 o
  obtain ⟨W, hW⟩ : ∃ W, (wd s : Int) = W := ⟨_, rfl⟩
  rw [hW] at o2
  obtain ⟨M1, hM1⟩ : ∃ M, onz (128 - W + b) = M := ⟨_, rfl⟩
  obtain ⟨M2, hM2⟩ : ∃ M, onz (128 - W + b - 64) = M := ⟨_, rfl⟩
  have HM := Lib.hid (fun w => masks_at s h l b W hW o1 o2 w)
  rw [hM1, hM2] at HM
  obtain ⟨p1, p2⟩ := onz_bd (128 - W + b)
  obtain ⟨p3, p4⟩ := onz_bd (128 - W + b - 64)
  obtain ⟨e1, e2⟩ := ct_parts hl e
  have w128 : wd s ≤ 128 := by unfold wd; split <;> omega
  have b1 := onz_not (128 - W + b) (kk s b - 64) (by unfold kk; omega) h hh e1
  have b2 := onz_not (128 - W + b - 64) (min (kk s b) 64) (by unfold kk; omega) l hl (ct_min hl e2)
  rw [hM1, hX] at b1
  rw [hM2, hY] at b2
  rw [hM1] at p1 p2
  rw [hM2] at p3 p4
  have B1 := Lib.hid b1
  have B2 := Lib.hid b2
  clear hM1 hM2 hX hY b1 b2 hW e1 e2 o e v hp w128
  go_enter Tryd.func56, Tryd.ntmps56
  go_wp2_with fail
  refine Calls.mono (HM.out _) ?_
  rintro e w1 ⟨rfl, hb⟩
  have K1 := Lib.hid ((Blk.new w 26 #[.bool s, .int .u64 h, .int .u64 l, .int .i64 b]).alloc (.cells #[.bool false, .int .u64 0, .int .u64 0] 24) |>.below hb (by simp only [World.size_alloc]; omega))
  have R1 := Lib.hid ((Blk.new (w.alloc (.cells #[.bool s, .int .u64 h, .int .u64 l, .int .i64 b] 26)) 24 #[.bool false, .int .u64 0, .int .u64 0]).below hb (by simp only [World.size_alloc]; omega))
  have L1 := Lib.hid ((((Below.refl _ w).alloc (Nat.le_refl _) _).alloc (by simp) _).trans (hb.mono (by simp only [World.size_alloc]; omega)))
  have s1 : w.heap.size + 1 < w1.heap.size := by have := hb.size; simp only [World.size_alloc] at this; omega
  rw [World.size_alloc] at R1
  have R2 := Lib.hid (R1.out.alloc (.cells #[.bool s, .int .u64 X, .int .u64 Y] 24))
  have K2 := Lib.hid (Blk.new w1 24 #[.bool s, .int .u64 X, .int .u64 Y])
  obtain ⟨f0, f1, f2, f3⟩ := K1.out.c4
  obtain ⟨g0, g1, g2⟩ := R2.out.c3
  obtain ⟨k0, k1, k2⟩ := K2.out.c3
  have z0 := R2.out.frozen 0
  have z1 := R2.out.frozen 1
  have z2 := R2.out.frozen 2
  have x0 := R1.out.frozen 0
  have x1 := R1.out.frozen 1
  have x2 := R1.out.frozen 2
  obtain ⟨r0, r1, r2⟩ := R1.out.c3
  have y1 := K2.out.frozen 1
  have y2 := K2.out.frozen 2
  have b1 := B1.out
  have b2 := B2.out
  have n1 : ¬ w.heap.size + 1 = w1.heap.size := by omega
  have n2 : ¬ w1.heap.size = w.heap.size + 1 := by omega
  clear hb
  go_wp2
  refine bodyPost_ret (v := adr s X Y) (by simp [results, Tryd.results56, go_sem, cell_alloc_old, s1, r0, r1, r2]) rfl ⟨rfl, ?_⟩
  refine Below.alloc ?_ (by simp; omega) _
  repeat (first | exact L1.out | refine Below.setCell ?_ (by simp) _)
end Go.Proofs.YtecgmejfkfoceaaDoor
