/-
  prefix.Common of any two addresses.
-/
import Derived.Test.YtecgmejfkfoceaaDoorPBt
import Derived.WalkMore
namespace Go.Proofs.YtecgmejfkfoceaaDoor
open Go.RowKit
set_option linter.unusedVariables false

theorem xor_bit (x y k : Nat) : (x ^^^ y) / 2 ^ k % 2 = if x / 2 ^ k % 2 = y / 2 ^ k % 2 then 0 else 1 := by
  have h : ∀ z : Nat, z / 2 ^ k % 2 = (z.testBit k).toNat := fun z => by
    rw [Nat.toNat_testBit]
  rw [h, h x, h y, Nat.testBit_xor]
  cases x.testBit k <;> cases y.testBit k <;> rfl
theorem xor_lt {x y : Nat} (hx : N64 x) (hy : N64 y) : N64 (x ^^^ y) := Nat.xor_lt_two_pow (n := 64) hx hy
theorem diff_bit (x y : Nat) (hx : N64 x) (hy : N64 y) (j : Nat) :
    bits BinOp.and IntKind.u64 (bits BinOp.xor IntKind.u64 (x : Int) (y : Int) / 2 ^ j) 1 = if x / 2 ^ j % 2 = y / 2 ^ j % 2 then 0 else 1 := by
  rw [u64_xor_nat x y hx hy, one_bit _ j (xor_lt hx hy), xor_bit]
  split <;> rfl

/-- A step: the bits are the same. -/
theorem step_hi {h l h' l' i : Nat} (hl : N64 l) (hl' : N64 l') (hi : i < 64) :
    cmn (128 - i) (nm h l) (nm h' l') = if h / 2 ^ (63 - i) % 2 = h' / 2 ^ (63 - i) % 2 then cmn (128 - (i + 1)) (nm h l) (nm h' l') + 1 else 0 := by
  rw [show 128 - i = (128 - (i + 1)) + 1 by omega, cmn_succ, show 128 - (i + 1) = 64 + (63 - i) by omega, nm_bit_hi h l _ hl.lt, nm_bit_hi h' l' _ hl'.lt]
theorem step_lo {h l h' l' i : Nat} (hi : i < 64) :
    cmn (128 - (64 + i)) (nm h l) (nm h' l') = if l / 2 ^ (63 - i) % 2 = l' / 2 ^ (63 - i) % 2 then cmn (128 - (64 + (i + 1))) (nm h l) (nm h' l') + 1 else 0 := by
  rw [show 128 - (64 + i) = (128 - (64 + (i + 1))) + 1 by omega, cmn_succ, show 128 - (64 + (i + 1)) = 63 - i by omega, nm_bit_lo h l _ (by omega), nm_bit_lo h' l' _ (by omega)]
theorem com_all {s : Bool} {h l h' l' : Nat} (hh : N64 h) (hl : N64 l) (hh' : N64 h') (hl' : N64 l') (v : vld s h l = true) (v' : vld s h' l' = true) :
    comV s h l s h' l' = (cmn 128 (nm h l) (nm h' l') : Int) - (128 - (wd s : Int)) := by
  unfold comV
  rw [if_pos ⟨v, v', rfl⟩]
  cases s
  · have := cmn_small 32 96 (nm h l) (nm h' l') (nm_wd hh hl v) (nm_wd hh' hl' v')
    rw [show (128 : Nat) = 32 + 96 from rfl, this]
    show (cmn 32 _ _ : Int) = _ - (128 - 32 : Int)
    omega
  · show (cmn 128 _ _ : Int) = _ - (128 - 128 : Int)
    omega

/-- The first t bits of 128 are the same, and so many were counted. -/
def PosC (n m : Nat) (z : Int) (t : Nat) (c : Int) : Prop := c = (t : Int) - z ∧ cmn 128 n m = t + cmn (128 - t) n m
theorem PosC.bd {n m : Nat} {z c : Int} {t : Nat} (h : PosC n m z t c) (z0 : 0 ≤ z) (z1 : z ≤ 128) (ht : t ≤ 128) : -128 ≤ c ∧ c ≤ 128 := by
  obtain ⟨a, b⟩ := h; omega
theorem PosC.hi {h l h' l' j : Nat} {z c : Int} (p : PosC (nm h l) (nm h' l') z (64 * 0 + j) c) (hl : N64 l) (hl' : N64 l') (hj : j < 64) (e : h / 2 ^ (63 - j) % 2 = h' / 2 ^ (63 - j) % 2) : PosC (nm h l) (nm h' l') z (64 * 0 + (j + 1)) (c + 1) := by
  obtain ⟨a, b⟩ := p
  have s := step_hi (h := h) (h' := h') hl hl' hj
  rw [if_pos e] at s
  rw [show 64 * 0 + j = j by omega] at a b
  rw [show 64 * 0 + (j + 1) = j + 1 by omega]
  exact ⟨by omega, by omega⟩
theorem PosC.lo {h l h' l' j : Nat} {z c : Int} (p : PosC (nm h l) (nm h' l') z (64 * 1 + j) c) (hj : j < 64) (e : l / 2 ^ (63 - j) % 2 = l' / 2 ^ (63 - j) % 2) : PosC (nm h l) (nm h' l') z (64 * 1 + (j + 1)) (c + 1) := by
  obtain ⟨a, b⟩ := p
  have s := step_lo (h := h) (h' := h') (l := l) (l' := l') hj
  rw [if_pos e] at s
  rw [show 64 * 1 + j = 64 + j by omega] at a b
  rw [show 64 * 1 + (j + 1) = 64 + (j + 1) by omega]
  exact ⟨by omega, by omega⟩
theorem PosC.hi_end {h l h' l' j : Nat} {z c : Int} (p : PosC (nm h l) (nm h' l') z (64 * 0 + j) c) (hl : N64 l) (hl' : N64 l') (hj : j < 64) (e : ¬ h / 2 ^ (63 - j) % 2 = h' / 2 ^ (63 - j) % 2) : (cmn 128 (nm h l) (nm h' l') : Int) - z = c := by
  obtain ⟨a, b⟩ := p
  have s := step_hi (h := h) (h' := h') hl hl' hj
  rw [if_neg e] at s
  rw [show 64 * 0 + j = j by omega] at a b
  omega
theorem PosC.lo_end {h l h' l' j : Nat} {z c : Int} (p : PosC (nm h l) (nm h' l') z (64 * 1 + j) c) (hj : j < 64) (e : ¬ l / 2 ^ (63 - j) % 2 = l' / 2 ^ (63 - j) % 2) : (cmn 128 (nm h l) (nm h' l') : Int) - z = c := by
  obtain ⟨a, b⟩ := p
  have s := step_lo (h := h) (h' := h') (l := l) (l' := l') hj
  rw [if_neg e] at s
  rw [show 64 * 1 + j = 64 + j by omega] at a b
  omega
theorem PosC.fin {n m : Nat} {z c : Int} (p : PosC n m z (64 * 2) c) : (cmn 128 n m : Int) - z = c := by
  obtain ⟨a, b⟩ := p
  rw [show 128 - 64 * 2 = 0 by omega] at b
  have e : cmn 0 n m = 0 := rfl
  rw [e] at b
  omega
theorem posC_zero {n m : Nat} {z : Int} : PosC n m z (64 * 0) (-z) := ⟨by omega, by show cmn 128 n m = 64 * 0 + cmn 128 n m; omega⟩

set_option maxRecDepth 100000 in
set_option maxHeartbeats 4000000 in
theorem common_yes (s : Bool) (h l h' l' : Nat) (hh : N64 h) (hl : N64 l) (hh' : N64 h') (hl' : N64 l') (v : vld s h l = true) (v' : vld s h' l' = true) (w : World) :
    Calls Tryd.prog 23 #[adr s h l, adr s h' l'] w fun e w' => e = .returned (.int .i64 (comV s h l s h' l')) ∧ Below w.heap.size w w' := by
  have H1 := Lib.hid (fun w => valid_at s h l w v)
  have H2 := Lib.hid (fun w => valid_at s h' l' w v')
  obtain ⟨z, hz⟩ : ∃ z, 128 - (wd s : Int) = z := ⟨_, rfl⟩
  have HB := Lib.hid (fun w => before_is s h l z hz w)
  have z0 : 0 ≤ z := by rw [← hz]; unfold wd; split <;> omega
  have z1 : z ≤ 128 := by rw [← hz]; omega
  obtain ⟨R, hR⟩ : ∃ R, comV s h l s h' l' = R := ⟨_, rfl⟩
  have HR : Hid ((cmn 128 (nm h l) (nm h' l') : Int) - z = R) := Lib.hid (by rw [← hR, com_all hh hl hh' hl' v v', hz])
  rw [hR]
  obtain ⟨D0, hD0⟩ : ∃ D, bits BinOp.xor IntKind.u64 (h : Int) (h' : Int) = D := ⟨_, rfl⟩
  obtain ⟨D1, hD1⟩ : ∃ D, bits BinOp.xor IntKind.u64 (l : Int) (l' : Int) = D := ⟨_, rfl⟩
  have T0 := Lib.hid (fun i : Nat => diff_bit h h' hh hh' i)
  have T1 := Lib.hid (fun i : Nat => diff_bit l l' hl hl' i)
  rw [hD0] at T0
  rw [hD1] at T1
  have p0 : 0 ≤ D0 := by rw [← hD0, u64_xor_nat h h' hh hh']; omega
  have p1 : 0 ≤ D1 := by rw [← hD1, u64_xor_nat l l' hl hl']; omega
  have q0 : D0 < 18446744073709551616 := by rw [← hD0, u64_xor_nat h h' hh hh']; have := xor_lt hh hh'; unfold N64 at this; omega
  have q1 : D1 < 18446744073709551616 := by rw [← hD1, u64_xor_nat l l' hl hl']; have := xor_lt hl hl'; unfold N64 at this; omega
  have G0 := Lib.hid hD0
  have G1 := Lib.hid hD1
  clear hz hR hD0 hD1 v v'
  go_enter Tryd.func23, Tryd.ntmps23
  go_wp2_with fail
  go_step3
  go_wp2_with fail
  refine Calls.mono (H1.out _) ?_
  rintro e w1 ⟨rfl, hb⟩
  have K1 := Lib.hid ((Blk.new w 24 #[.bool s, .int .u64 h, .int .u64 l]).alloc (.cells #[.bool s, .int .u64 h', .int .u64 l'] 24) |>.below hb (by simp only [World.size_alloc]; omega))
  have Q1 := Lib.hid ((Blk.new (w.alloc (.cells #[.bool s, .int .u64 h, .int .u64 l] 24)) 24 #[.bool s, .int .u64 h', .int .u64 l']).below hb (by simp only [World.size_alloc]; omega))
  rw [World.size_alloc] at Q1
  have L1 := Lib.hid ((((Below.refl _ w).alloc (Nat.le_refl _) _).alloc (by simp) _).trans (hb.mono (by simp only [World.size_alloc]; omega)))
  have s1 : w.heap.size + 1 < w1.heap.size := by have := hb.size; simp only [World.size_alloc] at this; omega
  clear hb
  obtain ⟨f0, f1, f2⟩ := K1.out.c3
  obtain ⟨g0, g1, g2⟩ := Q1.out.c3
  go_wp2_with fail
  refine Calls.mono (H2.out _) ?_
  rintro e w2 ⟨rfl, hb⟩
  clear f0 f1 f2 g0 g1 g2
  have K2 := Lib.hid (K1.out.below hb (by omega))
  have Q2 := Lib.hid (Q1.out.below hb s1)
  have L2 := Lib.hid (L1.out.trans (hb.mono L1.out.size))
  have s2 : w.heap.size + 1 < w2.heap.size := by have := hb.size; omega
  clear hb
  obtain ⟨f0, f1, f2⟩ := K2.out.c3
  obtain ⟨g0, g1, g2⟩ := Q2.out.c3
  go_wp2_with fail
  refine Calls.mono (HB.out _) ?_
  rintro e w3 ⟨rfl, hb⟩
  clear f0 f1 f2 g0 g1 g2
  have K3 := Lib.hid (K2.out.below hb (by omega))
  have Q3 := Lib.hid (Q2.out.below hb s2)
  have L3 := Lib.hid (L2.out.trans (hb.mono L2.out.size))
  have s3 : w.heap.size + 1 < w3.heap.size := by have := hb.size; omega
  clear hb
  obtain ⟨f0, f1, f2⟩ := K3.out.c3
  obtain ⟨g0, g1, g2⟩ := Q3.out.c3
  have d0 := G0.out
  have d1 := G1.out
  go_wp2
  go_step3
  go_wp2
  clear d0 d1 f0 f1 f2 g0 g1 g2
  go_loop [5, 38] (fun n j => ∃ (k : Nat) (m : Int), k ≤ 2 ∧ j = .int .i64 k ∧ n = .int .i64 m ∧ PosC (nm h l) (nm h' l') z (64 * k) m) (fun _ j => (2 - intOf j).toNat)
  case atStart => exact ⟨0, -z, by omega, rfl, rfl, posC_zero⟩
  case round =>
    obtain ⟨k, m, hk, rfl, rfl, hp⟩ := hrel
    have HP := Lib.hid hp
    clear hp
    have hk3 : k = 0 ∨ k = 1 ∨ k = 2 := by omega
    rcases hk3 with rfl | rfl | rfl
    · skip
      have ix : ∀ W : World, (Instr.index 62 (.agg #[.int .u64 D0, .int .u64 D1]) (.int .i64 0)).run Tryd.prog W = .ok (.int .u64 D0) W := fun W => by kernel_rfl
      go_wp2
      clear ix
      go_loop [5, 41] (fun n i => ∃ (j : Nat) (m : Int), j ≤ 64 ∧ i = .int .i64 j ∧ n = .int .i64 m ∧ PosC (nm h l) (nm h' l') z (64 * 0 + j) m) (fun _ i => (64 - intOf i).toNat)
      case atStart => exact ⟨0, m, by omega, rfl, rfl, HP.out⟩
      case round =>
        obtain ⟨j, c, hj, rfl, rfl, hp⟩ := hrel
        have HQ := Lib.hid hp
        have cb := hp.bd z0 z1 (by omega)
        clear hp
        by_cases hlt : j < 64
        · by_cases he : h / 2 ^ (63 - j) % 2 = h' / 2 ^ (63 - j) % 2
          · have hv : bits BinOp.and IntKind.u64 (D0 / 2 ^ (63 - j)) 1 = 0 := by
              rw [T0.out (63 - j), if_pos he]
            have HE := Lib.hid he
            clear he
            go_wp2
            go_round
            case rel => exact ⟨j + 1, c + 1, by omega, by go_num, rfl, HQ.out.hi hl hl' hlt HE.out⟩
            case measure => simp [intOf]; omega
          · have hv : bits BinOp.and IntKind.u64 (D0 / 2 ^ (63 - j)) 1 = 1 := by
              rw [T0.out (63 - j), if_neg he]
            have HE := Lib.hid he
            clear he
            go_wp2
            go_ret
            exact ⟨ret_i64 (by rw [← HR.out]; exact (HQ.out.hi_end hl hl' hlt HE.out).symm), L3.out⟩
        · have hj64 : j = 64 := by omega
          subst hj64
          go_wp2
          go_round
          case rel => exact ⟨0 + 1, c, by omega, rfl, rfl, HQ.out⟩
          case measure => simp [intOf]
    · skip
      have ix : ∀ W : World, (Instr.index 62 (.agg #[.int .u64 D0, .int .u64 D1]) (.int .i64 1)).run Tryd.prog W = .ok (.int .u64 D1) W := fun W => by kernel_rfl
      go_wp2
      clear ix
      go_loop [5, 41] (fun n i => ∃ (j : Nat) (m : Int), j ≤ 64 ∧ i = .int .i64 j ∧ n = .int .i64 m ∧ PosC (nm h l) (nm h' l') z (64 * 1 + j) m) (fun _ i => (64 - intOf i).toNat)
      case atStart => exact ⟨0, m, by omega, rfl, rfl, HP.out⟩
      case round =>
        obtain ⟨j, c, hj, rfl, rfl, hp⟩ := hrel
        have HQ := Lib.hid hp
        have cb := hp.bd z0 z1 (by omega)
        clear hp
        by_cases hlt : j < 64
        · by_cases he : l / 2 ^ (63 - j) % 2 = l' / 2 ^ (63 - j) % 2
          · have hv : bits BinOp.and IntKind.u64 (D1 / 2 ^ (63 - j)) 1 = 0 := by
              rw [T1.out (63 - j), if_pos he]
            have HE := Lib.hid he
            clear he
            go_wp2
            go_round
            case rel => exact ⟨j + 1, c + 1, by omega, by go_num, rfl, HQ.out.lo  hlt HE.out⟩
            case measure => simp [intOf]; omega
          · have hv : bits BinOp.and IntKind.u64 (D1 / 2 ^ (63 - j)) 1 = 1 := by
              rw [T1.out (63 - j), if_neg he]
            have HE := Lib.hid he
            clear he
            go_wp2
            go_ret
            exact ⟨ret_i64 (by rw [← HR.out]; exact (HQ.out.lo_end  hlt HE.out).symm), L3.out⟩
        · have hj64 : j = 64 := by omega
          subst hj64
          go_wp2
          go_round
          case rel => exact ⟨1 + 1, c, by omega, rfl, rfl, HQ.out⟩
          case measure => simp [intOf]
    · go_wp2
      go_ret
      exact ⟨ret_i64 (by rw [← HR.out]; exact HP.out.fin.symm), L3.out⟩

set_option maxRecDepth 100000 in
set_option maxHeartbeats 4000000 in
theorem common_n1 (s : Bool) (h l : Nat) (s' : Bool) (h' l' : Nat) (v : vld s h l = false) (w : World) :
    Calls Tryd.prog 23 #[adr s h l, adr s' h' l'] w fun e w' => e = .returned (.int .i64 (-1)) ∧ Below w.heap.size w w' := by
  have H1 := Lib.hid (fun w => valid_at s h l w v)
  clear v
  go_enter Tryd.func23, Tryd.ntmps23
  go_wp2_with fail
  go_step3
  go_wp2_with fail
  refine Calls.mono (H1.out _) ?_
  rintro e w1 ⟨rfl, hb⟩
  have K1 := Lib.hid ((Blk.new w 24 #[.bool s, .int .u64 h, .int .u64 l]).alloc (.cells #[.bool s', .int .u64 h', .int .u64 l'] 24) |>.below hb (by simp only [World.size_alloc]; omega))
  have Q1 := Lib.hid ((Blk.new (w.alloc (.cells #[.bool s, .int .u64 h, .int .u64 l] 24)) 24 #[.bool s', .int .u64 h', .int .u64 l']).below hb (by simp only [World.size_alloc]; omega))
  rw [World.size_alloc] at Q1
  have L1 := Lib.hid ((((Below.refl _ w).alloc (Nat.le_refl _) _).alloc (by simp) _).trans (hb.mono (by simp only [World.size_alloc]; omega)))
  have s1 : w.heap.size + 1 < w1.heap.size := by have := hb.size; simp only [World.size_alloc] at this; omega
  clear hb
  obtain ⟨f0, f1, f2⟩ := K1.out.c3
  obtain ⟨g0, g1, g2⟩ := Q1.out.c3
  clear f0 f1 f2 g0 g1 g2
  go_wp2
  rw [Exit.noGoto_ret]
  go_ret
  exact ⟨rfl, L1.out⟩

set_option maxRecDepth 100000 in
set_option maxHeartbeats 4000000 in
theorem common_n2 (s : Bool) (h l : Nat) (s' : Bool) (h' l' : Nat) (v : vld s h l = true) (v' : vld s' h' l' = false) (w : World) :
    Calls Tryd.prog 23 #[adr s h l, adr s' h' l'] w fun e w' => e = .returned (.int .i64 (-1)) ∧ Below w.heap.size w w' := by
  have H1 := Lib.hid (fun w => valid_at s h l w v)
  have H2 := Lib.hid (fun w => valid_at s' h' l' w v')
  clear v v'
  go_enter Tryd.func23, Tryd.ntmps23
  go_wp2_with fail
  go_step3
  go_wp2_with fail
  refine Calls.mono (H1.out _) ?_
  rintro e w1 ⟨rfl, hb⟩
  have K1 := Lib.hid ((Blk.new w 24 #[.bool s, .int .u64 h, .int .u64 l]).alloc (.cells #[.bool s', .int .u64 h', .int .u64 l'] 24) |>.below hb (by simp only [World.size_alloc]; omega))
  have Q1 := Lib.hid ((Blk.new (w.alloc (.cells #[.bool s, .int .u64 h, .int .u64 l] 24)) 24 #[.bool s', .int .u64 h', .int .u64 l']).below hb (by simp only [World.size_alloc]; omega))
  rw [World.size_alloc] at Q1
  have L1 := Lib.hid ((((Below.refl _ w).alloc (Nat.le_refl _) _).alloc (by simp) _).trans (hb.mono (by simp only [World.size_alloc]; omega)))
  have s1 : w.heap.size + 1 < w1.heap.size := by have := hb.size; simp only [World.size_alloc] at this; omega
  clear hb
  obtain ⟨f0, f1, f2⟩ := K1.out.c3
  obtain ⟨g0, g1, g2⟩ := Q1.out.c3
  go_wp2_with fail
  refine Calls.mono (H2.out _) ?_
  rintro e w2 ⟨rfl, hb⟩
  clear f0 f1 f2 g0 g1 g2
  have K2 := Lib.hid (K1.out.below hb (by omega))
  have Q2 := Lib.hid (Q1.out.below hb s1)
  have L2 := Lib.hid (L1.out.trans (hb.mono L1.out.size))
  have s2 : w.heap.size + 1 < w2.heap.size := by have := hb.size; omega
  clear hb
  obtain ⟨f0, f1, f2⟩ := K2.out.c3
  obtain ⟨g0, g1, g2⟩ := Q2.out.c3
  clear f0 f1 f2 g0 g1 g2
  go_wp2
  rw [Exit.noGoto_ret]
  go_ret
  exact ⟨rfl, L2.out⟩

set_option maxRecDepth 100000 in
set_option maxHeartbeats 4000000 in
theorem common_n3 (s : Bool) (h l : Nat) (s' : Bool) (h' l' : Nat) (v : vld s h l = true) (v' : vld s' h' l' = true) (ne : ¬ s = s') (w : World) :
    Calls Tryd.prog 23 #[adr s h l, adr s' h' l'] w fun e w' => e = .returned (.int .i64 (-1)) ∧ Below w.heap.size w w' := by
  have H1 := Lib.hid (fun w => valid_at s h l w v)
  have H2 := Lib.hid (fun w => valid_at s' h' l' w v')
  clear v v'
  cases s <;> cases s'
  · exact absurd rfl ne
  · skip
    go_enter Tryd.func23, Tryd.ntmps23
    go_wp2_with fail
    go_step3
    go_wp2_with fail
    refine Calls.mono (H1.out _) ?_
    rintro e w1 ⟨rfl, hb⟩
    have K1 := Lib.hid ((Blk.new w 24 #[.bool false, .int .u64 h, .int .u64 l]).alloc (.cells #[.bool true, .int .u64 h', .int .u64 l'] 24) |>.below hb (by simp only [World.size_alloc]; omega))
    have Q1 := Lib.hid ((Blk.new (w.alloc (.cells #[.bool false, .int .u64 h, .int .u64 l] 24)) 24 #[.bool true, .int .u64 h', .int .u64 l']).below hb (by simp only [World.size_alloc]; omega))
    rw [World.size_alloc] at Q1
    have L1 := Lib.hid ((((Below.refl _ w).alloc (Nat.le_refl _) _).alloc (by simp) _).trans (hb.mono (by simp only [World.size_alloc]; omega)))
    have s1 : w.heap.size + 1 < w1.heap.size := by have := hb.size; simp only [World.size_alloc] at this; omega
    clear hb
    obtain ⟨f0, f1, f2⟩ := K1.out.c3
    obtain ⟨g0, g1, g2⟩ := Q1.out.c3
    go_wp2_with fail
    refine Calls.mono (H2.out _) ?_
    rintro e w2 ⟨rfl, hb⟩
    clear f0 f1 f2 g0 g1 g2
    have K2 := Lib.hid (K1.out.below hb (by omega))
    have Q2 := Lib.hid (Q1.out.below hb s1)
    have L2 := Lib.hid (L1.out.trans (hb.mono L1.out.size))
    have s2 : w.heap.size + 1 < w2.heap.size := by have := hb.size; omega
    clear hb
    obtain ⟨f0, f1, f2⟩ := K2.out.c3
    obtain ⟨g0, g1, g2⟩ := Q2.out.c3
    go_wp2
    rw [Exit.noGoto_ret]
    go_ret
    exact ⟨rfl, L2.out⟩
  · skip
    go_enter Tryd.func23, Tryd.ntmps23
    go_wp2_with fail
    go_step3
    go_wp2_with fail
    refine Calls.mono (H1.out _) ?_
    rintro e w1 ⟨rfl, hb⟩
    have K1 := Lib.hid ((Blk.new w 24 #[.bool true, .int .u64 h, .int .u64 l]).alloc (.cells #[.bool false, .int .u64 h', .int .u64 l'] 24) |>.below hb (by simp only [World.size_alloc]; omega))
    have Q1 := Lib.hid ((Blk.new (w.alloc (.cells #[.bool true, .int .u64 h, .int .u64 l] 24)) 24 #[.bool false, .int .u64 h', .int .u64 l']).below hb (by simp only [World.size_alloc]; omega))
    rw [World.size_alloc] at Q1
    have L1 := Lib.hid ((((Below.refl _ w).alloc (Nat.le_refl _) _).alloc (by simp) _).trans (hb.mono (by simp only [World.size_alloc]; omega)))
    have s1 : w.heap.size + 1 < w1.heap.size := by have := hb.size; simp only [World.size_alloc] at this; omega
    clear hb
    obtain ⟨f0, f1, f2⟩ := K1.out.c3
    obtain ⟨g0, g1, g2⟩ := Q1.out.c3
    go_wp2_with fail
    refine Calls.mono (H2.out _) ?_
    rintro e w2 ⟨rfl, hb⟩
    clear f0 f1 f2 g0 g1 g2
    have K2 := Lib.hid (K1.out.below hb (by omega))
    have Q2 := Lib.hid (Q1.out.below hb s1)
    have L2 := Lib.hid (L1.out.trans (hb.mono L1.out.size))
    have s2 : w.heap.size + 1 < w2.heap.size := by have := hb.size; omega
    clear hb
    obtain ⟨f0, f1, f2⟩ := K2.out.c3
    obtain ⟨g0, g1, g2⟩ := Q2.out.c3
    go_wp2
    rw [Exit.noGoto_ret]
    go_ret
    exact ⟨rfl, L2.out⟩
  · exact absurd rfl ne

theorem common_at (s : Bool) (h l : Nat) (s' : Bool) (h' l' : Nat) (hh : N64 h) (hl : N64 l) (hh' : N64 h') (hl' : N64 l') {v : Int} (ev : comV s h l s' h' l' = v) (w : World) :
    Calls Tryd.prog 23 #[adr s h l, adr s' h' l'] w fun e w' => e = .returned (.int .i64 v) ∧ Below w.heap.size w w' := by
  subst ev
  by_cases v : vld s h l = true
  · by_cases v' : vld s' h' l' = true
    · by_cases e : s = s'
      · subst e; exact common_yes s h l h' l' hh hl hh' hl' v v' w
      · have c : comV s h l s' h' l' = -1 := by unfold comV; rw [if_neg (fun x => e x.2.2)]
        rw [c]; exact common_n3 s h l s' h' l' v v' e w
    · have c : comV s h l s' h' l' = -1 := by unfold comV; rw [if_neg (fun x => v' x.2.1)]
      rw [c]; exact common_n2 s h l s' h' l' v (by simpa using v') w
  · have c : comV s h l s' h' l' = -1 := by unfold comV; rw [if_neg (fun x => v x.1)]
    rw [c]; exact common_n1 s h l s' h' l' (by simpa using v) w
end Go.Proofs.YtecgmejfkfoceaaDoor
