/-
  prefix.Of of any address and number of bits.
-/
import Derived.Test.YtabbclocgkhnhaaPOnes
namespace Go.Proofs.Ytabbclocgkhnhaa
open Go.RowKit
set_option linter.unusedVariables false

/-- A range of first bits as a value. -/
abbrev pfx (s : Bool) (h l b : Int) : Value := .agg #[.bool s, .int .u64 h, .int .u64 l, .int .i64 b]
def ofP (s : Bool) (h l : Nat) (b : Int) : Value :=
  if vld s h l && okn s b then .tuple #[pfx s (ct h (kk s b - 64) : Nat) (ct l (kk s b) : Nat) b, .int .i64 0] else .tuple #[pfx false 0 0 0, .int .i64 1]
theorem mask_hi {s : Bool} {b W : Int} (hW : (wd s : Int) = W) (hb0 : 0 ≤ b) (hb1 : b ≤ W) (h : Nat) (hh : N64 h) :
    bits .and .u64 (h : Int) (onz (128 - W + b)) = ((ct h (kk s b - 64) : Nat) : Int) := by
  rw [and_onz h hh]
  have : wd s ≤ 128 := by unfold wd; split <;> omega
  rw [show 64 - min (128 - W + b).toNat 64 = kk s b - 64 by unfold kk; omega]
theorem mask_lo {s : Bool} {b W : Int} (hW : (wd s : Int) = W) (hb0 : 0 ≤ b) (hb1 : b ≤ W) (l : Nat) (hl : N64 l) :
    bits .and .u64 (l : Int) (onz (128 - W + b - 64)) = ((ct l (kk s b) : Nat) : Int) := by
  rw [and_onz l hl]
  have : wd s ≤ 128 := by unfold wd; split <;> omega
  rw [show 64 - min (128 - W + b - 64).toNat 64 = min (kk s b) 64 by unfold kk; omega]
  rcases Nat.lt_or_ge (kk s b) 64 with h | h
  · rw [show min (kk s b) 64 = kk s b by omega]
  · rw [show min (kk s b) 64 = 64 by omega, ct_lt hl.lt, ct_lt (Nat.lt_of_lt_of_le hl.lt (Nat.pow_le_pow_right (by decide) h))]

theorem Blk.c4 {w : World} {g : Nat} {t : TypeId} {a b c d : Value} (h : Blk w g t #[a, b, c, d]) : w.cell? ⟨g, 0, none⟩ = some a ∧ w.cell? ⟨g, 1, none⟩ = some b ∧ w.cell? ⟨g, 2, none⟩ = some c ∧ w.cell? ⟨g, 3, none⟩ = some d :=
  ⟨by rw [h.cell]; rfl, by rw [h.cell]; rfl, by rw [h.cell]; rfl, by rw [h.cell]; rfl⟩
theorem okn_no {s : Bool} {b W : Int} (hW : (wd s : Int) = W) (e : okn s b = false) (h0 : ¬ b < 0) : b > W := by
  rw [← hW]
  simp only [okn, Bool.and_eq_false_iff, decide_eq_false_iff_not] at e
  omega

set_option maxRecDepth 100000 in
set_option maxHeartbeats 4000000 in
theorem ofP_any (s : Bool) (h l : Nat) (b : Int) (hh : N64 h) (hl : N64 l) (w : World) :
    Calls Try.prog 67 #[adr s h l, .int .i64 b] w fun e w' => e = .returned (ofP s h l b) ∧ Below w.heap.size w w' := by
  obtain ⟨V, hV⟩ : ∃ V, vld s h l = V := ⟨_, rfl⟩
  obtain ⟨W, hW⟩ : ∃ W, (wd s : Int) = W := ⟨_, rfl⟩
  have h0 : 0 ≤ W := by rw [← hW]; omega
  have h1 : W ≤ 128 := by rw [← hW]; unfold wd; split <;> omega
  have HV := Lib.hid (fun w => valid_at s h l w hV)
  have HW := Lib.hid (fun w => width_at s h l W hW w)
  obtain ⟨R, hR⟩ : ∃ R, ofP s h l b = R := ⟨_, rfl⟩
  rw [hR]
  by_cases hk : V = true ∧ okn s b = true
  · obtain ⟨rfl, ho⟩ := hk
    obtain ⟨o1, o2⟩ := okn_iff.1 ho
    rw [hW] at o2
    obtain ⟨X, hX⟩ : ∃ X, ((ct h (kk s b - 64) : Nat) : Int) = X := ⟨_, rfl⟩
    obtain ⟨Y, hY⟩ : ∃ Y, ((ct l (kk s b) : Nat) : Int) = Y := ⟨_, rfl⟩
    have e1 : ofP s h l b = .tuple #[pfx s X Y b, .int .i64 0] := by unfold ofP; rw [hV, ho, hX, hY]; rfl
    have HR := Lib.hid (e1.symm.trans hR)
    obtain ⟨M1, hM1⟩ : ∃ M, onz (128 - W + b) = M := ⟨_, rfl⟩
    obtain ⟨M2, hM2⟩ : ∃ M, onz (128 - W + b - 64) = M := ⟨_, rfl⟩
    have HM := Lib.hid (fun w => masks_at s h l b W hW o1 o2 w)
    have b1 := mask_hi hW o1 o2 h hh
    have b2 := mask_lo hW o1 o2 l hl
    rw [hM1, hM2] at HM
    rw [hM1, hX] at b1
    rw [hM2, hY] at b2
    have n1 : ¬ b < 0 := by omega
    have n2 : ¬ b > W := by omega
    have B1 := Lib.hid b1
    have B2 := Lib.hid b2
    clear hV hW e1 hR ho hM1 hM2 hX hY b1 b2
    go_enter Try.func67, Try.ntmps67
    go_wp2_with fail
    refine Calls.mono (HV.out _) ?_
    rintro e w1 ⟨rfl, hb⟩
    have K1 := Lib.hid ((Blk.new w 34 #[.bool s, .int .u64 h, .int .u64 l]).alloc (.cells #[.bool false, .int .u64 0, .int .u64 0, .int .i64 0] 93) |>.below hb (by simp only [World.size_alloc]; omega))
    have R1 := Lib.hid ((Blk.new (w.alloc (.cells #[.bool s, .int .u64 h, .int .u64 l] 34)) 93 #[.bool false, .int .u64 0, .int .u64 0, .int .i64 0]).below hb (by simp only [World.size_alloc]; omega))
    have L1 := Lib.hid ((((Below.refl _ w).alloc (Nat.le_refl _) _).alloc (by simp) _).trans (hb.mono (by simp only [World.size_alloc]; omega)))
    have s1 : w.heap.size + 1 < w1.heap.size := by have := hb.size; simp only [World.size_alloc] at this; omega
    rw [World.size_alloc] at R1
    obtain ⟨f1, f2, f3⟩ := K1.out.c3
    clear hb
    go_wp2_with fail
    refine Calls.mono (HW.out _) ?_
    rintro e w2 ⟨rfl, hb⟩
    clear f1 f2 f3
    have K2 := Lib.hid (K1.out.below hb (by omega))
    have R2 := Lib.hid (R1.out.below hb s1)
    have L2 := Lib.hid (L1.out.trans (hb.mono L1.out.size))
    have s2 : w.heap.size + 1 < w2.heap.size := by have := hb.size; omega
    obtain ⟨f1, f2, f3⟩ := K2.out.c3
    clear hb
    go_wp2_with fail
    refine Calls.mono (HM.out _) ?_
    rintro e w3 ⟨rfl, hb⟩
    clear f1 f2 f3
    have K3 := Lib.hid (K2.out.below hb (by omega))
    have R3 := Lib.hid (R2.out.below hb s2)
    have L3 := Lib.hid (L2.out.trans (hb.mono L2.out.size))
    obtain ⟨f1, f2, f3⟩ := K3.out.c3
    obtain ⟨g1, g2, g3, g4⟩ := R3.out.c4
    have z0 := R3.out.frozen 0
    have z1 := R3.out.frozen 1
    have z2 := R3.out.frozen 2
    have z3 := R3.out.frozen 3
    have y1 := K3.out.frozen 1
    have y2 := K3.out.frozen 2
    have b1 := B1.out
    have b2 := B2.out
    clear hb
    go_wp2
    exact bodyPost_ret (v := .tuple #[pfx s X Y b, .int .i64 0]) (by simp [results, Try.results67, go_sem, g1, g2, g3, g4]) rfl ⟨by rw [HR.out], by (repeat (refine Below.setCell ?_ (by simp) _)); exact L3.out⟩
  · have e1 : ofP s h l b = .tuple #[pfx false 0 0 0, .int .i64 1] := by
      unfold ofP
      rw [if_neg (by rw [hV]; simpa using hk)]
    have HR := Lib.hid (e1.symm.trans hR)
    cases V
    · clear hV hW e1 hR hk
      go_enter Try.func67, Try.ntmps67
      go_wp2_with fail
      refine Calls.mono (HV.out _) ?_
      rintro e w1 ⟨rfl, hb⟩
      have K1 := Lib.hid ((Blk.new w 34 #[.bool s, .int .u64 h, .int .u64 l]).alloc (.cells #[.bool false, .int .u64 0, .int .u64 0, .int .i64 0] 93) |>.below hb (by simp only [World.size_alloc]; omega))
      have R1 := Lib.hid ((Blk.new (w.alloc (.cells #[.bool s, .int .u64 h, .int .u64 l] 34)) 93 #[.bool false, .int .u64 0, .int .u64 0, .int .i64 0]).below hb (by simp only [World.size_alloc]; omega))
      have L1 := Lib.hid ((((Below.refl _ w).alloc (Nat.le_refl _) _).alloc (by simp) _).trans (hb.mono (by simp only [World.size_alloc]; omega)))
      have s1 : w.heap.size + 1 < w1.heap.size := by have := hb.size; simp only [World.size_alloc] at this; omega
      rw [World.size_alloc] at R1
      obtain ⟨f1, f2, f3⟩ := K1.out.c3
      clear hb
      obtain ⟨g1, g2, g3, g4⟩ := R1.out.c4
      have z0 := R1.out.frozen 0
      have z1 := R1.out.frozen 1
      have z2 := R1.out.frozen 2
      have z3 := R1.out.frozen 3
      go_wp2
      exact bodyPost_ret (v := .tuple #[pfx false 0 0 0, .int .i64 1]) (by simp [results, Try.results67, go_sem, g1, g2, g3, g4]) rfl ⟨by rw [HR.out], by (repeat (refine Below.setCell ?_ (by simp) _)); exact L1.out⟩
    · by_cases hneg : b < 0
      · clear hV hW e1 hR hk
        go_enter Try.func67, Try.ntmps67
        go_wp2_with fail
        refine Calls.mono (HV.out _) ?_
        rintro e w1 ⟨rfl, hb⟩
        have K1 := Lib.hid ((Blk.new w 34 #[.bool s, .int .u64 h, .int .u64 l]).alloc (.cells #[.bool false, .int .u64 0, .int .u64 0, .int .i64 0] 93) |>.below hb (by simp only [World.size_alloc]; omega))
        have R1 := Lib.hid ((Blk.new (w.alloc (.cells #[.bool s, .int .u64 h, .int .u64 l] 34)) 93 #[.bool false, .int .u64 0, .int .u64 0, .int .i64 0]).below hb (by simp only [World.size_alloc]; omega))
        have L1 := Lib.hid ((((Below.refl _ w).alloc (Nat.le_refl _) _).alloc (by simp) _).trans (hb.mono (by simp only [World.size_alloc]; omega)))
        have s1 : w.heap.size + 1 < w1.heap.size := by have := hb.size; simp only [World.size_alloc] at this; omega
        rw [World.size_alloc] at R1
        obtain ⟨f1, f2, f3⟩ := K1.out.c3
        clear hb
        obtain ⟨g1, g2, g3, g4⟩ := R1.out.c4
        have z0 := R1.out.frozen 0
        have z1 := R1.out.frozen 1
        have z2 := R1.out.frozen 2
        have z3 := R1.out.frozen 3
        go_wp2
        exact bodyPost_ret (v := .tuple #[pfx false 0 0 0, .int .i64 1]) (by simp [results, Try.results67, go_sem, g1, g2, g3, g4]) rfl ⟨by rw [HR.out], by (repeat (refine Below.setCell ?_ (by simp) _)); exact L1.out⟩
      · have hgt : b > W := okn_no hW (by simpa using hk) hneg
        clear hV hW e1 hR hk
        go_enter Try.func67, Try.ntmps67
        go_wp2_with fail
        refine Calls.mono (HV.out _) ?_
        rintro e w1 ⟨rfl, hb⟩
        have K1 := Lib.hid ((Blk.new w 34 #[.bool s, .int .u64 h, .int .u64 l]).alloc (.cells #[.bool false, .int .u64 0, .int .u64 0, .int .i64 0] 93) |>.below hb (by simp only [World.size_alloc]; omega))
        have R1 := Lib.hid ((Blk.new (w.alloc (.cells #[.bool s, .int .u64 h, .int .u64 l] 34)) 93 #[.bool false, .int .u64 0, .int .u64 0, .int .i64 0]).below hb (by simp only [World.size_alloc]; omega))
        have L1 := Lib.hid ((((Below.refl _ w).alloc (Nat.le_refl _) _).alloc (by simp) _).trans (hb.mono (by simp only [World.size_alloc]; omega)))
        have s1 : w.heap.size + 1 < w1.heap.size := by have := hb.size; simp only [World.size_alloc] at this; omega
        rw [World.size_alloc] at R1
        obtain ⟨f1, f2, f3⟩ := K1.out.c3
        clear hb
        go_wp2_with fail
        refine Calls.mono (HW.out _) ?_
        rintro e w2 ⟨rfl, hb⟩
        clear f1 f2 f3
        have R2 := Lib.hid (R1.out.below hb s1)
        have L2 := Lib.hid (L1.out.trans (hb.mono L1.out.size))
        clear hb
        obtain ⟨g1, g2, g3, g4⟩ := R2.out.c4
        have z0 := R2.out.frozen 0
        have z1 := R2.out.frozen 1
        have z2 := R2.out.frozen 2
        have z3 := R2.out.frozen 3
        go_wp2
        exact bodyPost_ret (v := .tuple #[pfx false 0 0 0, .int .i64 1]) (by simp [results, Try.results67, go_sem, g1, g2, g3, g4]) rfl ⟨by rw [HR.out], by (repeat (refine Below.setCell ?_ (by simp) _)); exact L2.out⟩
end Go.Proofs.Ytabbclocgkhnhaa
