/-
  prefix.Holds, Valid, Covers, Less of any ranges and addresses.
-/
import Derived.Test.YtabbclocgkhnhaaPOf
namespace Go.Proofs.Ytabbclocgkhnhaa
open Go.RowKit
set_option linter.unusedVariables false

theorem ofP_at (s : Bool) (h l : Nat) (b : Int) (hh : N64 h) (hl : N64 l) {v : Value} (e : ofP s h l b = v) (w : World) :
    Calls Try.prog 67 #[adr s h l, .int .i64 b] w fun e w' => e = .returned v ∧ Below w.heap.size w w' := by
  subst e; exact ofP_any s h l b hh hl w
theorem ofP_yes {s : Bool} {h l : Nat} {b : Int} (hk : vld s h l = true ∧ okn s b = true) : ofP s h l b = .tuple #[pfx s (ct h (kk s b - 64) : Nat) (ct l (kk s b) : Nat) b, .int .i64 0] := by
  unfold ofP; rw [hk.1, hk.2]; rfl
theorem ofP_no {s : Bool} {h l : Nat} {b : Int} (hk : ¬ (vld s h l = true ∧ okn s b = true)) : ofP s h l b = .tuple #[pfx false 0 0 0, .int .i64 1] := by
  unfold ofP
  rw [if_neg (by simpa using hk)]
theorem hld_not {s : Bool} {h l : Nat} {b : Int} {s' : Bool} {h' l' : Nat} (hk : ¬ (vld s' h' l' = true ∧ okn s' b = true)) : hld s h l b s' h' l' = false := by
  rw [Bool.eq_false_iff]; intro e
  unfold hld at e
  simp only [Bool.and_eq_true, decide_eq_true_eq] at e
  exact hk e.1.1.1
theorem hld_if {s : Bool} {h l : Nat} {b : Int} {s' : Bool} {h' l' : Nat} (hk : vld s' h' l' = true ∧ okn s' b = true) :
    hld s h l b s' h' l' = decide (s' = s ∧ ((ct h' (kk s' b - 64) : Nat) : Int) = h ∧ ((ct l' (kk s' b) : Nat) : Int) = l) := by
  unfold hld
  rw [hk.1, hk.2]
  rw [Bool.eq_iff_iff]
  simp only [Bool.and_eq_true, decide_eq_true_eq, Bool.true_and, and_assoc]
  exact and_congr_right fun _ => and_congr (by omega) (by omega)

set_option maxRecDepth 100000 in
set_option maxHeartbeats 4000000 in
theorem holds_any (s : Bool) (h l : Nat) (b : Int) (s' : Bool) (h' l' : Nat) (hh : N64 h') (hl : N64 l') (w : World) :
    Calls Try.prog 70 #[pfx s h l b, adr s' h' l'] w fun e w' => e = .returned (.bool (hld s h l b s' h' l')) ∧ Below w.heap.size w w' := by
  obtain ⟨R, hR⟩ : ∃ R, hld s h l b s' h' l' = R := ⟨_, rfl⟩
  rw [hR]
  by_cases hk : vld s' h' l' = true ∧ okn s' b = true
  · have e1 := ofP_yes hk
    rw [hld_if hk] at hR
    obtain ⟨X, hX⟩ : ∃ X, ((ct h' (kk s' b - 64) : Nat) : Int) = X := ⟨_, rfl⟩
    obtain ⟨Y, hY⟩ : ∃ Y, ((ct l' (kk s' b) : Nat) : Int) = Y := ⟨_, rfl⟩
    rw [hX, hY] at e1 hR
    obtain ⟨H, hH⟩ : ∃ H : Int, (h : Int) = H := ⟨_, rfl⟩
    obtain ⟨M, hM⟩ : ∃ M : Int, (l : Int) = M := ⟨_, rfl⟩
    rw [hH, hM] at hR
    rw [hH, hM]
    have HO := Lib.hid (fun w => ofP_at s' h' l' b hh hl e1 w)
    clear e1 hk hX hY hH hM
    have HR := Lib.hid hR
    clear hR
    by_cases c : s' = s ∧ X = H ∧ Y = M
    · obtain ⟨rfl, rfl, rfl⟩ := c
      go_enter Try.func70, Try.ntmps70
      go_wp2_with fail
      refine Calls.mono (HO.out _) ?_
      rintro e w1 ⟨rfl, hb⟩
      have K1 := Lib.hid ((Blk.new w 93 #[.bool s', .int .u64 X, .int .u64 Y, .int .i64 b]).alloc (.cells #[.bool s', .int .u64 h', .int .u64 l'] 34) |>.below hb (by simp only [World.size_alloc]; omega))
      have Q1 := Lib.hid ((Blk.new (w.alloc (.cells #[.bool s', .int .u64 X, .int .u64 Y, .int .i64 b] 93)) 34 #[.bool s', .int .u64 h', .int .u64 l']).below hb (by simp only [World.size_alloc]; omega))
      rw [World.size_alloc] at Q1
      have L1 := Lib.hid ((((Below.refl _ w).alloc (Nat.le_refl _) _).alloc (by simp) _).trans (hb.mono (by simp only [World.size_alloc]; omega)))
      have s1 : w.heap.size + 1 < w1.heap.size := by have := hb.size; simp only [World.size_alloc] at this; omega
      clear hb
      obtain ⟨f0, f1, f2, f3⟩ := K1.out.c4
      obtain ⟨g0, g1, g2⟩ := Q1.out.c3
      have N1 := Lib.hid (L1.out.alloc L1.out.size (.cells #[.bool s', .int .u64 X, .int .u64 Y, .int .i64 b] 93))
      have K9 := Lib.hid (K1.out.alloc (.cells #[.bool s', .int .u64 X, .int .u64 Y, .int .i64 b] 93))
      obtain ⟨m0, m1, m2, m3⟩ := K9.out.c4
      go_wp2
      go_ret
      exact ⟨ret_bool (by rw [← HR.out]; simp [*]), N1.out⟩
    · by_cases c1 : s' = s
      · subst c1
        by_cases c2 : X = H
        · subst c2
          have c3 : ¬ Y = M := fun e => c ⟨rfl, rfl, e⟩
          go_enter Try.func70, Try.ntmps70
          go_wp2_with fail
          refine Calls.mono (HO.out _) ?_
          rintro e w1 ⟨rfl, hb⟩
          have K1 := Lib.hid ((Blk.new w 93 #[.bool s', .int .u64 X, .int .u64 M, .int .i64 b]).alloc (.cells #[.bool s', .int .u64 h', .int .u64 l'] 34) |>.below hb (by simp only [World.size_alloc]; omega))
          have Q1 := Lib.hid ((Blk.new (w.alloc (.cells #[.bool s', .int .u64 X, .int .u64 M, .int .i64 b] 93)) 34 #[.bool s', .int .u64 h', .int .u64 l']).below hb (by simp only [World.size_alloc]; omega))
          rw [World.size_alloc] at Q1
          have L1 := Lib.hid ((((Below.refl _ w).alloc (Nat.le_refl _) _).alloc (by simp) _).trans (hb.mono (by simp only [World.size_alloc]; omega)))
          have s1 : w.heap.size + 1 < w1.heap.size := by have := hb.size; simp only [World.size_alloc] at this; omega
          clear hb
          obtain ⟨f0, f1, f2, f3⟩ := K1.out.c4
          obtain ⟨g0, g1, g2⟩ := Q1.out.c3
          have N1 := Lib.hid (L1.out.alloc L1.out.size (.cells #[.bool s', .int .u64 X, .int .u64 Y, .int .i64 b] 93))
          have K9 := Lib.hid (K1.out.alloc (.cells #[.bool s', .int .u64 X, .int .u64 Y, .int .i64 b] 93))
          obtain ⟨m0, m1, m2, m3⟩ := K9.out.c4
          go_wp2
          go_ret
          exact ⟨ret_bool (by rw [← HR.out]; simp [*]), N1.out⟩
        · skip
          go_enter Try.func70, Try.ntmps70
          go_wp2_with fail
          refine Calls.mono (HO.out _) ?_
          rintro e w1 ⟨rfl, hb⟩
          have K1 := Lib.hid ((Blk.new w 93 #[.bool s', .int .u64 H, .int .u64 M, .int .i64 b]).alloc (.cells #[.bool s', .int .u64 h', .int .u64 l'] 34) |>.below hb (by simp only [World.size_alloc]; omega))
          have Q1 := Lib.hid ((Blk.new (w.alloc (.cells #[.bool s', .int .u64 H, .int .u64 M, .int .i64 b] 93)) 34 #[.bool s', .int .u64 h', .int .u64 l']).below hb (by simp only [World.size_alloc]; omega))
          rw [World.size_alloc] at Q1
          have L1 := Lib.hid ((((Below.refl _ w).alloc (Nat.le_refl _) _).alloc (by simp) _).trans (hb.mono (by simp only [World.size_alloc]; omega)))
          have s1 : w.heap.size + 1 < w1.heap.size := by have := hb.size; simp only [World.size_alloc] at this; omega
          clear hb
          obtain ⟨f0, f1, f2, f3⟩ := K1.out.c4
          obtain ⟨g0, g1, g2⟩ := Q1.out.c3
          have N1 := Lib.hid (L1.out.alloc L1.out.size (.cells #[.bool s', .int .u64 X, .int .u64 Y, .int .i64 b] 93))
          have K9 := Lib.hid (K1.out.alloc (.cells #[.bool s', .int .u64 X, .int .u64 Y, .int .i64 b] 93))
          obtain ⟨m0, m1, m2, m3⟩ := K9.out.c4
          go_wp2
          go_ret
          exact ⟨ret_bool (by rw [← HR.out]; simp [*]), N1.out⟩
      · cases s <;> cases s'
        · exact absurd rfl c1
        · skip
          go_enter Try.func70, Try.ntmps70
          go_wp2_with fail
          refine Calls.mono (HO.out _) ?_
          rintro e w1 ⟨rfl, hb⟩
          have K1 := Lib.hid ((Blk.new w 93 #[.bool false, .int .u64 H, .int .u64 M, .int .i64 b]).alloc (.cells #[.bool true, .int .u64 h', .int .u64 l'] 34) |>.below hb (by simp only [World.size_alloc]; omega))
          have Q1 := Lib.hid ((Blk.new (w.alloc (.cells #[.bool false, .int .u64 H, .int .u64 M, .int .i64 b] 93)) 34 #[.bool true, .int .u64 h', .int .u64 l']).below hb (by simp only [World.size_alloc]; omega))
          rw [World.size_alloc] at Q1
          have L1 := Lib.hid ((((Below.refl _ w).alloc (Nat.le_refl _) _).alloc (by simp) _).trans (hb.mono (by simp only [World.size_alloc]; omega)))
          have s1 : w.heap.size + 1 < w1.heap.size := by have := hb.size; simp only [World.size_alloc] at this; omega
          clear hb
          obtain ⟨f0, f1, f2, f3⟩ := K1.out.c4
          obtain ⟨g0, g1, g2⟩ := Q1.out.c3
          have N1 := Lib.hid (L1.out.alloc L1.out.size (.cells #[.bool true, .int .u64 X, .int .u64 Y, .int .i64 b] 93))
          have K9 := Lib.hid (K1.out.alloc (.cells #[.bool true, .int .u64 X, .int .u64 Y, .int .i64 b] 93))
          obtain ⟨m0, m1, m2, m3⟩ := K9.out.c4
          go_wp2
          go_ret
          exact ⟨ret_bool (by rw [← HR.out]; simp [*]), N1.out⟩
        · skip
          go_enter Try.func70, Try.ntmps70
          go_wp2_with fail
          refine Calls.mono (HO.out _) ?_
          rintro e w1 ⟨rfl, hb⟩
          have K1 := Lib.hid ((Blk.new w 93 #[.bool true, .int .u64 H, .int .u64 M, .int .i64 b]).alloc (.cells #[.bool false, .int .u64 h', .int .u64 l'] 34) |>.below hb (by simp only [World.size_alloc]; omega))
          have Q1 := Lib.hid ((Blk.new (w.alloc (.cells #[.bool true, .int .u64 H, .int .u64 M, .int .i64 b] 93)) 34 #[.bool false, .int .u64 h', .int .u64 l']).below hb (by simp only [World.size_alloc]; omega))
          rw [World.size_alloc] at Q1
          have L1 := Lib.hid ((((Below.refl _ w).alloc (Nat.le_refl _) _).alloc (by simp) _).trans (hb.mono (by simp only [World.size_alloc]; omega)))
          have s1 : w.heap.size + 1 < w1.heap.size := by have := hb.size; simp only [World.size_alloc] at this; omega
          clear hb
          obtain ⟨f0, f1, f2, f3⟩ := K1.out.c4
          obtain ⟨g0, g1, g2⟩ := Q1.out.c3
          have N1 := Lib.hid (L1.out.alloc L1.out.size (.cells #[.bool false, .int .u64 X, .int .u64 Y, .int .i64 b] 93))
          have K9 := Lib.hid (K1.out.alloc (.cells #[.bool false, .int .u64 X, .int .u64 Y, .int .i64 b] 93))
          obtain ⟨m0, m1, m2, m3⟩ := K9.out.c4
          go_wp2
          go_ret
          exact ⟨ret_bool (by rw [← HR.out]; simp [*]), N1.out⟩
        · exact absurd rfl c1
  · have e1 := ofP_no hk
    have HO := Lib.hid (fun w => ofP_at s' h' l' b hh hl e1 w)
    rw [hld_not hk] at hR
    subst hR
    clear e1 hk
    go_enter Try.func70, Try.ntmps70
    go_wp2_with fail
    refine Calls.mono (HO.out _) ?_
    rintro e w1 ⟨rfl, hb⟩
    have K1 := Lib.hid ((Blk.new w 93 #[.bool s, .int .u64 h, .int .u64 l, .int .i64 b]).alloc (.cells #[.bool s', .int .u64 h', .int .u64 l'] 34) |>.below hb (by simp only [World.size_alloc]; omega))
    have Q1 := Lib.hid ((Blk.new (w.alloc (.cells #[.bool s, .int .u64 h, .int .u64 l, .int .i64 b] 93)) 34 #[.bool s', .int .u64 h', .int .u64 l']).below hb (by simp only [World.size_alloc]; omega))
    rw [World.size_alloc] at Q1
    have L1 := Lib.hid ((((Below.refl _ w).alloc (Nat.le_refl _) _).alloc (by simp) _).trans (hb.mono (by simp only [World.size_alloc]; omega)))
    have s1 : w.heap.size + 1 < w1.heap.size := by have := hb.size; simp only [World.size_alloc] at this; omega
    clear hb
    obtain ⟨f0, f1, f2, f3⟩ := K1.out.c4
    obtain ⟨g0, g1, g2⟩ := Q1.out.c3
    have N1 := Lib.hid (L1.out.alloc L1.out.size (.cells #[.bool false, .int .u64 0, .int .u64 0, .int .i64 0] 93))
    go_wp2
    go_ret
    exact ⟨rfl, N1.out⟩

theorem holds_at (s : Bool) (h l : Nat) (b : Int) (s' : Bool) (h' l' : Nat) (hh : N64 h') (hl : N64 l') {v : Bool} (e : hld s h l b s' h' l' = v) (w : World) :
    Calls Try.prog 70 #[pfx s h l b, adr s' h' l'] w fun e w' => e = .returned (.bool v) ∧ Below w.heap.size w w' := by
  subst e; exact holds_any s h l b s' h' l' hh hl w
end Go.Proofs.Ytabbclocgkhnhaa
