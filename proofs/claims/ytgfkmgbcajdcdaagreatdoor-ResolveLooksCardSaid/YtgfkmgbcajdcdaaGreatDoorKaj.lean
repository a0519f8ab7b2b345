/-
  Several texts in one: PHold, PLs.
-/
import Derived.Test.YtgfkmgbcajdcdaaGreatDoorKai
namespace Go.Proofs.YtgfkmgbcajdcdaaGreatDoor
open Go.RowKit
set_option linter.unusedVariables false

theorem ofP_at (s : Bool) (h l : Nat) (b : Int) (hh : N64 h) (hl : N64 l) {v : Value} (e : ofP s h l b = v) (w : World) :
    Calls Tryz.prog 112 #[adr s h l, .int .i64 b] w fun e w' => e = .returned v ∧ Below w.heap.size w w' := by
  subst e; exact ofP_any s h l b hh hl w
theorem ofP_yes {s : Bool} {h l : Nat} {b : Int} (hk : vld s h l = true ∧ okn s b = true) : ofP s h l b = .tuple #[pfx s (ct h (kk s b - 64) : Nat) (ct l (kk s b) : Nat) b, .int .i64 0] := by
  unfold ofP; rw [hk.1, hk.2]; rfl
theorem ofP_no {s : Bool} {h l : Nat} {b : Int} (hk : ¬ (vld s h l = true ∧ okn s b = true)) : ofP s h l b = .tuple #[pfx false 0 0 0, .int .i64 1] := by
  unfold ofP
  rw [if_neg (by simpa using hk)]
theorem hld_not {s : Bool} {h l : Nat} {b : Int} {s' : Bool} {h' l' : Nat} (hk : ¬ (vld s' h' l' = true ∧ okn s' b = true)) : hld s h l b s' h' l' = false := by
  rw [Bool.eq_false_iff]; intro e
  unfold hld at e
  simp only [Bool.and_eq_true, decide_eq_true_eq] at e
  exact hk e.1.1.1
theorem hld_if {s : Bool} {h l : Nat} {b : Int} {s' : Bool} {h' l' : Nat} (hk : vld s' h' l' = true ∧ okn s' b = true) :
    hld s h l b s' h' l' = decide (s' = s ∧ ((ct h' (kk s' b - 64) : Nat) : Int) = h ∧ ((ct l' (kk s' b) : Nat) : Int) = l) := by
  unfold hld
  rw [hk.1, hk.2]
  rw [Bool.eq_iff_iff]
  simp only [Bool.and_eq_true, decide_eq_true_eq, Bool.true_and, and_assoc]
  exact and_congr_right fun _ => and_congr (by omega) (by omega)

set_option maxRecDepth 100000 in
set_option maxHeartbeats 4000000 in
theorem holds_any (s : Bool) (h l : Nat) (b : Int) (s' : Bool) (h' l' : Nat) (hh : N64 h') (hl : N64 l') (w : World) :
    Calls Tryz.prog 69 #[pfx s h l b, adr s' h' l'] w fun e w' => e = .returned (.bool (hld s h l b s' h' l')) ∧ Below w.heap.size w w' := by
  obtain ⟨R, hR⟩ : ∃ R, hld s h l b s' h' l' = R := ⟨_, rfl⟩
  rw [hR]
  by_cases hk : vld s' h' l' = true ∧ okn s' b = true
  · have e1 := ofP_yes hk
    rw [hld_if hk] at hR
    obtain ⟨X, hX⟩ : ∃ X, ((ct h' (kk s' b - 64) : Nat) : Int) = X := ⟨_, rfl⟩
    obtain ⟨Y, hY⟩ : ∃ Y, ((ct l' (kk s' b) : Nat) : Int) = Y := ⟨_, rfl⟩
    rw [hX, hY] at e1 hR
    obtain ⟨H, hH⟩ : ∃ H : Int, (h : Int) = H := ⟨_, rfl⟩
    obtain ⟨M, hM⟩ : ∃ M : Int, (l : Int) = M := ⟨_, rfl⟩
    rw [hH, hM] at hR
    rw [hH, hM]
    have HO := Lib.hid (fun w => ofP_at s' h' l' b hh hl e1 w)
    clear e1 hk hX hY hH hM
    have HR := Lib.hid hR
    clear hR
    by_cases c : s' = s ∧ X = H ∧ Y = M
    · obtain ⟨rfl, rfl, rfl⟩ := c
      go_enter Tryz.func69, Tryz.ntmps69
      go_wp2_with fail
      refine Calls.mono (HO.out _) ?_
      rintro e w1 ⟨rfl, hb⟩
      have K1 := Lib.hid ((Blk.new w 30 #[.bool s', .int .u64 X, .int .u64 Y, .int .i64 b]).alloc (.cells #[.bool s', .int .u64 h', .int .u64 l'] 28) |>.below hb (by simp only [World.size_alloc]; omega))
      have Q1 := Lib.hid ((Blk.new (w.alloc (.cells #[.bool s', .int .u64 X, .int .u64 Y, .int .i64 b] 30)) 28 #[.bool s', .int .u64 h', .int .u64 l']).below hb (by simp only [World.size_alloc]; omega))
      rw [World.size_alloc] at Q1
      have L1 := Lib.hid ((((Below.refl _ w).alloc (Nat.le_refl _) _).alloc (by simp) _).trans (hb.mono (by simp only [World.size_alloc]; omega)))
      have s1 : w.heap.size + 1 < w1.heap.size := by have := hb.size; simp only [World.size_alloc] at this; omega
      clear hb
      obtain ⟨f0, f1, f2, f3⟩ := K1.out.c4
      obtain ⟨g0, g1, g2⟩ := Q1.out.c3
      have N1 := Lib.hid (L1.out.alloc L1.out.size (.cells #[.bool s', .int .u64 X, .int .u64 Y, .int .i64 b] 30))
      have K9 := Lib.hid (K1.out.alloc (.cells #[.bool s', .int .u64 X, .int .u64 Y, .int .i64 b] 30))
      obtain ⟨m0, m1, m2, m3⟩ := K9.out.c4
      go_wp2
      go_ret
      exact ⟨ret_bool (by rw [← HR.out]; simp [*]), N1.out⟩
    · by_cases c1 : s' = s
      · subst c1
        by_cases c2 : X = H
        · subst c2
          have c3 : ¬ Y = M := fun e => c ⟨rfl, rfl, e⟩
          go_enter Tryz.func69, Tryz.ntmps69
          go_wp2_with fail
          refine Calls.mono (HO.out _) ?_
          rintro e w1 ⟨rfl, hb⟩
          have K1 := Lib.hid ((Blk.new w 30 #[.bool s', .int .u64 X, .int .u64 M, .int .i64 b]).alloc (.cells #[.bool s', .int .u64 h', .int .u64 l'] 28) |>.below hb (by simp only [World.size_alloc]; omega))
          have Q1 := Lib.hid ((Blk.new (w.alloc (.cells #[.bool s', .int .u64 X, .int .u64 M, .int .i64 b] 30)) 28 #[.bool s', .int .u64 h', .int .u64 l']).below hb (by simp only [World.size_alloc]; omega))
          rw [World.size_alloc] at Q1
          have L1 := Lib.hid ((((Below.refl _ w).alloc (Nat.le_refl _) _).alloc (by simp) _).trans (hb.mono (by simp only [World.size_alloc]; omega)))
          have s1 : w.heap.size + 1 < w1.heap.size := by have := hb.size; simp only [World.size_alloc] at this; omega
          clear hb
          obtain ⟨f0, f1, f2, f3⟩ := K1.out.c4
          obtain ⟨g0, g1, g2⟩ := Q1.out.c3
          have N1 := Lib.hid (L1.out.alloc L1.out.size (.cells #[.bool s', .int .u64 X, .int .u64 Y, .int .i64 b] 30))
          have K9 := Lib.hid (K1.out.alloc (.cells #[.bool s', .int .u64 X, .int .u64 Y, .int .i64 b] 30))
          obtain ⟨m0, m1, m2, m3⟩ := K9.out.c4
          go_wp2
          go_ret
          exact ⟨ret_bool (by rw [← HR.out]; simp [*]), N1.out⟩
        · skip
          go_enter Tryz.func69, Tryz.ntmps69
          go_wp2_with fail
          refine Calls.mono (HO.out _) ?_
          rintro e w1 ⟨rfl, hb⟩
          have K1 := Lib.hid ((Blk.new w 30 #[.bool s', .int .u64 H, .int .u64 M, .int .i64 b]).alloc (.cells #[.bool s', .int .u64 h', .int .u64 l'] 28) |>.below hb (by simp only [World.size_alloc]; omega))
          have Q1 := Lib.hid ((Blk.new (w.alloc (.cells #[.bool s', .int .u64 H, .int .u64 M, .int .i64 b] 30)) 28 #[.bool s', .int .u64 h', .int .u64 l']).below hb (by simp only [World.size_alloc]; omega))
          rw [World.size_alloc] at Q1
          have L1 := Lib.hid ((((Below.refl _ w).alloc (Nat.le_refl _) _).alloc (by simp) _).trans (hb.mono (by simp only [World.size_alloc]; omega)))
          have s1 : w.heap.size + 1 < w1.heap.size := by have := hb.size; simp only [World.size_alloc] at this; omega
          clear hb
          obtain ⟨f0, f1, f2, f3⟩ := K1.out.c4
          obtain ⟨g0, g1, g2⟩ := Q1.out.c3
          have N1 := Lib.hid (L1.out.alloc L1.out.size (.cells #[.bool s', .int .u64 X, .int .u64 Y, .int .i64 b] 30))
          have K9 := Lib.hid (K1.out.alloc (.cells #[.bool s', .int .u64 X, .int .u64 Y, .int .i64 b] 30))
          obtain ⟨m0, m1, m2, m3⟩ := K9.out.c4
          go_wp2
          go_ret
          exact ⟨ret_bool (by rw [← HR.out]; simp [*]), N1.out⟩
      · cases s <;> cases s'
        · exact absurd rfl c1
        · skip
          go_enter Tryz.func69, Tryz.ntmps69
          go_wp2_with fail
          refine Calls.mono (HO.out _) ?_
          rintro e w1 ⟨rfl, hb⟩
          have K1 := Lib.hid ((Blk.new w 30 #[.bool false, .int .u64 H, .int .u64 M, .int .i64 b]).alloc (.cells #[.bool true, .int .u64 h', .int .u64 l'] 28) |>.below hb (by simp only [World.size_alloc]; omega))
          have Q1 := Lib.hid ((Blk.new (w.alloc (.cells #[.bool false, .int .u64 H, .int .u64 M, .int .i64 b] 30)) 28 #[.bool true, .int .u64 h', .int .u64 l']).below hb (by simp only [World.size_alloc]; omega))
          rw [World.size_alloc] at Q1
          have L1 := Lib.hid ((((Below.refl _ w).alloc (Nat.le_refl _) _).alloc (by simp) _).trans (hb.mono (by simp only [World.size_alloc]; omega)))
          have s1 : w.heap.size + 1 < w1.heap.size := by have := hb.size; simp only [World.size_alloc] at this; omega
          clear hb
          obtain ⟨f0, f1, f2, f3⟩ := K1.out.c4
          obtain ⟨g0, g1, g2⟩ := Q1.out.c3
          have N1 := Lib.hid (L1.out.alloc L1.out.size (.cells #[.bool true, .int .u64 X, .int .u64 Y, .int .i64 b] 30))
          have K9 := Lib.hid (K1.out.alloc (.cells #[.bool true, .int .u64 X, .int .u64 Y, .int .i64 b] 30))
          obtain ⟨m0, m1, m2, m3⟩ := K9.out.c4
          go_wp2
          go_ret
          exact ⟨ret_bool (by rw [← HR.out]; simp [*]), N1.out⟩
        · skip
          go_enter Tryz.func69, Tryz.ntmps69
          go_wp2_with fail
          refine Calls.mono (HO.out _) ?_
          rintro e w1 ⟨rfl, hb⟩
          have K1 := Lib.hid ((Blk.new w 30 #[.bool true, .int .u64 H, .int .u64 M, .int .i64 b]).alloc (.cells #[.bool false, .int .u64 h', .int .u64 l'] 28) |>.below hb (by simp only [World.size_alloc]; omega))
          have Q1 := Lib.hid ((Blk.new (w.alloc (.cells #[.bool true, .int .u64 H, .int .u64 M, .int .i64 b] 30)) 28 #[.bool false, .int .u64 h', .int .u64 l']).below hb (by simp only [World.size_alloc]; omega))
          rw [World.size_alloc] at Q1
          have L1 := Lib.hid ((((Below.refl _ w).alloc (Nat.le_refl _) _).alloc (by simp) _).trans (hb.mono (by simp only [World.size_alloc]; omega)))
          have s1 : w.heap.size + 1 < w1.heap.size := by have := hb.size; simp only [World.size_alloc] at this; omega
          clear hb
          obtain ⟨f0, f1, f2, f3⟩ := K1.out.c4
          obtain ⟨g0, g1, g2⟩ := Q1.out.c3
          have N1 := Lib.hid (L1.out.alloc L1.out.size (.cells #[.bool false, .int .u64 X, .int .u64 Y, .int .i64 b] 30))
          have K9 := Lib.hid (K1.out.alloc (.cells #[.bool false, .int .u64 X, .int .u64 Y, .int .i64 b] 30))
          obtain ⟨m0, m1, m2, m3⟩ := K9.out.c4
          go_wp2
          go_ret
          exact ⟨ret_bool (by rw [← HR.out]; simp [*]), N1.out⟩
        · exact absurd rfl c1
  · have e1 := ofP_no hk
    have HO := Lib.hid (fun w => ofP_at s' h' l' b hh hl e1 w)
    rw [hld_not hk] at hR
    subst hR
    clear e1 hk
    go_enter Tryz.func69, Tryz.ntmps69
    go_wp2_with fail
    refine Calls.mono (HO.out _) ?_
    rintro e w1 ⟨rfl, hb⟩
    have K1 := Lib.hid ((Blk.new w 30 #[.bool s, .int .u64 h, .int .u64 l, .int .i64 b]).alloc (.cells #[.bool s', .int .u64 h', .int .u64 l'] 28) |>.below hb (by simp only [World.size_alloc]; omega))
    have Q1 := Lib.hid ((Blk.new (w.alloc (.cells #[.bool s, .int .u64 h, .int .u64 l, .int .i64 b] 30)) 28 #[.bool s', .int .u64 h', .int .u64 l']).below hb (by simp only [World.size_alloc]; omega))
    rw [World.size_alloc] at Q1
    have L1 := Lib.hid ((((Below.refl _ w).alloc (Nat.le_refl _) _).alloc (by simp) _).trans (hb.mono (by simp only [World.size_alloc]; omega)))
    have s1 : w.heap.size + 1 < w1.heap.size := by have := hb.size; simp only [World.size_alloc] at this; omega
    clear hb
    obtain ⟨f0, f1, f2, f3⟩ := K1.out.c4
    obtain ⟨g0, g1, g2⟩ := Q1.out.c3
    have N1 := Lib.hid (L1.out.alloc L1.out.size (.cells #[.bool false, .int .u64 0, .int .u64 0, .int .i64 0] 30))
    go_wp2
    go_ret
    exact ⟨rfl, N1.out⟩

theorem holds_at (s : Bool) (h l : Nat) (b : Int) (s' : Bool) (h' l' : Nat) (hh : N64 h') (hl : N64 l') {v : Bool} (e : hld s h l b s' h' l' = v) (w : World) :
    Calls Tryz.prog 69 #[pfx s h l b, adr s' h' l'] w fun e w' => e = .returned (.bool v) ∧ Below w.heap.size w w' := by
  subst e; exact holds_any s h l b s' h' l' hh hl w
set_option maxHeartbeats 1000000 in
theorem pvalid_at (s : Bool) (h l : Nat) (b : Int) (hh : N64 h) (hl : N64 l) {v : Bool} (e : pvl s h l b = v) (w : World) :
    Calls Tryz.prog 106 #[pfx s h l b] w fun e w' => e = .returned (.bool v) ∧ Below w.heap.size w w' := by
  have H := Lib.hid (fun w => holds_at s h l b s h l hh hl e w)
  clear e
  go_enter Tryz.func106, Tryz.ntmps106
  go_wp2_with fail
  refine Calls.mono (H.out _) ?_
  rintro e w1 ⟨rfl, hb⟩
  have L1 := Lib.hid (((Below.refl _ w).alloc (Nat.le_refl _) _).trans (hb.mono (by simp only [World.size_alloc]; omega)))
  clear hb
  go_wp2
  go_ret
  exact ⟨rfl, L1.out⟩

end Go.Proofs.YtgfkmgbcajdcdaaGreatDoor

namespace Go.Proofs.YtgfkmgbcajdcdaaGreatDoor
open Go.RowKit
set_option linter.unusedVariables false

theorem addrless_at (s : Bool) (h l : Int) (s' : Bool) (h' l' : Int) (w : World) {v : Bool} (e : lss s h l s' h' l' = v) :
    Calls Tryz.prog 116 #[adr s h l, adr s' h' l'] w fun e w' => e = .returned (.bool v) ∧ Below w.heap.size w w' := by
  subst e; exact less_any s h l s' h' l' w

set_option maxRecDepth 100000 in
set_option maxHeartbeats 4000000 in
theorem pless_at (s : Bool) (h l : Nat) (b : Int) (s' : Bool) (h' l' : Nat) (b' : Int) (hh : N64 h) (hl : N64 l) (hh' : N64 h') (hl' : N64 l') {v : Bool} (ev : pls s h l b s' h' l' b' = v) (w : World) :
    Calls Tryz.prog 74 #[pfx s h l b, pfx s' h' l' b'] w fun e w' => e = .returned (.bool v) ∧ Below w.heap.size w w' := by
  unfold pls at ev
  obtain ⟨V1, hV1⟩ : ∃ V, pvl s h l b = V := ⟨_, rfl⟩
  obtain ⟨V2, hV2⟩ : ∃ V, pvl s' h' l' b' = V := ⟨_, rfl⟩
  obtain ⟨T, hT⟩ : ∃ T, lss s h l s' h' l' = T := ⟨_, rfl⟩
  rw [hV1, hV2, hT] at ev
  have H1 := Lib.hid (fun w => pvalid_at s h l b hh hl hV1 w)
  have H2 := Lib.hid (fun w => pvalid_at s' h' l' b' hh' hl' hV2 w)
  have HT := Lib.hid (fun w => addrless_at s h l s' h' l' w hT)
  clear hV1 hV2 hT hh hl hh' hl'
  cases V1
  · simp only [Bool.false_and] at ev
    subst ev
    go_enter Tryz.func74, Tryz.ntmps74
    go_wp2_with fail
    refine Calls.mono (H1.out _) ?_
    rintro e w1 ⟨rfl, hb⟩
    have K1 := Lib.hid ((Blk.new w 30 #[.bool s, .int .u64 h, .int .u64 l, .int .i64 b]).alloc (.cells #[.bool s', .int .u64 h', .int .u64 l', .int .i64 b'] 30) |>.below hb (by simp only [World.size_alloc]; omega))
    have Q1 := Lib.hid ((Blk.new (w.alloc (.cells #[.bool s, .int .u64 h, .int .u64 l, .int .i64 b] 30)) 30 #[.bool s', .int .u64 h', .int .u64 l', .int .i64 b']).below hb (by simp only [World.size_alloc]; omega))
    rw [World.size_alloc] at Q1
    have L1 := Lib.hid ((((Below.refl _ w).alloc (Nat.le_refl _) _).alloc (by simp) _).trans (hb.mono (by simp only [World.size_alloc]; omega)))
    have s1 : w.heap.size + 1 < w1.heap.size := by have := hb.size; simp only [World.size_alloc] at this; omega
    clear hb
    obtain ⟨f0, f1, f2, f3⟩ := K1.out.c4
    obtain ⟨g0, g1, g2, g3⟩ := Q1.out.c4
    go_wp2
    go_ret
    exact ⟨rfl, L1.out⟩
  · cases V2
    · simp only [Bool.false_and, Bool.and_false] at ev
      subst ev
      go_enter Tryz.func74, Tryz.ntmps74
      go_wp2_with fail
      refine Calls.mono (H1.out _) ?_
      rintro e w1 ⟨rfl, hb⟩
      have K1 := Lib.hid ((Blk.new w 30 #[.bool s, .int .u64 h, .int .u64 l, .int .i64 b]).alloc (.cells #[.bool s', .int .u64 h', .int .u64 l', .int .i64 b'] 30) |>.below hb (by simp only [World.size_alloc]; omega))
      have Q1 := Lib.hid ((Blk.new (w.alloc (.cells #[.bool s, .int .u64 h, .int .u64 l, .int .i64 b] 30)) 30 #[.bool s', .int .u64 h', .int .u64 l', .int .i64 b']).below hb (by simp only [World.size_alloc]; omega))
      rw [World.size_alloc] at Q1
      have L1 := Lib.hid ((((Below.refl _ w).alloc (Nat.le_refl _) _).alloc (by simp) _).trans (hb.mono (by simp only [World.size_alloc]; omega)))
      have s1 : w.heap.size + 1 < w1.heap.size := by have := hb.size; simp only [World.size_alloc] at this; omega
      clear hb
      obtain ⟨f0, f1, f2, f3⟩ := K1.out.c4
      obtain ⟨g0, g1, g2, g3⟩ := Q1.out.c4
      go_wp2_with fail
      refine Calls.mono (H2.out _) ?_
      rintro e w2 ⟨rfl, hb⟩
      clear f0 f1 f2 f3 g0 g1 g2 g3
      have K2 := Lib.hid (K1.out.below hb (by omega))
      have Q2 := Lib.hid (Q1.out.below hb s1)
      have L2 := Lib.hid (L1.out.trans (hb.mono L1.out.size))
      have s2 : w.heap.size + 1 < w2.heap.size := by have := hb.size; omega
      clear hb
      obtain ⟨f0, f1, f2, f3⟩ := K2.out.c4
      obtain ⟨g0, g1, g2, g3⟩ := Q2.out.c4
      go_wp2
      go_ret
      exact ⟨rfl, L2.out⟩
    · simp only [Bool.true_and] at ev
      cases T
      · simp only [Bool.false_or] at ev
        obtain ⟨A, hA⟩ : ∃ A : Int, (h : Int) = A := ⟨_, rfl⟩
        obtain ⟨B, hB⟩ : ∃ B : Int, (l : Int) = B := ⟨_, rfl⟩
        obtain ⟨A', hA'⟩ : ∃ A : Int, (h' : Int) = A := ⟨_, rfl⟩
        obtain ⟨B', hB'⟩ : ∃ B : Int, (l' : Int) = B := ⟨_, rfl⟩
        have ev2 : decide (s = s' ∧ A = A' ∧ B = B' ∧ b < b') = v := by
          rw [← ev, ← hA, ← hB, ← hA', ← hB', Bool.eq_iff_iff]
          simp only [Bool.and_eq_true, decide_eq_true_eq, and_assoc]
          exact and_congr_right fun _ => and_congr (by omega) (and_congr_left fun _ => by omega)
        rw [hA, hB] at H1 HT ⊢
        rw [hA', hB'] at H2 HT ⊢
        clear ev hA hB hA' hB'
        by_cases c : s = s' ∧ A = A' ∧ B = B'
        · obtain ⟨rfl, rfl, rfl⟩ := c
          have ev3 := Lib.hid ev2
          clear ev2
          by_cases c4 : b < b'
          · skip
            go_enter Tryz.func74, Tryz.ntmps74
            go_wp2_with fail
            refine Calls.mono (H1.out _) ?_
            rintro e w1 ⟨rfl, hb⟩
            have K1 := Lib.hid ((Blk.new w 30 #[.bool s, .int .u64 A, .int .u64 B, .int .i64 b]).alloc (.cells #[.bool s, .int .u64 A, .int .u64 B, .int .i64 b'] 30) |>.below hb (by simp only [World.size_alloc]; omega))
            have Q1 := Lib.hid ((Blk.new (w.alloc (.cells #[.bool s, .int .u64 A, .int .u64 B, .int .i64 b] 30)) 30 #[.bool s, .int .u64 A, .int .u64 B, .int .i64 b']).below hb (by simp only [World.size_alloc]; omega))
            rw [World.size_alloc] at Q1
            have L1 := Lib.hid ((((Below.refl _ w).alloc (Nat.le_refl _) _).alloc (by simp) _).trans (hb.mono (by simp only [World.size_alloc]; omega)))
            have s1 : w.heap.size + 1 < w1.heap.size := by have := hb.size; simp only [World.size_alloc] at this; omega
            clear hb
            obtain ⟨f0, f1, f2, f3⟩ := K1.out.c4
            obtain ⟨g0, g1, g2, g3⟩ := Q1.out.c4
            go_wp2_with fail
            refine Calls.mono (H2.out _) ?_
            rintro e w2 ⟨rfl, hb⟩
            clear f0 f1 f2 f3 g0 g1 g2 g3
            have K2 := Lib.hid (K1.out.below hb (by omega))
            have Q2 := Lib.hid (Q1.out.below hb s1)
            have L2 := Lib.hid (L1.out.trans (hb.mono L1.out.size))
            have s2 : w.heap.size + 1 < w2.heap.size := by have := hb.size; omega
            clear hb
            obtain ⟨f0, f1, f2, f3⟩ := K2.out.c4
            obtain ⟨g0, g1, g2, g3⟩ := Q2.out.c4
            go_wp2_with fail
            refine Calls.mono (HT.out _) ?_
            rintro e w3 ⟨rfl, hb⟩
            clear f0 f1 f2 f3 g0 g1 g2 g3
            have K3 := Lib.hid (K2.out.below hb (by omega))
            have Q3 := Lib.hid (Q2.out.below hb s2)
            have L3 := Lib.hid (L2.out.trans (hb.mono L2.out.size))
            have s3 : w.heap.size + 1 < w3.heap.size := by have := hb.size; omega
            clear hb
            obtain ⟨f0, f1, f2, f3⟩ := K3.out.c4
            obtain ⟨g0, g1, g2, g3⟩ := Q3.out.c4
            go_wp2
            go_ret
            exact ⟨ret_bool (by rw [← ev3.out]; simp [*]), L3.out⟩
          · skip
            go_enter Tryz.func74, Tryz.ntmps74
            go_wp2_with fail
            refine Calls.mono (H1.out _) ?_
            rintro e w1 ⟨rfl, hb⟩
            have K1 := Lib.hid ((Blk.new w 30 #[.bool s, .int .u64 A, .int .u64 B, .int .i64 b]).alloc (.cells #[.bool s, .int .u64 A, .int .u64 B, .int .i64 b'] 30) |>.below hb (by simp only [World.size_alloc]; omega))
            have Q1 := Lib.hid ((Blk.new (w.alloc (.cells #[.bool s, .int .u64 A, .int .u64 B, .int .i64 b] 30)) 30 #[.bool s, .int .u64 A, .int .u64 B, .int .i64 b']).below hb (by simp only [World.size_alloc]; omega))
            rw [World.size_alloc] at Q1
            have L1 := Lib.hid ((((Below.refl _ w).alloc (Nat.le_refl _) _).alloc (by simp) _).trans (hb.mono (by simp only [World.size_alloc]; omega)))
            have s1 : w.heap.size + 1 < w1.heap.size := by have := hb.size; simp only [World.size_alloc] at this; omega
            clear hb
            obtain ⟨f0, f1, f2, f3⟩ := K1.out.c4
            obtain ⟨g0, g1, g2, g3⟩ := Q1.out.c4
            go_wp2_with fail
            refine Calls.mono (H2.out _) ?_
            rintro e w2 ⟨rfl, hb⟩
            clear f0 f1 f2 f3 g0 g1 g2 g3
            have K2 := Lib.hid (K1.out.below hb (by omega))
            have Q2 := Lib.hid (Q1.out.below hb s1)
            have L2 := Lib.hid (L1.out.trans (hb.mono L1.out.size))
            have s2 : w.heap.size + 1 < w2.heap.size := by have := hb.size; omega
            clear hb
            obtain ⟨f0, f1, f2, f3⟩ := K2.out.c4
            obtain ⟨g0, g1, g2, g3⟩ := Q2.out.c4
            go_wp2_with fail
            refine Calls.mono (HT.out _) ?_
            rintro e w3 ⟨rfl, hb⟩
            clear f0 f1 f2 f3 g0 g1 g2 g3
            have K3 := Lib.hid (K2.out.below hb (by omega))
            have Q3 := Lib.hid (Q2.out.below hb s2)
            have L3 := Lib.hid (L2.out.trans (hb.mono L2.out.size))
            have s3 : w.heap.size + 1 < w3.heap.size := by have := hb.size; omega
            clear hb
            obtain ⟨f0, f1, f2, f3⟩ := K3.out.c4
            obtain ⟨g0, g1, g2, g3⟩ := Q3.out.c4
            go_wp2
            go_ret
            exact ⟨ret_bool (by rw [← ev3.out]; simp [*]), L3.out⟩
        · have ev3 := Lib.hid ev2
          clear ev2
          by_cases c1 : s = s'
          · subst c1
            by_cases c2 : A = A'
            · subst c2
              have c3 : ¬ B = B' := fun e => c ⟨rfl, rfl, e⟩
              go_enter Tryz.func74, Tryz.ntmps74
              go_wp2_with fail
              refine Calls.mono (H1.out _) ?_
              rintro e w1 ⟨rfl, hb⟩
              have K1 := Lib.hid ((Blk.new w 30 #[.bool s, .int .u64 A, .int .u64 B, .int .i64 b]).alloc (.cells #[.bool s, .int .u64 A, .int .u64 B', .int .i64 b'] 30) |>.below hb (by simp only [World.size_alloc]; omega))
              have Q1 := Lib.hid ((Blk.new (w.alloc (.cells #[.bool s, .int .u64 A, .int .u64 B, .int .i64 b] 30)) 30 #[.bool s, .int .u64 A, .int .u64 B', .int .i64 b']).below hb (by simp only [World.size_alloc]; omega))
              rw [World.size_alloc] at Q1
              have L1 := Lib.hid ((((Below.refl _ w).alloc (Nat.le_refl _) _).alloc (by simp) _).trans (hb.mono (by simp only [World.size_alloc]; omega)))
              have s1 : w.heap.size + 1 < w1.heap.size := by have := hb.size; simp only [World.size_alloc] at this; omega
              clear hb
              obtain ⟨f0, f1, f2, f3⟩ := K1.out.c4
              obtain ⟨g0, g1, g2, g3⟩ := Q1.out.c4
              go_wp2_with fail
              refine Calls.mono (H2.out _) ?_
              rintro e w2 ⟨rfl, hb⟩
              clear f0 f1 f2 f3 g0 g1 g2 g3
              have K2 := Lib.hid (K1.out.below hb (by omega))
              have Q2 := Lib.hid (Q1.out.below hb s1)
              have L2 := Lib.hid (L1.out.trans (hb.mono L1.out.size))
              have s2 : w.heap.size + 1 < w2.heap.size := by have := hb.size; omega
              clear hb
              obtain ⟨f0, f1, f2, f3⟩ := K2.out.c4
              obtain ⟨g0, g1, g2, g3⟩ := Q2.out.c4
              go_wp2_with fail
              refine Calls.mono (HT.out _) ?_
              rintro e w3 ⟨rfl, hb⟩
              clear f0 f1 f2 f3 g0 g1 g2 g3
              have K3 := Lib.hid (K2.out.below hb (by omega))
              have Q3 := Lib.hid (Q2.out.below hb s2)
              have L3 := Lib.hid (L2.out.trans (hb.mono L2.out.size))
              have s3 : w.heap.size + 1 < w3.heap.size := by have := hb.size; omega
              clear hb
              obtain ⟨f0, f1, f2, f3⟩ := K3.out.c4
              obtain ⟨g0, g1, g2, g3⟩ := Q3.out.c4
              go_wp2
              go_ret
              exact ⟨ret_bool (by rw [← ev3.out]; simp [*]), L3.out⟩
            · skip
              go_enter Tryz.func74, Tryz.ntmps74
              go_wp2_with fail
              refine Calls.mono (H1.out _) ?_
              rintro e w1 ⟨rfl, hb⟩
              have K1 := Lib.hid ((Blk.new w 30 #[.bool s, .int .u64 A, .int .u64 B, .int .i64 b]).alloc (.cells #[.bool s, .int .u64 A', .int .u64 B', .int .i64 b'] 30) |>.below hb (by simp only [World.size_alloc]; omega))
              have Q1 := Lib.hid ((Blk.new (w.alloc (.cells #[.bool s, .int .u64 A, .int .u64 B, .int .i64 b] 30)) 30 #[.bool s, .int .u64 A', .int .u64 B', .int .i64 b']).below hb (by simp only [World.size_alloc]; omega))
              rw [World.size_alloc] at Q1
              have L1 := Lib.hid ((((Below.refl _ w).alloc (Nat.le_refl _) _).alloc (by simp) _).trans (hb.mono (by simp only [World.size_alloc]; omega)))
              have s1 : w.heap.size + 1 < w1.heap.size := by have := hb.size; simp only [World.size_alloc] at this; omega
              clear hb
              obtain ⟨f0, f1, f2, f3⟩ := K1.out.c4
              obtain ⟨g0, g1, g2, g3⟩ := Q1.out.c4
              go_wp2_with fail
              refine Calls.mono (H2.out _) ?_
              rintro e w2 ⟨rfl, hb⟩
              clear f0 f1 f2 f3 g0 g1 g2 g3
              have K2 := Lib.hid (K1.out.below hb (by omega))
              have Q2 := Lib.hid (Q1.out.below hb s1)
              have L2 := Lib.hid (L1.out.trans (hb.mono L1.out.size))
              have s2 : w.heap.size + 1 < w2.heap.size := by have := hb.size; omega
              clear hb
              obtain ⟨f0, f1, f2, f3⟩ := K2.out.c4
              obtain ⟨g0, g1, g2, g3⟩ := Q2.out.c4
              go_wp2_with fail
              refine Calls.mono (HT.out _) ?_
              rintro e w3 ⟨rfl, hb⟩
              clear f0 f1 f2 f3 g0 g1 g2 g3
              have K3 := Lib.hid (K2.out.below hb (by omega))
              have Q3 := Lib.hid (Q2.out.below hb s2)
              have L3 := Lib.hid (L2.out.trans (hb.mono L2.out.size))
              have s3 : w.heap.size + 1 < w3.heap.size := by have := hb.size; omega
              clear hb
              obtain ⟨f0, f1, f2, f3⟩ := K3.out.c4
              obtain ⟨g0, g1, g2, g3⟩ := Q3.out.c4
              go_wp2
              go_ret
              exact ⟨ret_bool (by rw [← ev3.out]; simp [*]), L3.out⟩
          · cases s <;> cases s'
            · exact absurd rfl c1
            · skip
              go_enter Tryz.func74, Tryz.ntmps74
              go_wp2_with fail
              refine Calls.mono (H1.out _) ?_
              rintro e w1 ⟨rfl, hb⟩
              have K1 := Lib.hid ((Blk.new w 30 #[.bool false, .int .u64 A, .int .u64 B, .int .i64 b]).alloc (.cells #[.bool true, .int .u64 A', .int .u64 B', .int .i64 b'] 30) |>.below hb (by simp only [World.size_alloc]; omega))
              have Q1 := Lib.hid ((Blk.new (w.alloc (.cells #[.bool false, .int .u64 A, .int .u64 B, .int .i64 b] 30)) 30 #[.bool true, .int .u64 A', .int .u64 B', .int .i64 b']).below hb (by simp only [World.size_alloc]; omega))
              rw [World.size_alloc] at Q1
              have L1 := Lib.hid ((((Below.refl _ w).alloc (Nat.le_refl _) _).alloc (by simp) _).trans (hb.mono (by simp only [World.size_alloc]; omega)))
              have s1 : w.heap.size + 1 < w1.heap.size := by have := hb.size; simp only [World.size_alloc] at this; omega
              clear hb
              obtain ⟨f0, f1, f2, f3⟩ := K1.out.c4
              obtain ⟨g0, g1, g2, g3⟩ := Q1.out.c4
              go_wp2_with fail
              refine Calls.mono (H2.out _) ?_
              rintro e w2 ⟨rfl, hb⟩
              clear f0 f1 f2 f3 g0 g1 g2 g3
              have K2 := Lib.hid (K1.out.below hb (by omega))
              have Q2 := Lib.hid (Q1.out.below hb s1)
              have L2 := Lib.hid (L1.out.trans (hb.mono L1.out.size))
              have s2 : w.heap.size + 1 < w2.heap.size := by have := hb.size; omega
              clear hb
              obtain ⟨f0, f1, f2, f3⟩ := K2.out.c4
              obtain ⟨g0, g1, g2, g3⟩ := Q2.out.c4
              go_wp2_with fail
              refine Calls.mono (HT.out _) ?_
              rintro e w3 ⟨rfl, hb⟩
              clear f0 f1 f2 f3 g0 g1 g2 g3
              have K3 := Lib.hid (K2.out.below hb (by omega))
              have Q3 := Lib.hid (Q2.out.below hb s2)
              have L3 := Lib.hid (L2.out.trans (hb.mono L2.out.size))
              have s3 : w.heap.size + 1 < w3.heap.size := by have := hb.size; omega
              clear hb
              obtain ⟨f0, f1, f2, f3⟩ := K3.out.c4
              obtain ⟨g0, g1, g2, g3⟩ := Q3.out.c4
              go_wp2
              go_ret
              exact ⟨ret_bool (by rw [← ev3.out]; simp [*]), L3.out⟩
            · skip
              go_enter Tryz.func74, Tryz.ntmps74
              go_wp2_with fail
              refine Calls.mono (H1.out _) ?_
              rintro e w1 ⟨rfl, hb⟩
              have K1 := Lib.hid ((Blk.new w 30 #[.bool true, .int .u64 A, .int .u64 B, .int .i64 b]).alloc (.cells #[.bool false, .int .u64 A', .int .u64 B', .int .i64 b'] 30) |>.below hb (by simp only [World.size_alloc]; omega))
              have Q1 := Lib.hid ((Blk.new (w.alloc (.cells #[.bool true, .int .u64 A, .int .u64 B, .int .i64 b] 30)) 30 #[.bool false, .int .u64 A', .int .u64 B', .int .i64 b']).below hb (by simp only [World.size_alloc]; omega))
              rw [World.size_alloc] at Q1
              have L1 := Lib.hid ((((Below.refl _ w).alloc (Nat.le_refl _) _).alloc (by simp) _).trans (hb.mono (by simp only [World.size_alloc]; omega)))
              have s1 : w.heap.size + 1 < w1.heap.size := by have := hb.size; simp only [World.size_alloc] at this; omega
              clear hb
              obtain ⟨f0, f1, f2, f3⟩ := K1.out.c4
              obtain ⟨g0, g1, g2, g3⟩ := Q1.out.c4
              go_wp2_with fail
              refine Calls.mono (H2.out _) ?_
              rintro e w2 ⟨rfl, hb⟩
              clear f0 f1 f2 f3 g0 g1 g2 g3
              have K2 := Lib.hid (K1.out.below hb (by omega))
              have Q2 := Lib.hid (Q1.out.below hb s1)
              have L2 := Lib.hid (L1.out.trans (hb.mono L1.out.size))
              have s2 : w.heap.size + 1 < w2.heap.size := by have := hb.size; omega
              clear hb
              obtain ⟨f0, f1, f2, f3⟩ := K2.out.c4
              obtain ⟨g0, g1, g2, g3⟩ := Q2.out.c4
              go_wp2_with fail
              refine Calls.mono (HT.out _) ?_
              rintro e w3 ⟨rfl, hb⟩
              clear f0 f1 f2 f3 g0 g1 g2 g3
              have K3 := Lib.hid (K2.out.below hb (by omega))
              have Q3 := Lib.hid (Q2.out.below hb s2)
              have L3 := Lib.hid (L2.out.trans (hb.mono L2.out.size))
              have s3 : w.heap.size + 1 < w3.heap.size := by have := hb.size; omega
              clear hb
              obtain ⟨f0, f1, f2, f3⟩ := K3.out.c4
              obtain ⟨g0, g1, g2, g3⟩ := Q3.out.c4
              go_wp2
              go_ret
              exact ⟨ret_bool (by rw [← ev3.out]; simp [*]), L3.out⟩
            · exact absurd rfl c1
      · simp only [Bool.true_or] at ev
        subst ev
        go_enter Tryz.func74, Tryz.ntmps74
        go_wp2_with fail
        refine Calls.mono (H1.out _) ?_
        rintro e w1 ⟨rfl, hb⟩
        have K1 := Lib.hid ((Blk.new w 30 #[.bool s, .int .u64 h, .int .u64 l, .int .i64 b]).alloc (.cells #[.bool s', .int .u64 h', .int .u64 l', .int .i64 b'] 30) |>.below hb (by simp only [World.size_alloc]; omega))
        have Q1 := Lib.hid ((Blk.new (w.alloc (.cells #[.bool s, .int .u64 h, .int .u64 l, .int .i64 b] 30)) 30 #[.bool s', .int .u64 h', .int .u64 l', .int .i64 b']).below hb (by simp only [World.size_alloc]; omega))
        rw [World.size_alloc] at Q1
        have L1 := Lib.hid ((((Below.refl _ w).alloc (Nat.le_refl _) _).alloc (by simp) _).trans (hb.mono (by simp only [World.size_alloc]; omega)))
        have s1 : w.heap.size + 1 < w1.heap.size := by have := hb.size; simp only [World.size_alloc] at this; omega
        clear hb
        obtain ⟨f0, f1, f2, f3⟩ := K1.out.c4
        obtain ⟨g0, g1, g2, g3⟩ := Q1.out.c4
        go_wp2_with fail
        refine Calls.mono (H2.out _) ?_
        rintro e w2 ⟨rfl, hb⟩
        clear f0 f1 f2 f3 g0 g1 g2 g3
        have K2 := Lib.hid (K1.out.below hb (by omega))
        have Q2 := Lib.hid (Q1.out.below hb s1)
        have L2 := Lib.hid (L1.out.trans (hb.mono L1.out.size))
        have s2 : w.heap.size + 1 < w2.heap.size := by have := hb.size; omega
        clear hb
        obtain ⟨f0, f1, f2, f3⟩ := K2.out.c4
        obtain ⟨g0, g1, g2, g3⟩ := Q2.out.c4
        go_wp2_with fail
        refine Calls.mono (HT.out _) ?_
        rintro e w3 ⟨rfl, hb⟩
        clear f0 f1 f2 f3 g0 g1 g2 g3
        have K3 := Lib.hid (K2.out.below hb (by omega))
        have Q3 := Lib.hid (Q2.out.below hb s2)
        have L3 := Lib.hid (L2.out.trans (hb.mono L2.out.size))
        have s3 : w.heap.size + 1 < w3.heap.size := by have := hb.size; omega
        clear hb
        obtain ⟨f0, f1, f2, f3⟩ := K3.out.c4
        obtain ⟨g0, g1, g2, g3⟩ := Q3.out.c4
        go_wp2
        go_ret
        exact ⟨rfl, L3.out⟩
end Go.Proofs.YtgfkmgbcajdcdaaGreatDoor
