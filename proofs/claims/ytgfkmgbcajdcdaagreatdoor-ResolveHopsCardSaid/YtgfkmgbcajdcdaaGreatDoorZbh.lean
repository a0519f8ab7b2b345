/-
  Several texts in one: PRLs.
-/
import Derived.Test.YtgfkmgbcajdcdaaGreatDoorZas
import Derived.Test.YtgfkmgbcajdcdaaGreatDoorZaj
import Derived.Test.YtgfkmgbcajdcdaaGreatDoorZbg
import Derived.Test.YtgfkmgbcajdcdaaGreatDoorZaa
set_option linter.unusedVariables false
set_option maxRecDepth 100000
set_option maxHeartbeats 16000000
namespace Go.Proofs.YtgfkmgbcajdcdaaGreatDoor
open Go.RowKit

theorem raddrless_at (s : Bool) (h l : Int) (s' : Bool) (h' l' : Int) (w : World) {v : Bool} (e : lss s h l s' h' l' = v) :
  Calls Tryz.prog 61 #[adr s h l, adr s' h' l'] w fun e w' => e = .returned (.bool v) ∧ Below w.heap.size w w' := by
 subst e; exact rless_any s h l s' h' l' w

theorem rpless_at (s : Bool) (h l : Nat) (b : Int) (s' : Bool) (h' l' : Nat) (b' : Int) (hh : N64 h) (hl : N64 l) (hh' : N64 h') (hl' : N64 l') {v : Bool} (ev : pls s h l b s' h' l' b' = v) (w : World) :
  Calls Tryz.prog 27 #[pfx s h l b, pfx s' h' l' b'] w fun e w' => e = .returned (.bool v) ∧ Below w.heap.size w w' := by
 unfold pls at ev
 obtain ⟨V1, hV1⟩ : ∃ V, pvl s h l b = V := ⟨_, rfl⟩
 obtain ⟨V2, hV2⟩ : ∃ V, pvl s' h' l' b' = V := ⟨_, rfl⟩
 obtain ⟨T, hT⟩ : ∃ T, lss s h l s' h' l' = T := ⟨_, rfl⟩
 rw [hV1, hV2, hT] at ev
 have H1 := lH (fun w => rpvalid_at s h l b hh hl hV1 w)
 have H2 := lH (fun w => rpvalid_at s' h' l' b' hh' hl' hV2 w)
 have HT := lH (fun w => raddrless_at s h l s' h' l' w hT)
 clear hV1 hV2 hT hh hl hh' hl'
 cases V1
 ·simp only [Bool.false_and] at ev
  subst ev
  go_enter Tryz.func27, Tryz.ntmps27
  go_wp2_with fail
  refine cZm (H1.out _) ?_
  rintro e w1 ⟨rfl, hb⟩
  have K1 := lH ((Blk.new w 30 #[.bool s, .int .u64 h, .int .u64 l, .int .i64 b]).alloc (.cells #[.bool s', .int .u64 h', .int .u64 l', .int .i64 b'] 30) |>.below hb (by simp only [zA]; omega))
  have Q1 := lH ((Blk.new (w.alloc (.cells #[.bool s, .int .u64 h, .int .u64 l, .int .i64 b] 30)) 30 #[.bool s', .int .u64 h', .int .u64 l', .int .i64 b']).below hb (by simp only [zA]; omega))
  rw [zA] at Q1
  have L1 := lH ((((Below.refl _ w).alloc (Nat.le_refl _) _).alloc (by simp) _).trans (hb.mono (by simp only [zA]; omega)))
  have s1 : w.heap.size + 1 < w1.heap.size := by have := hb.size; simp only [zA] at this; omega
  clear hb
  obtain ⟨f0, f1, f2, f3⟩ := K1.out.c4
  obtain ⟨g0, g1, g2, g3⟩ := Q1.out.c4
  go_wp2_with fail
  refine cZm (H2.out _) ?_
  rintro e w2 ⟨rfl, hb⟩
  clear f0 f1 f2 f3 g0 g1 g2 g3
  have K2 := lH (K1.out.below hb (by omega))
  have Q2 := lH (Q1.out.below hb s1)
  have L2 := lH (L1.out.trans (hb.mono L1.out.size))
  have s2 : w.heap.size + 1 < w2.heap.size := by have := hb.size; omega
  clear hb
  obtain ⟨f0, f1, f2, f3⟩ := K2.out.c4
  obtain ⟨g0, g1, g2, g3⟩ := Q2.out.c4
  go_wp2
  go_ret
  exact ⟨rfl, L2.out⟩
 ·cases V2
  ·simp only [Bool.false_and, Bool.and_false] at ev
   subst ev
   go_enter Tryz.func27, Tryz.ntmps27
   go_wp2_with fail
   refine cZm (H1.out _) ?_
   rintro e w1 ⟨rfl, hb⟩
   have K1 := lH ((Blk.new w 30 #[.bool s, .int .u64 h, .int .u64 l, .int .i64 b]).alloc (.cells #[.bool s', .int .u64 h', .int .u64 l', .int .i64 b'] 30) |>.below hb (by simp only [zA]; omega))
   have Q1 := lH ((Blk.new (w.alloc (.cells #[.bool s, .int .u64 h, .int .u64 l, .int .i64 b] 30)) 30 #[.bool s', .int .u64 h', .int .u64 l', .int .i64 b']).below hb (by simp only [zA]; omega))
   rw [zA] at Q1
   have L1 := lH ((((Below.refl _ w).alloc (Nat.le_refl _) _).alloc (by simp) _).trans (hb.mono (by simp only [zA]; omega)))
   have s1 : w.heap.size + 1 < w1.heap.size := by have := hb.size; simp only [zA] at this; omega
   clear hb
   obtain ⟨f0, f1, f2, f3⟩ := K1.out.c4
   obtain ⟨g0, g1, g2, g3⟩ := Q1.out.c4
   go_wp2_with fail
   refine cZm (H2.out _) ?_
   rintro e w2 ⟨rfl, hb⟩
   clear f0 f1 f2 f3 g0 g1 g2 g3
   have K2 := lH (K1.out.below hb (by omega))
   have Q2 := lH (Q1.out.below hb s1)
   have L2 := lH (L1.out.trans (hb.mono L1.out.size))
   have s2 : w.heap.size + 1 < w2.heap.size := by have := hb.size; omega
   clear hb
   obtain ⟨f0, f1, f2, f3⟩ := K2.out.c4
   obtain ⟨g0, g1, g2, g3⟩ := Q2.out.c4
   go_wp2
   go_ret
   exact ⟨rfl, L2.out⟩
  ·simp only [Bool.true_and] at ev
   cases T
   ·simp only [Bool.false_or] at ev
    obtain ⟨A, hA⟩ : ∃ A : Int, (h : Int) = A := ⟨_, rfl⟩
    obtain ⟨B, hB⟩ : ∃ B : Int, (l : Int) = B := ⟨_, rfl⟩
    obtain ⟨A', hA'⟩ : ∃ A : Int, (h' : Int) = A := ⟨_, rfl⟩
    obtain ⟨B', hB'⟩ : ∃ B : Int, (l' : Int) = B := ⟨_, rfl⟩
    have ev2 : decide (s = s' ∧ A = A' ∧ B = B' ∧ b < b') = v := by
     rw [← ev, ← hA, ← hB, ← hA', ← hB', Bool.eq_iff_iff]
     simp only [Bool.and_eq_true, decide_eq_true_eq, and_assoc]
     exact and_congr_right fun _ => and_congr (by omega) (and_congr_left fun _ => by omega)
    rw [hA, hB] at H1 HT ⊢
    rw [hA', hB'] at H2 HT ⊢
    clear ev hA hB hA' hB'
    by_cases c : s = s' ∧ A = A' ∧ B = B'
    ·obtain ⟨rfl, rfl, rfl⟩ := c
     have ev3 := lH ev2
     clear ev2
     by_cases c4 : b < b'
     ·skip
      go_enter Tryz.func27, Tryz.ntmps27
      go_wp2_with fail
      refine cZm (H1.out _) ?_
      rintro e w1 ⟨rfl, hb⟩
      have K1 := lH ((Blk.new w 30 #[.bool s, .int .u64 A, .int .u64 B, .int .i64 b]).alloc (.cells #[.bool s, .int .u64 A, .int .u64 B, .int .i64 b'] 30) |>.below hb (by simp only [zA]; omega))
      have Q1 := lH ((Blk.new (w.alloc (.cells #[.bool s, .int .u64 A, .int .u64 B, .int .i64 b] 30)) 30 #[.bool s, .int .u64 A, .int .u64 B, .int .i64 b']).below hb (by simp only [zA]; omega))
      rw [zA] at Q1
      have L1 := lH ((((Below.refl _ w).alloc (Nat.le_refl _) _).alloc (by simp) _).trans (hb.mono (by simp only [zA]; omega)))
      have s1 : w.heap.size + 1 < w1.heap.size := by have := hb.size; simp only [zA] at this; omega
      clear hb
      obtain ⟨f0, f1, f2, f3⟩ := K1.out.c4
      obtain ⟨g0, g1, g2, g3⟩ := Q1.out.c4
      go_wp2_with fail
      refine cZm (H2.out _) ?_
      rintro e w2 ⟨rfl, hb⟩
      clear f0 f1 f2 f3 g0 g1 g2 g3
      have K2 := lH (K1.out.below hb (by omega))
      have Q2 := lH (Q1.out.below hb s1)
      have L2 := lH (L1.out.trans (hb.mono L1.out.size))
      have s2 : w.heap.size + 1 < w2.heap.size := by have := hb.size; omega
      clear hb
      obtain ⟨f0, f1, f2, f3⟩ := K2.out.c4
      obtain ⟨g0, g1, g2, g3⟩ := Q2.out.c4
      go_wp2_with fail
      refine cZm (HT.out _) ?_
      rintro e w3 ⟨rfl, hb⟩
      clear f0 f1 f2 f3 g0 g1 g2 g3
      have K3 := lH (K2.out.below hb (by omega))
      have Q3 := lH (Q2.out.below hb s2)
      have L3 := lH (L2.out.trans (hb.mono L2.out.size))
      have s3 : w.heap.size + 1 < w3.heap.size := by have := hb.size; omega
      clear hb
      obtain ⟨f0, f1, f2, f3⟩ := K3.out.c4
      obtain ⟨g0, g1, g2, g3⟩ := Q3.out.c4
      go_wp2
      go_ret
      exact ⟨ret_bool (by rw [← ev3.out]; simp [*]), L3.out⟩
     ·skip
      go_enter Tryz.func27, Tryz.ntmps27
      go_wp2_with fail
      refine cZm (H1.out _) ?_
      rintro e w1 ⟨rfl, hb⟩
      have K1 := lH ((Blk.new w 30 #[.bool s, .int .u64 A, .int .u64 B, .int .i64 b]).alloc (.cells #[.bool s, .int .u64 A, .int .u64 B, .int .i64 b'] 30) |>.below hb (by simp only [zA]; omega))
      have Q1 := lH ((Blk.new (w.alloc (.cells #[.bool s, .int .u64 A, .int .u64 B, .int .i64 b] 30)) 30 #[.bool s, .int .u64 A, .int .u64 B, .int .i64 b']).below hb (by simp only [zA]; omega))
      rw [zA] at Q1
      have L1 := lH ((((Below.refl _ w).alloc (Nat.le_refl _) _).alloc (by simp) _).trans (hb.mono (by simp only [zA]; omega)))
      have s1 : w.heap.size + 1 < w1.heap.size := by have := hb.size; simp only [zA] at this; omega
      clear hb
      obtain ⟨f0, f1, f2, f3⟩ := K1.out.c4
      obtain ⟨g0, g1, g2, g3⟩ := Q1.out.c4
      go_wp2_with fail
      refine cZm (H2.out _) ?_
      rintro e w2 ⟨rfl, hb⟩
      clear f0 f1 f2 f3 g0 g1 g2 g3
      have K2 := lH (K1.out.below hb (by omega))
      have Q2 := lH (Q1.out.below hb s1)
      have L2 := lH (L1.out.trans (hb.mono L1.out.size))
      have s2 : w.heap.size + 1 < w2.heap.size := by have := hb.size; omega
      clear hb
      obtain ⟨f0, f1, f2, f3⟩ := K2.out.c4
      obtain ⟨g0, g1, g2, g3⟩ := Q2.out.c4
      go_wp2_with fail
      refine cZm (HT.out _) ?_
      rintro e w3 ⟨rfl, hb⟩
      clear f0 f1 f2 f3 g0 g1 g2 g3
      have K3 := lH (K2.out.below hb (by omega))
      have Q3 := lH (Q2.out.below hb s2)
      have L3 := lH (L2.out.trans (hb.mono L2.out.size))
      have s3 : w.heap.size + 1 < w3.heap.size := by have := hb.size; omega
      clear hb
      obtain ⟨f0, f1, f2, f3⟩ := K3.out.c4
      obtain ⟨g0, g1, g2, g3⟩ := Q3.out.c4
      go_wp2
      go_ret
      exact ⟨ret_bool (by rw [← ev3.out]; simp [*]), L3.out⟩
    ·have ev3 := lH ev2
     clear ev2
     by_cases c1 : s = s'
     ·subst c1
      by_cases c2 : A = A'
      ·subst c2
       have c3 : ¬ B = B' := fun e => c ⟨rfl, rfl, e⟩
       go_enter Tryz.func27, Tryz.ntmps27
       go_wp2_with fail
       refine cZm (H1.out _) ?_
       rintro e w1 ⟨rfl, hb⟩
       have K1 := lH ((Blk.new w 30 #[.bool s, .int .u64 A, .int .u64 B, .int .i64 b]).alloc (.cells #[.bool s, .int .u64 A, .int .u64 B', .int .i64 b'] 30) |>.below hb (by simp only [zA]; omega))
       have Q1 := lH ((Blk.new (w.alloc (.cells #[.bool s, .int .u64 A, .int .u64 B, .int .i64 b] 30)) 30 #[.bool s, .int .u64 A, .int .u64 B', .int .i64 b']).below hb (by simp only [zA]; omega))
       rw [zA] at Q1
       have L1 := lH ((((Below.refl _ w).alloc (Nat.le_refl _) _).alloc (by simp) _).trans (hb.mono (by simp only [zA]; omega)))
       have s1 : w.heap.size + 1 < w1.heap.size := by have := hb.size; simp only [zA] at this; omega
       clear hb
       obtain ⟨f0, f1, f2, f3⟩ := K1.out.c4
       obtain ⟨g0, g1, g2, g3⟩ := Q1.out.c4
       go_wp2_with fail
       refine cZm (H2.out _) ?_
       rintro e w2 ⟨rfl, hb⟩
       clear f0 f1 f2 f3 g0 g1 g2 g3
       have K2 := lH (K1.out.below hb (by omega))
       have Q2 := lH (Q1.out.below hb s1)
       have L2 := lH (L1.out.trans (hb.mono L1.out.size))
       have s2 : w.heap.size + 1 < w2.heap.size := by have := hb.size; omega
       clear hb
       obtain ⟨f0, f1, f2, f3⟩ := K2.out.c4
       obtain ⟨g0, g1, g2, g3⟩ := Q2.out.c4
       go_wp2_with fail
       refine cZm (HT.out _) ?_
       rintro e w3 ⟨rfl, hb⟩
       clear f0 f1 f2 f3 g0 g1 g2 g3
       have K3 := lH (K2.out.below hb (by omega))
       have Q3 := lH (Q2.out.below hb s2)
       have L3 := lH (L2.out.trans (hb.mono L2.out.size))
       have s3 : w.heap.size + 1 < w3.heap.size := by have := hb.size; omega
       clear hb
       obtain ⟨f0, f1, f2, f3⟩ := K3.out.c4
       obtain ⟨g0, g1, g2, g3⟩ := Q3.out.c4
       go_wp2
       go_ret
       exact ⟨ret_bool (by rw [← ev3.out]; simp [*]), L3.out⟩
      ·skip
       go_enter Tryz.func27, Tryz.ntmps27
       go_wp2_with fail
       refine cZm (H1.out _) ?_
       rintro e w1 ⟨rfl, hb⟩
       have K1 := lH ((Blk.new w 30 #[.bool s, .int .u64 A, .int .u64 B, .int .i64 b]).alloc (.cells #[.bool s, .int .u64 A', .int .u64 B', .int .i64 b'] 30) |>.below hb (by simp only [zA]; omega))
       have Q1 := lH ((Blk.new (w.alloc (.cells #[.bool s, .int .u64 A, .int .u64 B, .int .i64 b] 30)) 30 #[.bool s, .int .u64 A', .int .u64 B', .int .i64 b']).below hb (by simp only [zA]; omega))
       rw [zA] at Q1
       have L1 := lH ((((Below.refl _ w).alloc (Nat.le_refl _) _).alloc (by simp) _).trans (hb.mono (by simp only [zA]; omega)))
       have s1 : w.heap.size + 1 < w1.heap.size := by have := hb.size; simp only [zA] at this; omega
       clear hb
       obtain ⟨f0, f1, f2, f3⟩ := K1.out.c4
       obtain ⟨g0, g1, g2, g3⟩ := Q1.out.c4
       go_wp2_with fail
       refine cZm (H2.out _) ?_
       rintro e w2 ⟨rfl, hb⟩
       clear f0 f1 f2 f3 g0 g1 g2 g3
       have K2 := lH (K1.out.below hb (by omega))
       have Q2 := lH (Q1.out.below hb s1)
       have L2 := lH (L1.out.trans (hb.mono L1.out.size))
       have s2 : w.heap.size + 1 < w2.heap.size := by have := hb.size; omega
       clear hb
       obtain ⟨f0, f1, f2, f3⟩ := K2.out.c4
       obtain ⟨g0, g1, g2, g3⟩ := Q2.out.c4
       go_wp2_with fail
       refine cZm (HT.out _) ?_
       rintro e w3 ⟨rfl, hb⟩
       clear f0 f1 f2 f3 g0 g1 g2 g3
       have K3 := lH (K2.out.below hb (by omega))
       have Q3 := lH (Q2.out.below hb s2)
       have L3 := lH (L2.out.trans (hb.mono L2.out.size))
       have s3 : w.heap.size + 1 < w3.heap.size := by have := hb.size; omega
       clear hb
       obtain ⟨f0, f1, f2, f3⟩ := K3.out.c4
       obtain ⟨g0, g1, g2, g3⟩ := Q3.out.c4
       go_wp2
       go_ret
       exact ⟨ret_bool (by rw [← ev3.out]; simp [*]), L3.out⟩
     ·cases s <;> cases s'
      ·exact absurd rfl c1
      ·skip
       go_enter Tryz.func27, Tryz.ntmps27
       go_wp2_with fail
       refine cZm (H1.out _) ?_
       rintro e w1 ⟨rfl, hb⟩
       have K1 := lH ((Blk.new w 30 #[.bool false, .int .u64 A, .int .u64 B, .int .i64 b]).alloc (.cells #[.bool true, .int .u64 A', .int .u64 B', .int .i64 b'] 30) |>.below hb (by simp only [zA]; omega))
       have Q1 := lH ((Blk.new (w.alloc (.cells #[.bool false, .int .u64 A, .int .u64 B, .int .i64 b] 30)) 30 #[.bool true, .int .u64 A', .int .u64 B', .int .i64 b']).below hb (by simp only [zA]; omega))
       rw [zA] at Q1
       have L1 := lH ((((Below.refl _ w).alloc (Nat.le_refl _) _).alloc (by simp) _).trans (hb.mono (by simp only [zA]; omega)))
       have s1 : w.heap.size + 1 < w1.heap.size := by have := hb.size; simp only [zA] at this; omega
       clear hb
       obtain ⟨f0, f1, f2, f3⟩ := K1.out.c4
       obtain ⟨g0, g1, g2, g3⟩ := Q1.out.c4
       go_wp2_with fail
       refine cZm (H2.out _) ?_
       rintro e w2 ⟨rfl, hb⟩
       clear f0 f1 f2 f3 g0 g1 g2 g3
       have K2 := lH (K1.out.below hb (by omega))
       have Q2 := lH (Q1.out.below hb s1)
       have L2 := lH (L1.out.trans (hb.mono L1.out.size))
       have s2 : w.heap.size + 1 < w2.heap.size := by have := hb.size; omega
       clear hb
       obtain ⟨f0, f1, f2, f3⟩ := K2.out.c4
       obtain ⟨g0, g1, g2, g3⟩ := Q2.out.c4
       go_wp2_with fail
       refine cZm (HT.out _) ?_
       rintro e w3 ⟨rfl, hb⟩
       clear f0 f1 f2 f3 g0 g1 g2 g3
       have K3 := lH (K2.out.below hb (by omega))
       have Q3 := lH (Q2.out.below hb s2)
       have L3 := lH (L2.out.trans (hb.mono L2.out.size))
       have s3 : w.heap.size + 1 < w3.heap.size := by have := hb.size; omega
       clear hb
       obtain ⟨f0, f1, f2, f3⟩ := K3.out.c4
       obtain ⟨g0, g1, g2, g3⟩ := Q3.out.c4
       go_wp2
       go_ret
       exact ⟨ret_bool (by rw [← ev3.out]; simp [*]), L3.out⟩
      ·skip
       go_enter Tryz.func27, Tryz.ntmps27
       go_wp2_with fail
       refine cZm (H1.out _) ?_
       rintro e w1 ⟨rfl, hb⟩
       have K1 := lH ((Blk.new w 30 #[.bool true, .int .u64 A, .int .u64 B, .int .i64 b]).alloc (.cells #[.bool false, .int .u64 A', .int .u64 B', .int .i64 b'] 30) |>.below hb (by simp only [zA]; omega))
       have Q1 := lH ((Blk.new (w.alloc (.cells #[.bool true, .int .u64 A, .int .u64 B, .int .i64 b] 30)) 30 #[.bool false, .int .u64 A', .int .u64 B', .int .i64 b']).below hb (by simp only [zA]; omega))
       rw [zA] at Q1
       have L1 := lH ((((Below.refl _ w).alloc (Nat.le_refl _) _).alloc (by simp) _).trans (hb.mono (by simp only [zA]; omega)))
       have s1 : w.heap.size + 1 < w1.heap.size := by have := hb.size; simp only [zA] at this; omega
       clear hb
       obtain ⟨f0, f1, f2, f3⟩ := K1.out.c4
       obtain ⟨g0, g1, g2, g3⟩ := Q1.out.c4
       go_wp2_with fail
       refine cZm (H2.out _) ?_
       rintro e w2 ⟨rfl, hb⟩
       clear f0 f1 f2 f3 g0 g1 g2 g3
       have K2 := lH (K1.out.below hb (by omega))
       have Q2 := lH (Q1.out.below hb s1)
       have L2 := lH (L1.out.trans (hb.mono L1.out.size))
       have s2 : w.heap.size + 1 < w2.heap.size := by have := hb.size; omega
       clear hb
       obtain ⟨f0, f1, f2, f3⟩ := K2.out.c4
       obtain ⟨g0, g1, g2, g3⟩ := Q2.out.c4
       go_wp2_with fail
       refine cZm (HT.out _) ?_
       rintro e w3 ⟨rfl, hb⟩
       clear f0 f1 f2 f3 g0 g1 g2 g3
       have K3 := lH (K2.out.below hb (by omega))
       have Q3 := lH (Q2.out.below hb s2)
       have L3 := lH (L2.out.trans (hb.mono L2.out.size))
       have s3 : w.heap.size + 1 < w3.heap.size := by have := hb.size; omega
       clear hb
       obtain ⟨f0, f1, f2, f3⟩ := K3.out.c4
       obtain ⟨g0, g1, g2, g3⟩ := Q3.out.c4
       go_wp2
       go_ret
       exact ⟨ret_bool (by rw [← ev3.out]; simp [*]), L3.out⟩
      ·exact absurd rfl c1
   ·simp only [Bool.true_or] at ev
    subst ev
    go_enter Tryz.func27, Tryz.ntmps27
    go_wp2_with fail
    refine cZm (H1.out _) ?_
    rintro e w1 ⟨rfl, hb⟩
    have K1 := lH ((Blk.new w 30 #[.bool s, .int .u64 h, .int .u64 l, .int .i64 b]).alloc (.cells #[.bool s', .int .u64 h', .int .u64 l', .int .i64 b'] 30) |>.below hb (by simp only [zA]; omega))
    have Q1 := lH ((Blk.new (w.alloc (.cells #[.bool s, .int .u64 h, .int .u64 l, .int .i64 b] 30)) 30 #[.bool s', .int .u64 h', .int .u64 l', .int .i64 b']).below hb (by simp only [zA]; omega))
    rw [zA] at Q1
    have L1 := lH ((((Below.refl _ w).alloc (Nat.le_refl _) _).alloc (by simp) _).trans (hb.mono (by simp only [zA]; omega)))
    have s1 : w.heap.size + 1 < w1.heap.size := by have := hb.size; simp only [zA] at this; omega
    clear hb
    obtain ⟨f0, f1, f2, f3⟩ := K1.out.c4
    obtain ⟨g0, g1, g2, g3⟩ := Q1.out.c4
    go_wp2_with fail
    refine cZm (H2.out _) ?_
    rintro e w2 ⟨rfl, hb⟩
    clear f0 f1 f2 f3 g0 g1 g2 g3
    have K2 := lH (K1.out.below hb (by omega))
    have Q2 := lH (Q1.out.below hb s1)
    have L2 := lH (L1.out.trans (hb.mono L1.out.size))
    have s2 : w.heap.size + 1 < w2.heap.size := by have := hb.size; omega
    clear hb
    obtain ⟨f0, f1, f2, f3⟩ := K2.out.c4
    obtain ⟨g0, g1, g2, g3⟩ := Q2.out.c4
    go_wp2_with fail
    refine cZm (HT.out _) ?_
    rintro e w3 ⟨rfl, hb⟩
    clear f0 f1 f2 f3 g0 g1 g2 g3
    have K3 := lH (K2.out.below hb (by omega))
    have Q3 := lH (Q2.out.below hb s2)
    have L3 := lH (L2.out.trans (hb.mono L2.out.size))
    have s3 : w.heap.size + 1 < w3.heap.size := by have := hb.size; omega
    clear hb
    obtain ⟨f0, f1, f2, f3⟩ := K3.out.c4
    obtain ⟨g0, g1, g2, g3⟩ := Q3.out.c4
    go_wp2
    go_ret
    exact ⟨rfl, L3.out⟩
end Go.Proofs.YtgfkmgbcajdcdaaGreatDoor
