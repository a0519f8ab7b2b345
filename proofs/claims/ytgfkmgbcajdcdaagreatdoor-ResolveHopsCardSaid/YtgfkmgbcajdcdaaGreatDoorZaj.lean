/-
  Several texts in one: PLs, RpG, RpH.
-/
import Derived.Test.YtgfkmgbcajdcdaaGreatDoorZai
import Derived.Test.YtgfkmgbcajdcdaaGreatDoorZah
import Derived.Test.YtgfkmgbcajdcdaaGreatDoorZad
import Derived.BigQuiet
import Derived.Test.YtgfkmgbcajdcdaaGreatDoorZaa
set_option linter.unusedVariables false
set_option maxRecDepth 100000
set_option maxHeartbeats 16000000
namespace Go.Proofs.YtgfkmgbcajdcdaaGreatDoor
open Go.RowKit

theorem addrless_at (s : Bool) (h l : Int) (s' : Bool) (h' l' : Int) (w : World) {v : Bool} (e : lss s h l s' h' l' = v) :
  Calls Tryz.prog 116 #[adr s h l, adr s' h' l'] w fun e w' => e = .returned (.bool v) ∧ Below w.heap.size w w' := by
 subst e; exact less_any s h l s' h' l' w

theorem pless_at (s : Bool) (h l : Nat) (b : Int) (s' : Bool) (h' l' : Nat) (b' : Int) (hh : N64 h) (hl : N64 l) (hh' : N64 h') (hl' : N64 l') {v : Bool} (ev : pls s h l b s' h' l' b' = v) (w : World) :
  Calls Tryz.prog 74 #[pfx s h l b, pfx s' h' l' b'] w fun e w' => e = .returned (.bool v) ∧ Below w.heap.size w w' := by
 unfold pls at ev
 obtain ⟨V1, hV1⟩ : ∃ V, pvl s h l b = V := ⟨_, rfl⟩
 obtain ⟨V2, hV2⟩ : ∃ V, pvl s' h' l' b' = V := ⟨_, rfl⟩
 obtain ⟨T, hT⟩ : ∃ T, lss s h l s' h' l' = T := ⟨_, rfl⟩
 rw [hV1, hV2, hT] at ev
 have H1 := lH (fun w => pvalid_at s h l b hh hl hV1 w)
 have H2 := lH (fun w => pvalid_at s' h' l' b' hh' hl' hV2 w)
 have HT := lH (fun w => addrless_at s h l s' h' l' w hT)
 clear hV1 hV2 hT hh hl hh' hl'
 cases V1
 ·simp only [Bool.false_and] at ev
  subst ev
  go_enter Tryz.func74, Tryz.ntmps74
  go_wp2_with fail
  refine cZm (H1.out _) ?_
  rintro e w1 ⟨rfl, hb⟩
  have K1 := lH ((Blk.new w 30 #[.bool s, .int .u64 h, .int .u64 l, .int .i64 b]).alloc (.cells #[.bool s', .int .u64 h', .int .u64 l', .int .i64 b'] 30) |>.below hb (by simp only [zA]; omega))
  have Q1 := lH ((Blk.new (w.alloc (.cells #[.bool s, .int .u64 h, .int .u64 l, .int .i64 b] 30)) 30 #[.bool s', .int .u64 h', .int .u64 l', .int .i64 b']).below hb (by simp only [zA]; omega))
  rw [zA] at Q1
  have L1 := lH ((((Below.refl _ w).alloc (Nat.le_refl _) _).alloc (by simp) _).trans (hb.mono (by simp only [zA]; omega)))
  have s1 : w.heap.size + 1 < w1.heap.size := by have := hb.size; simp only [zA] at this; omega
  clear hb
  obtain ⟨f0, f1, f2, f3⟩ := K1.out.c4
  obtain ⟨g0, g1, g2, g3⟩ := Q1.out.c4
  go_wp2
  go_ret
  exact ⟨rfl, L1.out⟩
 ·cases V2
  ·simp only [Bool.false_and, Bool.and_false] at ev
   subst ev
   go_enter Tryz.func74, Tryz.ntmps74
   go_wp2_with fail
   refine cZm (H1.out _) ?_
   rintro e w1 ⟨rfl, hb⟩
   have K1 := lH ((Blk.new w 30 #[.bool s, .int .u64 h, .int .u64 l, .int .i64 b]).alloc (.cells #[.bool s', .int .u64 h', .int .u64 l', .int .i64 b'] 30) |>.below hb (by simp only [zA]; omega))
   have Q1 := lH ((Blk.new (w.alloc (.cells #[.bool s, .int .u64 h, .int .u64 l, .int .i64 b] 30)) 30 #[.bool s', .int .u64 h', .int .u64 l', .int .i64 b']).below hb (by simp only [zA]; omega))
   rw [zA] at Q1
   have L1 := lH ((((Below.refl _ w).alloc (Nat.le_refl _) _).alloc (by simp) _).trans (hb.mono (by simp only [zA]; omega)))
   have s1 : w.heap.size + 1 < w1.heap.size := by have := hb.size; simp only [zA] at this; omega
   clear hb
   obtain ⟨f0, f1, f2, f3⟩ := K1.out.c4
   obtain ⟨g0, g1, g2, g3⟩ := Q1.out.c4
   go_wp2_with fail
   refine cZm (H2.out _) ?_
   rintro e w2 ⟨rfl, hb⟩
   clear f0 f1 f2 f3 g0 g1 g2 g3
   have K2 := lH (K1.out.below hb (by omega))
   have Q2 := lH (Q1.out.below hb s1)
   have L2 := lH (L1.out.trans (hb.mono L1.out.size))
   have s2 : w.heap.size + 1 < w2.heap.size := by have := hb.size; omega
   clear hb
   obtain ⟨f0, f1, f2, f3⟩ := K2.out.c4
   obtain ⟨g0, g1, g2, g3⟩ := Q2.out.c4
   go_wp2
   go_ret
   exact ⟨rfl, L2.out⟩
  ·simp only [Bool.true_and] at ev
   cases T
   ·simp only [Bool.false_or] at ev
    obtain ⟨A, hA⟩ : ∃ A : Int, (h : Int) = A := ⟨_, rfl⟩
    obtain ⟨B, hB⟩ : ∃ B : Int, (l : Int) = B := ⟨_, rfl⟩
    obtain ⟨A', hA'⟩ : ∃ A : Int, (h' : Int) = A := ⟨_, rfl⟩
    obtain ⟨B', hB'⟩ : ∃ B : Int, (l' : Int) = B := ⟨_, rfl⟩
    have ev2 : decide (s = s' ∧ A = A' ∧ B = B' ∧ b < b') = v := by
     rw [← ev, ← hA, ← hB, ← hA', ← hB', Bool.eq_iff_iff]
     simp only [Bool.and_eq_true, decide_eq_true_eq, and_assoc]
     exact and_congr_right fun _ => and_congr (by omega) (and_congr_left fun _ => by omega)
    rw [hA, hB] at H1 HT ⊢
    rw [hA', hB'] at H2 HT ⊢
    clear ev hA hB hA' hB'
    by_cases c : s = s' ∧ A = A' ∧ B = B'
    ·obtain ⟨rfl, rfl, rfl⟩ := c
     have ev3 := lH ev2
     clear ev2
     by_cases c4 : b < b'
     ·skip
      go_enter Tryz.func74, Tryz.ntmps74
      go_wp2_with fail
      refine cZm (H1.out _) ?_
      rintro e w1 ⟨rfl, hb⟩
      have K1 := lH ((Blk.new w 30 #[.bool s, .int .u64 A, .int .u64 B, .int .i64 b]).alloc (.cells #[.bool s, .int .u64 A, .int .u64 B, .int .i64 b'] 30) |>.below hb (by simp only [zA]; omega))
      have Q1 := lH ((Blk.new (w.alloc (.cells #[.bool s, .int .u64 A, .int .u64 B, .int .i64 b] 30)) 30 #[.bool s, .int .u64 A, .int .u64 B, .int .i64 b']).below hb (by simp only [zA]; omega))
      rw [zA] at Q1
      have L1 := lH ((((Below.refl _ w).alloc (Nat.le_refl _) _).alloc (by simp) _).trans (hb.mono (by simp only [zA]; omega)))
      have s1 : w.heap.size + 1 < w1.heap.size := by have := hb.size; simp only [zA] at this; omega
      clear hb
      obtain ⟨f0, f1, f2, f3⟩ := K1.out.c4
      obtain ⟨g0, g1, g2, g3⟩ := Q1.out.c4
      go_wp2_with fail
      refine cZm (H2.out _) ?_
      rintro e w2 ⟨rfl, hb⟩
      clear f0 f1 f2 f3 g0 g1 g2 g3
      have K2 := lH (K1.out.below hb (by omega))
      have Q2 := lH (Q1.out.below hb s1)
      have L2 := lH (L1.out.trans (hb.mono L1.out.size))
      have s2 : w.heap.size + 1 < w2.heap.size := by have := hb.size; omega
      clear hb
      obtain ⟨f0, f1, f2, f3⟩ := K2.out.c4
      obtain ⟨g0, g1, g2, g3⟩ := Q2.out.c4
      go_wp2_with fail
      refine cZm (HT.out _) ?_
      rintro e w3 ⟨rfl, hb⟩
      clear f0 f1 f2 f3 g0 g1 g2 g3
      have K3 := lH (K2.out.below hb (by omega))
      have Q3 := lH (Q2.out.below hb s2)
      have L3 := lH (L2.out.trans (hb.mono L2.out.size))
      have s3 : w.heap.size + 1 < w3.heap.size := by have := hb.size; omega
      clear hb
      obtain ⟨f0, f1, f2, f3⟩ := K3.out.c4
      obtain ⟨g0, g1, g2, g3⟩ := Q3.out.c4
      go_wp2
      go_ret
      exact ⟨ret_bool (by rw [← ev3.out]; simp [*]), L3.out⟩
     ·skip
      go_enter Tryz.func74, Tryz.ntmps74
      go_wp2_with fail
      refine cZm (H1.out _) ?_
      rintro e w1 ⟨rfl, hb⟩
      have K1 := lH ((Blk.new w 30 #[.bool s, .int .u64 A, .int .u64 B, .int .i64 b]).alloc (.cells #[.bool s, .int .u64 A, .int .u64 B, .int .i64 b'] 30) |>.below hb (by simp only [zA]; omega))
      have Q1 := lH ((Blk.new (w.alloc (.cells #[.bool s, .int .u64 A, .int .u64 B, .int .i64 b] 30)) 30 #[.bool s, .int .u64 A, .int .u64 B, .int .i64 b']).below hb (by simp only [zA]; omega))
      rw [zA] at Q1
      have L1 := lH ((((Below.refl _ w).alloc (Nat.le_refl _) _).alloc (by simp) _).trans (hb.mono (by simp only [zA]; omega)))
      have s1 : w.heap.size + 1 < w1.heap.size := by have := hb.size; simp only [zA] at this; omega
      clear hb
      obtain ⟨f0, f1, f2, f3⟩ := K1.out.c4
      obtain ⟨g0, g1, g2, g3⟩ := Q1.out.c4
      go_wp2_with fail
      refine cZm (H2.out _) ?_
      rintro e w2 ⟨rfl, hb⟩
      clear f0 f1 f2 f3 g0 g1 g2 g3
      have K2 := lH (K1.out.below hb (by omega))
      have Q2 := lH (Q1.out.below hb s1)
      have L2 := lH (L1.out.trans (hb.mono L1.out.size))
      have s2 : w.heap.size + 1 < w2.heap.size := by have := hb.size; omega
      clear hb
      obtain ⟨f0, f1, f2, f3⟩ := K2.out.c4
      obtain ⟨g0, g1, g2, g3⟩ := Q2.out.c4
      go_wp2_with fail
      refine cZm (HT.out _) ?_
      rintro e w3 ⟨rfl, hb⟩
      clear f0 f1 f2 f3 g0 g1 g2 g3
      have K3 := lH (K2.out.below hb (by omega))
      have Q3 := lH (Q2.out.below hb s2)
      have L3 := lH (L2.out.trans (hb.mono L2.out.size))
      have s3 : w.heap.size + 1 < w3.heap.size := by have := hb.size; omega
      clear hb
      obtain ⟨f0, f1, f2, f3⟩ := K3.out.c4
      obtain ⟨g0, g1, g2, g3⟩ := Q3.out.c4
      go_wp2
      go_ret
      exact ⟨ret_bool (by rw [← ev3.out]; simp [*]), L3.out⟩
    ·have ev3 := lH ev2
     clear ev2
     by_cases c1 : s = s'
     ·subst c1
      by_cases c2 : A = A'
      ·subst c2
       have c3 : ¬ B = B' := fun e => c ⟨rfl, rfl, e⟩
       go_enter Tryz.func74, Tryz.ntmps74
       go_wp2_with fail
       refine cZm (H1.out _) ?_
       rintro e w1 ⟨rfl, hb⟩
       have K1 := lH ((Blk.new w 30 #[.bool s, .int .u64 A, .int .u64 B, .int .i64 b]).alloc (.cells #[.bool s, .int .u64 A, .int .u64 B', .int .i64 b'] 30) |>.below hb (by simp only [zA]; omega))
       have Q1 := lH ((Blk.new (w.alloc (.cells #[.bool s, .int .u64 A, .int .u64 B, .int .i64 b] 30)) 30 #[.bool s, .int .u64 A, .int .u64 B', .int .i64 b']).below hb (by simp only [zA]; omega))
       rw [zA] at Q1
       have L1 := lH ((((Below.refl _ w).alloc (Nat.le_refl _) _).alloc (by simp) _).trans (hb.mono (by simp only [zA]; omega)))
       have s1 : w.heap.size + 1 < w1.heap.size := by have := hb.size; simp only [zA] at this; omega
       clear hb
       obtain ⟨f0, f1, f2, f3⟩ := K1.out.c4
       obtain ⟨g0, g1, g2, g3⟩ := Q1.out.c4
       go_wp2_with fail
       refine cZm (H2.out _) ?_
       rintro e w2 ⟨rfl, hb⟩
       clear f0 f1 f2 f3 g0 g1 g2 g3
       have K2 := lH (K1.out.below hb (by omega))
       have Q2 := lH (Q1.out.below hb s1)
       have L2 := lH (L1.out.trans (hb.mono L1.out.size))
       have s2 : w.heap.size + 1 < w2.heap.size := by have := hb.size; omega
       clear hb
       obtain ⟨f0, f1, f2, f3⟩ := K2.out.c4
       obtain ⟨g0, g1, g2, g3⟩ := Q2.out.c4
       go_wp2_with fail
       refine cZm (HT.out _) ?_
       rintro e w3 ⟨rfl, hb⟩
       clear f0 f1 f2 f3 g0 g1 g2 g3
       have K3 := lH (K2.out.below hb (by omega))
       have Q3 := lH (Q2.out.below hb s2)
       have L3 := lH (L2.out.trans (hb.mono L2.out.size))
       have s3 : w.heap.size + 1 < w3.heap.size := by have := hb.size; omega
       clear hb
       obtain ⟨f0, f1, f2, f3⟩ := K3.out.c4
       obtain ⟨g0, g1, g2, g3⟩ := Q3.out.c4
       go_wp2
       go_ret
       exact ⟨ret_bool (by rw [← ev3.out]; simp [*]), L3.out⟩
      ·skip
       go_enter Tryz.func74, Tryz.ntmps74
       go_wp2_with fail
       refine cZm (H1.out _) ?_
       rintro e w1 ⟨rfl, hb⟩
       have K1 := lH ((Blk.new w 30 #[.bool s, .int .u64 A, .int .u64 B, .int .i64 b]).alloc (.cells #[.bool s, .int .u64 A', .int .u64 B', .int .i64 b'] 30) |>.below hb (by simp only [zA]; omega))
       have Q1 := lH ((Blk.new (w.alloc (.cells #[.bool s, .int .u64 A, .int .u64 B, .int .i64 b] 30)) 30 #[.bool s, .int .u64 A', .int .u64 B', .int .i64 b']).below hb (by simp only [zA]; omega))
       rw [zA] at Q1
       have L1 := lH ((((Below.refl _ w).alloc (Nat.le_refl _) _).alloc (by simp) _).trans (hb.mono (by simp only [zA]; omega)))
       have s1 : w.heap.size + 1 < w1.heap.size := by have := hb.size; simp only [zA] at this; omega
       clear hb
       obtain ⟨f0, f1, f2, f3⟩ := K1.out.c4
       obtain ⟨g0, g1, g2, g3⟩ := Q1.out.c4
       go_wp2_with fail
       refine cZm (H2.out _) ?_
       rintro e w2 ⟨rfl, hb⟩
       clear f0 f1 f2 f3 g0 g1 g2 g3
       have K2 := lH (K1.out.below hb (by omega))
       have Q2 := lH (Q1.out.below hb s1)
       have L2 := lH (L1.out.trans (hb.mono L1.out.size))
       have s2 : w.heap.size + 1 < w2.heap.size := by have := hb.size; omega
       clear hb
       obtain ⟨f0, f1, f2, f3⟩ := K2.out.c4
       obtain ⟨g0, g1, g2, g3⟩ := Q2.out.c4
       go_wp2_with fail
       refine cZm (HT.out _) ?_
       rintro e w3 ⟨rfl, hb⟩
       clear f0 f1 f2 f3 g0 g1 g2 g3
       have K3 := lH (K2.out.below hb (by omega))
       have Q3 := lH (Q2.out.below hb s2)
       have L3 := lH (L2.out.trans (hb.mono L2.out.size))
       have s3 : w.heap.size + 1 < w3.heap.size := by have := hb.size; omega
       clear hb
       obtain ⟨f0, f1, f2, f3⟩ := K3.out.c4
       obtain ⟨g0, g1, g2, g3⟩ := Q3.out.c4
       go_wp2
       go_ret
       exact ⟨ret_bool (by rw [← ev3.out]; simp [*]), L3.out⟩
     ·cases s <;> cases s'
      ·exact absurd rfl c1
      ·skip
       go_enter Tryz.func74, Tryz.ntmps74
       go_wp2_with fail
       refine cZm (H1.out _) ?_
       rintro e w1 ⟨rfl, hb⟩
       have K1 := lH ((Blk.new w 30 #[.bool false, .int .u64 A, .int .u64 B, .int .i64 b]).alloc (.cells #[.bool true, .int .u64 A', .int .u64 B', .int .i64 b'] 30) |>.below hb (by simp only [zA]; omega))
       have Q1 := lH ((Blk.new (w.alloc (.cells #[.bool false, .int .u64 A, .int .u64 B, .int .i64 b] 30)) 30 #[.bool true, .int .u64 A', .int .u64 B', .int .i64 b']).below hb (by simp only [zA]; omega))
       rw [zA] at Q1
       have L1 := lH ((((Below.refl _ w).alloc (Nat.le_refl _) _).alloc (by simp) _).trans (hb.mono (by simp only [zA]; omega)))
       have s1 : w.heap.size + 1 < w1.heap.size := by have := hb.size; simp only [zA] at this; omega
       clear hb
       obtain ⟨f0, f1, f2, f3⟩ := K1.out.c4
       obtain ⟨g0, g1, g2, g3⟩ := Q1.out.c4
       go_wp2_with fail
       refine cZm (H2.out _) ?_
       rintro e w2 ⟨rfl, hb⟩
       clear f0 f1 f2 f3 g0 g1 g2 g3
       have K2 := lH (K1.out.below hb (by omega))
       have Q2 := lH (Q1.out.below hb s1)
       have L2 := lH (L1.out.trans (hb.mono L1.out.size))
       have s2 : w.heap.size + 1 < w2.heap.size := by have := hb.size; omega
       clear hb
       obtain ⟨f0, f1, f2, f3⟩ := K2.out.c4
       obtain ⟨g0, g1, g2, g3⟩ := Q2.out.c4
       go_wp2_with fail
       refine cZm (HT.out _) ?_
       rintro e w3 ⟨rfl, hb⟩
       clear f0 f1 f2 f3 g0 g1 g2 g3
       have K3 := lH (K2.out.below hb (by omega))
       have Q3 := lH (Q2.out.below hb s2)
       have L3 := lH (L2.out.trans (hb.mono L2.out.size))
       have s3 : w.heap.size + 1 < w3.heap.size := by have := hb.size; omega
       clear hb
       obtain ⟨f0, f1, f2, f3⟩ := K3.out.c4
       obtain ⟨g0, g1, g2, g3⟩ := Q3.out.c4
       go_wp2
       go_ret
       exact ⟨ret_bool (by rw [← ev3.out]; simp [*]), L3.out⟩
      ·skip
       go_enter Tryz.func74, Tryz.ntmps74
       go_wp2_with fail
       refine cZm (H1.out _) ?_
       rintro e w1 ⟨rfl, hb⟩
       have K1 := lH ((Blk.new w 30 #[.bool true, .int .u64 A, .int .u64 B, .int .i64 b]).alloc (.cells #[.bool false, .int .u64 A', .int .u64 B', .int .i64 b'] 30) |>.below hb (by simp only [zA]; omega))
       have Q1 := lH ((Blk.new (w.alloc (.cells #[.bool true, .int .u64 A, .int .u64 B, .int .i64 b] 30)) 30 #[.bool false, .int .u64 A', .int .u64 B', .int .i64 b']).below hb (by simp only [zA]; omega))
       rw [zA] at Q1
       have L1 := lH ((((Below.refl _ w).alloc (Nat.le_refl _) _).alloc (by simp) _).trans (hb.mono (by simp only [zA]; omega)))
       have s1 : w.heap.size + 1 < w1.heap.size := by have := hb.size; simp only [zA] at this; omega
       clear hb
       obtain ⟨f0, f1, f2, f3⟩ := K1.out.c4
       obtain ⟨g0, g1, g2, g3⟩ := Q1.out.c4
       go_wp2_with fail
       refine cZm (H2.out _) ?_
       rintro e w2 ⟨rfl, hb⟩
       clear f0 f1 f2 f3 g0 g1 g2 g3
       have K2 := lH (K1.out.below hb (by omega))
       have Q2 := lH (Q1.out.below hb s1)
       have L2 := lH (L1.out.trans (hb.mono L1.out.size))
       have s2 : w.heap.size + 1 < w2.heap.size := by have := hb.size; omega
       clear hb
       obtain ⟨f0, f1, f2, f3⟩ := K2.out.c4
       obtain ⟨g0, g1, g2, g3⟩ := Q2.out.c4
       go_wp2_with fail
       refine cZm (HT.out _) ?_
       rintro e w3 ⟨rfl, hb⟩
       clear f0 f1 f2 f3 g0 g1 g2 g3
       have K3 := lH (K2.out.below hb (by omega))
       have Q3 := lH (Q2.out.below hb s2)
       have L3 := lH (L2.out.trans (hb.mono L2.out.size))
       have s3 : w.heap.size + 1 < w3.heap.size := by have := hb.size; omega
       clear hb
       obtain ⟨f0, f1, f2, f3⟩ := K3.out.c4
       obtain ⟨g0, g1, g2, g3⟩ := Q3.out.c4
       go_wp2
       go_ret
       exact ⟨ret_bool (by rw [← ev3.out]; simp [*]), L3.out⟩
      ·exact absurd rfl c1
   ·simp only [Bool.true_or] at ev
    subst ev
    go_enter Tryz.func74, Tryz.ntmps74
    go_wp2_with fail
    refine cZm (H1.out _) ?_
    rintro e w1 ⟨rfl, hb⟩
    have K1 := lH ((Blk.new w 30 #[.bool s, .int .u64 h, .int .u64 l, .int .i64 b]).alloc (.cells #[.bool s', .int .u64 h', .int .u64 l', .int .i64 b'] 30) |>.below hb (by simp only [zA]; omega))
    have Q1 := lH ((Blk.new (w.alloc (.cells #[.bool s, .int .u64 h, .int .u64 l, .int .i64 b] 30)) 30 #[.bool s', .int .u64 h', .int .u64 l', .int .i64 b']).below hb (by simp only [zA]; omega))
    rw [zA] at Q1
    have L1 := lH ((((Below.refl _ w).alloc (Nat.le_refl _) _).alloc (by simp) _).trans (hb.mono (by simp only [zA]; omega)))
    have s1 : w.heap.size + 1 < w1.heap.size := by have := hb.size; simp only [zA] at this; omega
    clear hb
    obtain ⟨f0, f1, f2, f3⟩ := K1.out.c4
    obtain ⟨g0, g1, g2, g3⟩ := Q1.out.c4
    go_wp2_with fail
    refine cZm (H2.out _) ?_
    rintro e w2 ⟨rfl, hb⟩
    clear f0 f1 f2 f3 g0 g1 g2 g3
    have K2 := lH (K1.out.below hb (by omega))
    have Q2 := lH (Q1.out.below hb s1)
    have L2 := lH (L1.out.trans (hb.mono L1.out.size))
    have s2 : w.heap.size + 1 < w2.heap.size := by have := hb.size; omega
    clear hb
    obtain ⟨f0, f1, f2, f3⟩ := K2.out.c4
    obtain ⟨g0, g1, g2, g3⟩ := Q2.out.c4
    go_wp2_with fail
    refine cZm (HT.out _) ?_
    rintro e w3 ⟨rfl, hb⟩
    clear f0 f1 f2 f3 g0 g1 g2 g3
    have K3 := lH (K2.out.below hb (by omega))
    have Q3 := lH (Q2.out.below hb s2)
    have L3 := lH (L2.out.trans (hb.mono L2.out.size))
    have s3 : w.heap.size + 1 < w3.heap.size := by have := hb.size; omega
    clear hb
    obtain ⟨f0, f1, f2, f3⟩ := K3.out.c4
    obtain ⟨g0, g1, g2, g3⟩ := Q3.out.c4
    go_wp2
    go_ret
    exact ⟨rfl, L3.out⟩
end Go.Proofs.YtgfkmgbcajdcdaaGreatDoor

namespace Go.Proofs.YtgfkmgbcajdcdaaGreatDoor
open Go.RowKit

theorem nb_any (p : PfI) (x : PaI) (ha : N64 x.2.2.1.2.1 ∧ N64 x.2.2.1.2.2) (w : World) : Calls Tryz.prog 121 #[pfR p, paR x] w fun e w' => e = .returned (.bool (nbI p x.2.2.1 x.2.2.2.1)) ∧ Tch w w' [] := by
  obtain ⟨R, hR⟩ : ∃ R, nbI p x.2.2.1 x.2.2.2.1 = R := ⟨_, rfl⟩
  rw [hR]
  unfold nbI at hR
  obtain ⟨c, hc⟩ : ∃ c, clsR x.2.2.1 = c := ⟨_, rfl⟩
  rw [hc] at hR
  obtain ⟨⟨ps, ph, pl⟩, pb⟩ := p
  obtain ⟨pr, me, ⟨s, ah, al⟩, po, aw⟩ := x
  have ha : N64 ah ∧ N64 al := ha
  have hc' : clsV s (ah : Int) (al : Int) = c := hc
  have HC := lH (fun W => class_at s (ah : Int) (al : Int) (by unfold U6; have := ha.1; unfold N64 at this; omega) (by unfold U6; have := ha.2; unfold N64 at this; omega) hc' W)
  have hR : (decide (s = ps) && (decide (c = 5) || (decide (c = 2) && !decide (po = 0)))) = R := hR
  obtain ⟨W2, hW2⟩ : ∃ W2, (w.alloc (.cells #[.bool ps, .int .u64 (ph : Int), .int .u64 (pl : Int), .int .i64 pb] 30)).alloc (.cells #[.int .i64 pr, .int .i64 me, .bool s, .int .u64 (ah : Int), .int .u64 (al : Int), .int .i64 po, .bool aw] 49) = W2 := ⟨_, rfl⟩
  obtain ⟨xb, hxb⟩ : ∃ xb, w.heap.size = xb := ⟨_, rfl⟩
  obtain ⟨yb, hyb⟩ : ∃ yb, xb + 1 = yb := ⟨_, rfl⟩
  have hX : Blk W2 xb 30 #[.bool ps, .int .u64 (ph : Int), .int .u64 (pl : Int), .int .i64 pb] := hW2 ▸ hxb ▸ (Blk.new w _ _).alloc _
  have hY : Blk W2 yb 49 #[.int .i64 pr, .int .i64 me, .bool s, .int .u64 (ah : Int), .int .u64 (al : Int), .int .i64 po, .bool aw] := by
    have := Blk.new (w.alloc (.cells #[.bool ps, .int .u64 (ph : Int), .int .u64 (pl : Int), .int .i64 pb] 30)) 49 #[.int .i64 pr, .int .i64 me, .bool s, .int .u64 (ah : Int), .int .u64 (al : Int), .int .i64 po, .bool aw]
    rw [zA, hxb, hyb, hW2] at this
    exact this
  have HX := lH hX
  have HY := lH hY
  have HT2 : Hid (Tch w W2 []) := lH (hW2 ▸ ((Tch.refl w []).alloc _).alloc _)
  have HW2 := lH (And.intro hW2 (And.intro hxb hyb))
  have HR := lH hR
  have hcs : (s = ps ∧ c = 5) ∨ (s = ps ∧ c = 2) ∨ (s = ps ∧ ¬ c = 5 ∧ ¬ c = 2) ∨ ¬ s = ps := by
    by_cases e : s = ps
    · by_cases e5 : c = 5
      · exact .inl ⟨e, e5⟩
      · by_cases e2 : c = 2
        · exact .inr (.inl ⟨e, e2⟩)
        · exact .inr (.inr (.inl ⟨e, e5, e2⟩))
    · exact .inr (.inr (.inr e))
  obtain ⟨x0, x1, x2, x3⟩ := hX.c4
  obtain ⟨y0, y1, y2, y3, y4, y5, y6⟩ := hY.p7
  clear hc hc' ha hX hY hR
  by_cases hs : s = ps
  · subst hs
    have be : (s != s) = false := by simp
    have HY' := HY.out
    go_enter Tryz.func121, Tryz.ntmps121
    go_wp2_with fail
    refine cZm (HC.out _) ?_
    rintro e w1 ⟨rfl, hb1⟩
    have hT1 := Tch.of_below [] hb1
    have z5 := ((hT1.blk HY.out (by simp)).cell 5).trans (show _ = some (Value.int .i64 po) by rfl)
    have HT1 := lH (HT2.out.trans hT1)
    clear hb1 hT1 x0 x1 x2 x3 y0 y1 y2 y3 y4 y5 y6 HY'
    rcases hcs with ⟨-, rfl⟩ | ⟨-, rfl⟩ | ⟨-, h5, h2⟩ | hs
    · have HE : Hid (R = true) := lH (by rw [← HR.out]; simp)
      go_wp2
      go_ret
      exact ⟨by rw [HE.out]; rfl, HT1.out⟩
    · have HE : Hid (R = (po != 0)) := lH (by rw [← HR.out]; by_cases e : po = 0 <;> simp [e])
      go_wp2
      go_ret
      exact ⟨by rw [HE.out]; rfl, HT1.out⟩
    · have b5 : (c == 5) = false := by simpa using h5
      have b2 : (c == 2) = false := by simpa using h2
      have HE : Hid (R = false) := lH (by rw [← HR.out, decide_eq_false h5, decide_eq_false h2]; simp)
      clear h5 h2
      go_wp2
      go_ret
      exact ⟨by rw [HE.out]; rfl, HT1.out⟩
    · exact (hs trivial).elim
  · have HE : Hid (R = false) := lH (by rw [← HR.out, decide_eq_false hs]; rfl)
    clear hcs
    cases s <;> cases ps
    all_goals first
      | exact absurd rfl hs
      | (clear hs
         go_enter Tryz.func121, Tryz.ntmps121
         go_wp2
         go_ret
         exact ⟨by rw [HE.out]; rfl, HT2.out⟩)
theorem valid_p (p : PfI) (x : PaI) (hp : N64 p.1.2.1 ∧ N64 p.1.2.2) (hx : N64 x.2.2.1.2.1 ∧ N64 x.2.2.1.2.2) (w : World) : Calls Tryz.prog 80 #[pfR p, paR x] w fun e w' => e = .returned (.bool (rightI p x)) ∧ Tch w w' [] := by
 obtain ⟨V, hV⟩ : ∃ V, pvI p = V := ⟨_, rfl⟩
 have HV := lH (fun W => pvalid_at p.1.1 p.1.2.1 p.1.2.2 p.2 hp.1 hp.2 hV W)
 have HNb := lH (fun W => nb_any p x hx W)
 obtain ⟨Z, hZ⟩ : ∃ Z, decide (x.2.2.1 = zeroA) = Z := ⟨_, rfl⟩
 have HQ := eqA_eql 28 _ _ (eq_adR x.2.2.1 zeroA hZ)
 have HBad := lH (right_bad (p := p) (x := x))
 have HAw := lH (right_away (p := p) (x := x))
 have HNn := lH (right_nb (p := p) (x := x))
 have HPo := lH (right_po (p := p) (x := x))
 rw [hV] at HBad HAw HNn HPo
 rw [hZ] at HAw HPo
 obtain ⟨R, hR⟩ : ∃ R, rightI p x = R := ⟨_, rfl⟩
 rw [hR] at HBad HAw HNn HPo ⊢
 obtain ⟨⟨ps, ph, pl⟩, pb⟩ := p
 obtain ⟨pr, me, ⟨s, ah, al⟩, po, aw⟩ := x
 have HQ : ∀ W, (binOp .eql 28 (.agg #[.bool s, .int .u64 (ah : Int), .int .u64 (al : Int)]) (.agg #[.bool false, .int .u64 0, .int .u64 0])).run Tryz.prog W = .ok (.bool Z) W := HQ
 obtain ⟨W2, hW2⟩ : ∃ W2, (w.alloc (.cells #[.bool ps, .int .u64 (ph : Int), .int .u64 (pl : Int), .int .i64 pb] 30)).alloc (.cells #[.int .i64 pr, .int .i64 me, .bool s, .int .u64 (ah : Int), .int .u64 (al : Int), .int .i64 po, .bool aw] 49) = W2 := ⟨_, rfl⟩
 obtain ⟨xb, hxb⟩ : ∃ xb, w.heap.size = xb := ⟨_, rfl⟩
 obtain ⟨yb, hyb⟩ : ∃ yb, xb + 1 = yb := ⟨_, rfl⟩
 have hX : Blk W2 xb 30 #[.bool ps, .int .u64 (ph : Int), .int .u64 (pl : Int), .int .i64 pb] := hW2 ▸ hxb ▸ (Blk.new w _ _).alloc _
 have hY : Blk W2 yb 49 #[.int .i64 pr, .int .i64 me, .bool s, .int .u64 (ah : Int), .int .u64 (al : Int), .int .i64 po, .bool aw] := by
  have := Blk.new (w.alloc (.cells #[.bool ps, .int .u64 (ph : Int), .int .u64 (pl : Int), .int .i64 pb] 30)) 49 #[.int .i64 pr, .int .i64 me, .bool s, .int .u64 (ah : Int), .int .u64 (al : Int), .int .i64 po, .bool aw]
  rw [zA, hxb, hyb, hW2] at this
  exact this
 have HX := lH hX
 have HY := lH hY
 have HT2 : Hid (Tch w W2 []) := lH (hW2 ▸ ((Tch.refl w []).alloc _).alloc _)
 obtain ⟨x0, x1, x2, x3⟩ := hX.c4
 clear hp hx hV hZ hR hX hY
 go_enter Tryz.func80, Tryz.ntmps80
 go_wp2_with fail
 refine cZm (HV.out _) ?_
 rintro e w1 ⟨rfl, hb1⟩
 have hT1 := Tch.of_below [] hb1
 have hX1 := hT1.blk HX.out (by simp)
 have hY1 := hT1.blk HY.out (by simp)
 have HT1 := lH (HT2.out.trans hT1)
 obtain ⟨y0, y1, y2, y3, y4, y5, y6⟩ := hY1.p7
 clear x0 x1 x2 x3 hW2 hxb hyb
 obtain ⟨x0, x1, x2, x3⟩ := hX1.c4
 clear hb1 hT1 hX1 hY1
 cases V with
 | false =>
  have HE : Hid (R = false) := lH (HBad.out (.inl rfl))
  go_wp2
  go_ret
  exact ⟨by rw [HE.out]; rfl, HT1.out⟩
 | true =>
  by_cases h1 : 0 ≤ pr ∧ pr < 5
  case neg =>
   have HE : Hid (R = false) := lH (HBad.out (by
    by_cases h : pr < 0
    ·exact .inr (.inl h)
    ·exact .inr (.inr (.inl (by omega)))))
   have HPr := lH (isProto_at pr (b := false) (by by_cases h0 : 0 ≤ pr <;> by_cases h5 : pr < 5 <;> simp [h0, h5]; exact h1 ⟨h0, h5⟩) w1)
   clear h1
   go_wp2_with (go_at_call 120; refine cZm HPr.out ?_; rintro e w' ⟨rfl, rfl⟩)
   go_ret
   exact ⟨by rw [HE.out]; rfl, HT1.out⟩
  have HPr := lH (isProto_at pr (b := true) (by simp [h1.1, h1.2]) w1)
  by_cases h3 : me < 0
  ·have HE : Hid (R = false) := lH (HBad.out (.inr (.inr (.inr (.inl h3)))))
   go_wp2_with (go_at_call 120; refine cZm HPr.out ?_; rintro e w' ⟨rfl, rfl⟩)
   go_ret
   exact ⟨by rw [HE.out]; rfl, HT1.out⟩
  by_cases h4 : 65535 < me
  ·have HE : Hid (R = false) := lH (HBad.out (.inr (.inr (.inr (.inr h4)))))
   go_wp2_with (go_at_call 120; refine cZm HPr.out ?_; rintro e w' ⟨rfl, rfl⟩)
   go_ret
   exact ⟨by rw [HE.out]; rfl, HT1.out⟩
  have hok : ¬ (true = false ∨ pr < 0 ∨ 4 < pr ∨ me < 0 ∨ 65535 < me) := by
   rintro (h | h | h | h | h)
   ·cases h
   all_goals omega
  cases aw with
  | true =>
   have HE := lH (HAw.out hok rfl)
   by_cases h5 : po = 0
   ·have b5 : (po == 0) = true := by simpa using h5
    have HE2 : Hid (R = Z) := lH (by rw [HE.out]; show (decide (po = 0) && Z) = Z; rw [decide_eq_true h5]; rfl)
    clear hok h5
    go_wp2_with (go_at_call 120; refine cZm HPr.out ?_; rintro e w' ⟨rfl, rfl⟩)
    go_ret
    exact ⟨by rw [HE2.out]; rfl, HT1.out⟩
   ·have b5 : (po == 0) = false := by simpa using h5
    have HE2 : Hid (R = false) := lH (by rw [HE.out]; show (decide (po = 0) && Z) = false; rw [decide_eq_false h5]; rfl)
    clear hok h5
    go_wp2_with (go_at_call 120; refine cZm HPr.out ?_; rintro e w' ⟨rfl, rfl⟩)
    go_ret
    exact ⟨by rw [HE2.out]; rfl, HT1.out⟩
  | false =>
   by_cases h5 : po = 0
   ·have b5 : (po == 0) = true := by simpa using h5
    have HE : Hid (R = _) := lH (HNn.out hok rfl h5)
    have HNc := lH (HNb.out w1)
    subst h5
    clear hok HNb
    go_wp2_with (first | (go_at_call 120; refine cZm HPr.out ?_; rintro e w' ⟨rfl, rfl⟩) | (go_at_call 121; refine cZm HNc.out ?_; rintro e w5 ⟨rfl, hT5⟩; have HT5 := lH hT5; clear hT5))
    go_ret
    exact ⟨by rw [HE.out]; rfl, HT1.out.trans HT5.out⟩
   ·have b5 : (po == 0) = false := by simpa using h5
    have HE := lH (HPo.out hok rfl h5)
    have HE1 : Hid (R = (decide (1 ≤ po) && (decide (po ≤ 8) && (Z || nbI ((ps, ph, pl), pb) (s, ah, al) po)))) := HE
    have HNc := lH (HNb.out w1)
    clear hok HE HNb
    by_cases h6 : 0 < po
    ·by_cases h7 : po ≤ 8
     ·cases Z with
      | true =>
       have HE2 : Hid (R = true) := lH (by rw [HE1.out, decide_eq_true (show 1 ≤ po by omega), decide_eq_true h7]; rfl)
       clear h5
       go_wp2_with (go_at_call 120; refine cZm HPr.out ?_; rintro e w' ⟨rfl, rfl⟩)
       go_ret
       exact ⟨by rw [HE2.out]; rfl, HT1.out⟩
      | false =>
       have HE2 : Hid (R = nbI ((ps, ph, pl), pb) (s, ah, al) po) := lH (by rw [HE1.out, decide_eq_true (show 1 ≤ po by omega), decide_eq_true h7]; rfl)
       clear h5
       go_wp2_with (first | (go_at_call 120; refine cZm HPr.out ?_; rintro e w' ⟨rfl, rfl⟩) | (go_at_call 121; refine cZm HNc.out ?_; rintro e w5 ⟨rfl, hT5⟩; have HT5 := lH hT5; clear hT5))
       go_ret
       exact ⟨by rw [HE2.out]; rfl, HT1.out.trans HT5.out⟩
     ·have HE2 : Hid (R = false) := lH (by rw [HE1.out, decide_eq_false h7]; simp)
      clear h5
      go_wp2_with (go_at_call 120; refine cZm HPr.out ?_; rintro e w' ⟨rfl, rfl⟩)
      go_ret
      exact ⟨by rw [HE2.out]; rfl, HT1.out⟩
    ·have HE2 : Hid (R = false) := lH (by rw [HE1.out, decide_eq_false (show ¬ 1 ≤ po by omega)]; rfl)
     clear h5
     go_wp2_with (go_at_call 120; refine cZm HPr.out ?_; rintro e w' ⟨rfl, rfl⟩)
     go_ret
     exact ⟨by rw [HE2.out]; rfl, HT1.out⟩
end Go.Proofs.YtgfkmgbcajdcdaaGreatDoor

namespace Go.Proofs.YtgfkmgbcajdcdaaGreatDoor
open Go.RowKit

theorem keep_any (t m : Nat) (M : List (PfI × Value)) (p : PfI) (A : Option Addr) (n c : Nat) (w : World) (hb : Blk w t 123 #[.map (some m)]) (hM : MpIs (fun p => pfR p) w m M) :
  Calls Tryz.prog 166 #[.pointer (some ⟨t, 0, none⟩), pfR p, .slice A n c] w fun e w' => e = .returned (.tuple #[]) ∧ MpIs (fun p => pfR p) w' m (if n = 0 then mpDel M p else mpPut M p (.slice A n c)) ∧ Tch w w' [m] := by
 obtain ⟨⟨ps, ph, pl⟩, pb⟩ := p
 obtain ⟨W0, hW0⟩ : ∃ W, w.alloc (.cells #[.bool ps, .int .u64 (ph : Int), .int .u64 (pl : Int), .int .i64 pb] 30) = W := ⟨_, rfl⟩
 obtain ⟨xb, hxb⟩ : ∃ xb, w.heap.size = xb := ⟨_, rfl⟩
 have hX : Blk W0 xb 30 #[.bool ps, .int .u64 (ph : Int), .int .u64 (pl : Int), .int .i64 pb] := hW0 ▸ hxb ▸ Blk.new w _ _
 have hT0 : Tch w W0 [] := hW0 ▸ (Tch.refl w []).alloc _
 have ht := ((hT0.blk hb (by simp)).cell 0).trans (show _ = some (Value.map (some m)) by rfl)
 have HM : Hid (MpIs (fun p : PfI => pfR p) W0.drew m M) := lH (hM.tch hT0.drew (by simp))
 have HT0 : Hid (Tch w W0.drew []) := lH hT0.drew
 have HCells : Hid (∀ W, Tch W0.drew W [m] → W.cell? ⟨t, 0, none⟩ = some (Value.map (some m)) ∧ W.cell? ⟨xb, 0, none⟩ = some (Value.bool ps) ∧ W.cell? ⟨xb, 1, none⟩ = some (Value.int .u64 (ph : Int)) ∧ W.cell? ⟨xb, 2, none⟩ = some (Value.int .u64 (pl : Int)) ∧ W.cell? ⟨xb, 3, none⟩ = some (Value.int .i64 pb)) := lH (fun W hT => by
  have htm : t ≠ m := fun e => by
   obtain ⟨es, clock, h1, -⟩ := hM
   unfold Blk at hb
   rw [e, h1] at hb
   cases hb
  have hlt := hM.lt
  refine ⟨((hT.blk (hT0.blk hb (by simp)).drew (by simpa using htm)).cell 0).trans rfl, ?_⟩
  exact (hT.blk hX.drew (by simp; omega)).c4)
 obtain ⟨x0, x1, x2, x3⟩ := hX.c4
 clear hX hT0 hb hM
 cases n with
 | zero =>
  rw [if_pos rfl]
  go_enter Tryz.func166, Tryz.ntmps166
  go_wp2
  go_region_law (refine step_mdel rfl keyPf (.tmp 12) (.tmp 13) 121 118 rfl Tryz.underlying121 (by simp [Act.eval]) ((ps, ph, pl), pb) (by simp [Act.eval]) HM.out ?_; intro w2 hM2 hT2 hs2; have HH := lH (And.intro hM2 hT2); clear hM2 hT2 hs2)
  all_goals
   go_wp2
   refine bodyPost_ret (results_none rfl _ _ _) rfl ?_
   exact ⟨rfl, HH.out.1, (HT0.out.mono (by simp)).trans HH.out.2⟩
 | succ k =>
  rw [if_neg (Nat.succ_ne_zero k)]
  have k0 : (((k : Int) + 1) == 0) = false := by simp; omega
  go_enter Tryz.func166, Tryz.ntmps166
  go_wp2
  refine wp_region_held_drew (S := (fun W => W.cell? ⟨t, 0, none⟩ = some (Value.map (some m)) ∧ W.cell? ⟨xb, 0, none⟩ = some (Value.bool ps) ∧ W.cell? ⟨xb, 1, none⟩ = some (Value.int .u64 (ph : Int)) ∧ W.cell? ⟨xb, 2, none⟩ = some (Value.int .u64 (pl : Int)) ∧ W.cell? ⟨xb, 3, none⟩ = some (Value.int .i64 pb))) (by kernel_rfl) ?_ (fun hHeld => ?_)
  ·(first | exact HCells.out _ (Tch.refl _ _) | exact HCells.out _ HH.out.2)
  refine tkH 0 ?_
  refine tkH 1 ?_
  refine tkH 2 ?_
  refine tkH 3 ?_
  refine tkH 4 ?_
  refine tkH 5 ?_
  refine wpAnyH_ready (rs := [6]) (by kernel_rfl) (by simp) ?_
  refine AllReadyH.cons (o := { dst := none, op := Go.Op.mapUpdate 121 (Go.Operand.tmp 17) (Go.Operand.tmp 18) (Go.Operand.tmp 19), type := 0, pos := "rib.go:77", after := #[{ on := 3, ground := Go.Ground.data }, { on := 4, ground := Go.Ground.data }, { on := 5, ground := Go.Ground.data }, { on := 0, ground := Go.Ground.phase }, { on := 1, ground := Go.Ground.phase }, { on := 2, ground := Go.Ground.phase }, { on := 3, ground := Go.Ground.phase }, { on := 4, ground := Go.Ground.phase }, { on := 5, ground := Go.Ground.phase }], guard := none }) rfl (fun K hK => ?_) AllReadyH.nil
  rw [if_pos (by rfl)]
  refine wpo_mset keyPf (.tmp 17) (.tmp 18) (.tmp 19) 121 118 rfl Tryz.underlying121 rfl ((ps, ph, pl), pb) rfl (.slice A (k + 1) c) rfl HM.out (fun w2 hM2 hT2 hs2 => ?_)
  have HH := lH (And.intro hM2 hT2)
  clear hM2 hT2 hs2
  refine hK.out _ _ ?_ (fun hHeld => ?_)
  ·(first | exact HCells.out _ (Tch.refl _ _) | exact HCells.out _ HH.out.2)
  clear hK K
  try simp only [Act.put]
  refine wpAnyH_done (by kernel_rfl) ?_ _
  go_wp2
  go_end0
  exact ⟨rfl, HH.out.1, (HT0.out.mono (by simp)).trans HH.out.2⟩
theorem newP (w : World) : Calls Tryz.prog 36 #[] w fun e w' => ∃ t S, e = .returned (.pointer (some ⟨t, 0, none⟩)) ∧ RbP w' t S [] ∧ Below w.heap.size w w' ∧ ∀ s ∈ S, w.heap.size ≤ s := by
 have HF : Hid (RbP ((w.alloc (.map #[] 0)).alloc (.cells #[.map (some w.heap.size)] 123)) (w.heap.size + 1) [w.heap.size + 1, w.heap.size] []) := lH (by
  have hb := Blk.new (w.alloc (.map #[] 0)) 123 #[.map (some w.heap.size)]
  rw [zA] at hb
  refine ⟨w.heap.size, [], rfl, by simp, hb, ⟨#[], 0, ?_, rfl, by simp, by simp, by simp⟩, by simp, fun p hp => by simp [pathsI] at hp, InvB.nil, by simp⟩
  exact (MapKept.heap_alloc _ _).2 _ (by simp) |>.trans (MapKept.heap_alloc w _).1)
 have HB : Hid (Below w.heap.size w ((w.alloc (.map #[] 0)).alloc (.cells #[.map (some w.heap.size)] 123))) := lH (((Below.refl _ w).alloc (Nat.le_refl _) _).alloc (by simp) _)
 have hmm := @run_makeMap Tryz.prog
 go_enter Tryz.func36, Tryz.ntmps36
 go_wp2
 go_ret
 exact ⟨_, _, rfl, HF.out, HB.out, by simp⟩
end Go.Proofs.YtgfkmgbcajdcdaaGreatDoor
