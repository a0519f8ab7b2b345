/-
  Several texts in one: RLess, PRLs.
-/
import Derived.Test.YtgfkmgbcajdcdaaGreatDoorCab
import Derived.Test.YtgfkmgbcajdcdaaGreatDoorCbd
import Derived.Test.YtgfkmgbcajdcdaaGreatDoorCaj
namespace Go.Proofs.YtgfkmgbcajdcdaaGreatDoor
open Go.RowKit
set_option linter.unusedVariables false

set_option maxHeartbeats 1000000 in
theorem rless_any (s : Bool) (h l : Int) (s' : Bool) (h' l' : Int) (w : World) :
    Calls Tryz.prog 61 #[adr s h l, adr s' h' l'] w fun e w' => e = .returned (.bool (lss s h l s' h' l')) ∧ Below w.heap.size w w' := by
  obtain ⟨V1, hV1⟩ : ∃ v, vld s h l = v := ⟨_, rfl⟩
  obtain ⟨V2, hV2⟩ : ∃ v, vld s' h' l' = v := ⟨_, rfl⟩
  obtain ⟨R, hR⟩ : ∃ v, lss s h l s' h' l' = v := ⟨_, rfl⟩
  have HR := Lib.hid hR
  rw [hR]
  have H1 := Lib.hid (fun W => rvalid_at s h l W hV1)
  have H2 := Lib.hid (fun W => rvalid_at s' h' l' W hV2)
  have G1 := Lib.hid hV1
  have G2 := Lib.hid hV2
  clear hR hV1 hV2
  cases V1
  · go_enter Tryz.func61, Tryz.ntmps61
    go_wp2_with fail
    refine Calls.mono (H1.out _) ?_
    rintro e w1 ⟨rfl, hb⟩
    go_wp2
    go_ret
    exact ⟨by rw [← HR.out]; simp [lss, G1.out], (((Below.refl _ _).alloc (Nat.le_refl _) _).alloc (by simp) _).trans (hb.mono (by simp; omega))⟩
  · cases V2
    · go_enter Tryz.func61, Tryz.ntmps61
      go_wp2_with fail
      refine Calls.mono (H1.out _) ?_
      rintro e w1 ⟨rfl, hb⟩
      obtain ⟨hc, hf⟩ := bcell hb
      go_wp2_with fail
      refine Calls.mono (H2.out _) ?_
      rintro e w2 ⟨rfl, hb2⟩
      go_wp2
      go_ret
      have B1 := (((Below.refl _ w).alloc (Nat.le_refl _) _).alloc (by simp) _).trans (hb.mono (by simp; omega))
      exact ⟨by rw [← HR.out]; simp [lss, G1.out, G2.out], B1.trans (hb2.mono B1.size)⟩
    · rcases s with _ | _ <;> rcases s' with _ | _
      all_goals first | (by_cases hh : h = h'; subst hh; try (have h9 : ¬ h < h := by omega)) | skip
      all_goals first | (by_cases h8 : h < h') | skip
      all_goals
        go_enter Tryz.func61, Tryz.ntmps61
        go_wp2_with fail
        refine Calls.mono (H1.out _) ?_
        rintro e w1 ⟨rfl, hb⟩
        obtain ⟨hc, hf⟩ := bcell hb
        go_wp2_with fail
        refine Calls.mono (H2.out _) ?_
        rintro e w2 ⟨rfl, hb2⟩
        obtain ⟨c0, c1, c2⟩ := ((((Blk.new w 28 _).alloc _).below hb (by simp only [World.size_alloc]; omega)).below hb2 (by have := hb.size; simp at this; omega)).c3
        obtain ⟨d0, d1, d2⟩ := (((Blk.new (w.alloc _) 28 _).below hb (by simp only [World.size_alloc]; omega)).below hb2 (by have := hb.size; simp at this ⊢; omega)).c3
        rw [World.size_alloc] at d0 d1 d2
        have B1 := Lib.hid ((((Below.refl _ w).alloc (Nat.le_refl _) _).alloc (by simp) _).trans (hb.mono (by simp; omega)))
        have B2 := Lib.hid (B1.out.trans (hb2.mono B1.out.size))
        go_wp2
        go_ret
        exact ⟨ret_bool (by rw [← HR.out]; simp [lss, G1.out, G2.out, *]), B2.out⟩
end Go.Proofs.YtgfkmgbcajdcdaaGreatDoor

namespace Go.Proofs.YtgfkmgbcajdcdaaGreatDoor
open Go.RowKit
set_option linter.unusedVariables false

theorem raddrless_at (s : Bool) (h l : Int) (s' : Bool) (h' l' : Int) (w : World) {v : Bool} (e : lss s h l s' h' l' = v) :
    Calls Tryz.prog 61 #[adr s h l, adr s' h' l'] w fun e w' => e = .returned (.bool v) ∧ Below w.heap.size w w' := by
  subst e; exact rless_any s h l s' h' l' w

set_option maxRecDepth 100000 in
set_option maxHeartbeats 4000000 in
theorem rpless_at (s : Bool) (h l : Nat) (b : Int) (s' : Bool) (h' l' : Nat) (b' : Int) (hh : N64 h) (hl : N64 l) (hh' : N64 h') (hl' : N64 l') {v : Bool} (ev : pls s h l b s' h' l' b' = v) (w : World) :
    Calls Tryz.prog 27 #[pfx s h l b, pfx s' h' l' b'] w fun e w' => e = .returned (.bool v) ∧ Below w.heap.size w w' := by
  unfold pls at ev
  obtain ⟨V1, hV1⟩ : ∃ V, pvl s h l b = V := ⟨_, rfl⟩
  obtain ⟨V2, hV2⟩ : ∃ V, pvl s' h' l' b' = V := ⟨_, rfl⟩
  obtain ⟨T, hT⟩ : ∃ T, lss s h l s' h' l' = T := ⟨_, rfl⟩
  rw [hV1, hV2, hT] at ev
  have H1 := Lib.hid (fun w => rpvalid_at s h l b hh hl hV1 w)
  have H2 := Lib.hid (fun w => rpvalid_at s' h' l' b' hh' hl' hV2 w)
  have HT := Lib.hid (fun w => raddrless_at s h l s' h' l' w hT)
  clear hV1 hV2 hT hh hl hh' hl'
  cases V1
  · simp only [Bool.false_and] at ev
    subst ev
    go_enter Tryz.func27, Tryz.ntmps27
    go_wp2_with fail
    refine Calls.mono (H1.out _) ?_
    rintro e w1 ⟨rfl, hb⟩
    have K1 := Lib.hid ((Blk.new w 30 #[.bool s, .int .u64 h, .int .u64 l, .int .i64 b]).alloc (.cells #[.bool s', .int .u64 h', .int .u64 l', .int .i64 b'] 30) |>.below hb (by simp only [World.size_alloc]; omega))
    have Q1 := Lib.hid ((Blk.new (w.alloc (.cells #[.bool s, .int .u64 h, .int .u64 l, .int .i64 b] 30)) 30 #[.bool s', .int .u64 h', .int .u64 l', .int .i64 b']).below hb (by simp only [World.size_alloc]; omega))
    rw [World.size_alloc] at Q1
    have L1 := Lib.hid ((((Below.refl _ w).alloc (Nat.le_refl _) _).alloc (by simp) _).trans (hb.mono (by simp only [World.size_alloc]; omega)))
    have s1 : w.heap.size + 1 < w1.heap.size := by have := hb.size; simp only [World.size_alloc] at this; omega
    clear hb
    obtain ⟨f0, f1, f2, f3⟩ := K1.out.c4
    obtain ⟨g0, g1, g2, g3⟩ := Q1.out.c4
    go_wp2_with fail
    refine Calls.mono (H2.out _) ?_
    rintro e w2 ⟨rfl, hb⟩
    clear f0 f1 f2 f3 g0 g1 g2 g3
    have K2 := Lib.hid (K1.out.below hb (by omega))
    have Q2 := Lib.hid (Q1.out.below hb s1)
    have L2 := Lib.hid (L1.out.trans (hb.mono L1.out.size))
    have s2 : w.heap.size + 1 < w2.heap.size := by have := hb.size; omega
    clear hb
    obtain ⟨f0, f1, f2, f3⟩ := K2.out.c4
    obtain ⟨g0, g1, g2, g3⟩ := Q2.out.c4
    go_wp2
    go_ret
    exact ⟨rfl, L2.out⟩
  · cases V2
    · simp only [Bool.false_and, Bool.and_false] at ev
      subst ev
      go_enter Tryz.func27, Tryz.ntmps27
      go_wp2_with fail
      refine Calls.mono (H1.out _) ?_
      rintro e w1 ⟨rfl, hb⟩
      have K1 := Lib.hid ((Blk.new w 30 #[.bool s, .int .u64 h, .int .u64 l, .int .i64 b]).alloc (.cells #[.bool s', .int .u64 h', .int .u64 l', .int .i64 b'] 30) |>.below hb (by simp only [World.size_alloc]; omega))
      have Q1 := Lib.hid ((Blk.new (w.alloc (.cells #[.bool s, .int .u64 h, .int .u64 l, .int .i64 b] 30)) 30 #[.bool s', .int .u64 h', .int .u64 l', .int .i64 b']).below hb (by simp only [World.size_alloc]; omega))
      rw [World.size_alloc] at Q1
      have L1 := Lib.hid ((((Below.refl _ w).alloc (Nat.le_refl _) _).alloc (by simp) _).trans (hb.mono (by simp only [World.size_alloc]; omega)))
      have s1 : w.heap.size + 1 < w1.heap.size := by have := hb.size; simp only [World.size_alloc] at this; omega
      clear hb
      obtain ⟨f0, f1, f2, f3⟩ := K1.out.c4
      obtain ⟨g0, g1, g2, g3⟩ := Q1.out.c4
      go_wp2_with fail
      refine Calls.mono (H2.out _) ?_
      rintro e w2 ⟨rfl, hb⟩
      clear f0 f1 f2 f3 g0 g1 g2 g3
      have K2 := Lib.hid (K1.out.below hb (by omega))
      have Q2 := Lib.hid (Q1.out.below hb s1)
      have L2 := Lib.hid (L1.out.trans (hb.mono L1.out.size))
      have s2 : w.heap.size + 1 < w2.heap.size := by have := hb.size; omega
      clear hb
      obtain ⟨f0, f1, f2, f3⟩ := K2.out.c4
      obtain ⟨g0, g1, g2, g3⟩ := Q2.out.c4
      go_wp2
      go_ret
      exact ⟨rfl, L2.out⟩
    · simp only [Bool.true_and] at ev
      cases T
      · simp only [Bool.false_or] at ev
        obtain ⟨A, hA⟩ : ∃ A : Int, (h : Int) = A := ⟨_, rfl⟩
        obtain ⟨B, hB⟩ : ∃ B : Int, (l : Int) = B := ⟨_, rfl⟩
        obtain ⟨A', hA'⟩ : ∃ A : Int, (h' : Int) = A := ⟨_, rfl⟩
        obtain ⟨B', hB'⟩ : ∃ B : Int, (l' : Int) = B := ⟨_, rfl⟩
        have ev2 : decide (s = s' ∧ A = A' ∧ B = B' ∧ b < b') = v := by
          rw [← ev, ← hA, ← hB, ← hA', ← hB', Bool.eq_iff_iff]
          simp only [Bool.and_eq_true, decide_eq_true_eq, and_assoc]
          exact and_congr_right fun _ => and_congr (by omega) (and_congr_left fun _ => by omega)
        rw [hA, hB] at H1 HT ⊢
        rw [hA', hB'] at H2 HT ⊢
        clear ev hA hB hA' hB'
        by_cases c : s = s' ∧ A = A' ∧ B = B'
        · obtain ⟨rfl, rfl, rfl⟩ := c
          have ev3 := Lib.hid ev2
          clear ev2
          by_cases c4 : b < b'
          · skip
            go_enter Tryz.func27, Tryz.ntmps27
            go_wp2_with fail
            refine Calls.mono (H1.out _) ?_
            rintro e w1 ⟨rfl, hb⟩
            have K1 := Lib.hid ((Blk.new w 30 #[.bool s, .int .u64 A, .int .u64 B, .int .i64 b]).alloc (.cells #[.bool s, .int .u64 A, .int .u64 B, .int .i64 b'] 30) |>.below hb (by simp only [World.size_alloc]; omega))
            have Q1 := Lib.hid ((Blk.new (w.alloc (.cells #[.bool s, .int .u64 A, .int .u64 B, .int .i64 b] 30)) 30 #[.bool s, .int .u64 A, .int .u64 B, .int .i64 b']).below hb (by simp only [World.size_alloc]; omega))
            rw [World.size_alloc] at Q1
            have L1 := Lib.hid ((((Below.refl _ w).alloc (Nat.le_refl _) _).alloc (by simp) _).trans (hb.mono (by simp only [World.size_alloc]; omega)))
            have s1 : w.heap.size + 1 < w1.heap.size := by have := hb.size; simp only [World.size_alloc] at this; omega
            clear hb
            obtain ⟨f0, f1, f2, f3⟩ := K1.out.c4
            obtain ⟨g0, g1, g2, g3⟩ := Q1.out.c4
            go_wp2_with fail
            refine Calls.mono (H2.out _) ?_
            rintro e w2 ⟨rfl, hb⟩
            clear f0 f1 f2 f3 g0 g1 g2 g3
            have K2 := Lib.hid (K1.out.below hb (by omega))
            have Q2 := Lib.hid (Q1.out.below hb s1)
            have L2 := Lib.hid (L1.out.trans (hb.mono L1.out.size))
            have s2 : w.heap.size + 1 < w2.heap.size := by have := hb.size; omega
            clear hb
            obtain ⟨f0, f1, f2, f3⟩ := K2.out.c4
            obtain ⟨g0, g1, g2, g3⟩ := Q2.out.c4
            go_wp2_with fail
            refine Calls.mono (HT.out _) ?_
            rintro e w3 ⟨rfl, hb⟩
            clear f0 f1 f2 f3 g0 g1 g2 g3
            have K3 := Lib.hid (K2.out.below hb (by omega))
            have Q3 := Lib.hid (Q2.out.below hb s2)
            have L3 := Lib.hid (L2.out.trans (hb.mono L2.out.size))
            have s3 : w.heap.size + 1 < w3.heap.size := by have := hb.size; omega
            clear hb
            obtain ⟨f0, f1, f2, f3⟩ := K3.out.c4
            obtain ⟨g0, g1, g2, g3⟩ := Q3.out.c4
            go_wp2
            go_ret
            exact ⟨ret_bool (by rw [← ev3.out]; simp [*]), L3.out⟩
          · skip
            go_enter Tryz.func27, Tryz.ntmps27
            go_wp2_with fail
            refine Calls.mono (H1.out _) ?_
            rintro e w1 ⟨rfl, hb⟩
            have K1 := Lib.hid ((Blk.new w 30 #[.bool s, .int .u64 A, .int .u64 B, .int .i64 b]).alloc (.cells #[.bool s, .int .u64 A, .int .u64 B, .int .i64 b'] 30) |>.below hb (by simp only [World.size_alloc]; omega))
            have Q1 := Lib.hid ((Blk.new (w.alloc (.cells #[.bool s, .int .u64 A, .int .u64 B, .int .i64 b] 30)) 30 #[.bool s, .int .u64 A, .int .u64 B, .int .i64 b']).below hb (by simp only [World.size_alloc]; omega))
            rw [World.size_alloc] at Q1
            have L1 := Lib.hid ((((Below.refl _ w).alloc (Nat.le_refl _) _).alloc (by simp) _).trans (hb.mono (by simp only [World.size_alloc]; omega)))
            have s1 : w.heap.size + 1 < w1.heap.size := by have := hb.size; simp only [World.size_alloc] at this; omega
            clear hb
            obtain ⟨f0, f1, f2, f3⟩ := K1.out.c4
            obtain ⟨g0, g1, g2, g3⟩ := Q1.out.c4
            go_wp2_with fail
            refine Calls.mono (H2.out _) ?_
            rintro e w2 ⟨rfl, hb⟩
            clear f0 f1 f2 f3 g0 g1 g2 g3
            have K2 := Lib.hid (K1.out.below hb (by omega))
            have Q2 := Lib.hid (Q1.out.below hb s1)
            have L2 := Lib.hid (L1.out.trans (hb.mono L1.out.size))
            have s2 : w.heap.size + 1 < w2.heap.size := by have := hb.size; omega
            clear hb
            obtain ⟨f0, f1, f2, f3⟩ := K2.out.c4
            obtain ⟨g0, g1, g2, g3⟩ := Q2.out.c4
            go_wp2_with fail
            refine Calls.mono (HT.out _) ?_
            rintro e w3 ⟨rfl, hb⟩
            clear f0 f1 f2 f3 g0 g1 g2 g3
            have K3 := Lib.hid (K2.out.below hb (by omega))
            have Q3 := Lib.hid (Q2.out.below hb s2)
            have L3 := Lib.hid (L2.out.trans (hb.mono L2.out.size))
            have s3 : w.heap.size + 1 < w3.heap.size := by have := hb.size; omega
            clear hb
            obtain ⟨f0, f1, f2, f3⟩ := K3.out.c4
            obtain ⟨g0, g1, g2, g3⟩ := Q3.out.c4
            go_wp2
            go_ret
            exact ⟨ret_bool (by rw [← ev3.out]; simp [*]), L3.out⟩
        · have ev3 := Lib.hid ev2
          clear ev2
          by_cases c1 : s = s'
          · subst c1
            by_cases c2 : A = A'
            · subst c2
              have c3 : ¬ B = B' := fun e => c ⟨rfl, rfl, e⟩
              go_enter Tryz.func27, Tryz.ntmps27
              go_wp2_with fail
              refine Calls.mono (H1.out _) ?_
              rintro e w1 ⟨rfl, hb⟩
              have K1 := Lib.hid ((Blk.new w 30 #[.bool s, .int .u64 A, .int .u64 B, .int .i64 b]).alloc (.cells #[.bool s, .int .u64 A, .int .u64 B', .int .i64 b'] 30) |>.below hb (by simp only [World.size_alloc]; omega))
              have Q1 := Lib.hid ((Blk.new (w.alloc (.cells #[.bool s, .int .u64 A, .int .u64 B, .int .i64 b] 30)) 30 #[.bool s, .int .u64 A, .int .u64 B', .int .i64 b']).below hb (by simp only [World.size_alloc]; omega))
              rw [World.size_alloc] at Q1
              have L1 := Lib.hid ((((Below.refl _ w).alloc (Nat.le_refl _) _).alloc (by simp) _).trans (hb.mono (by simp only [World.size_alloc]; omega)))
              have s1 : w.heap.size + 1 < w1.heap.size := by have := hb.size; simp only [World.size_alloc] at this; omega
              clear hb
              obtain ⟨f0, f1, f2, f3⟩ := K1.out.c4
              obtain ⟨g0, g1, g2, g3⟩ := Q1.out.c4
              go_wp2_with fail
              refine Calls.mono (H2.out _) ?_
              rintro e w2 ⟨rfl, hb⟩
              clear f0 f1 f2 f3 g0 g1 g2 g3
              have K2 := Lib.hid (K1.out.below hb (by omega))
              have Q2 := Lib.hid (Q1.out.below hb s1)
              have L2 := Lib.hid (L1.out.trans (hb.mono L1.out.size))
              have s2 : w.heap.size + 1 < w2.heap.size := by have := hb.size; omega
              clear hb
              obtain ⟨f0, f1, f2, f3⟩ := K2.out.c4
              obtain ⟨g0, g1, g2, g3⟩ := Q2.out.c4
              go_wp2_with fail
              refine Calls.mono (HT.out _) ?_
              rintro e w3 ⟨rfl, hb⟩
              clear f0 f1 f2 f3 g0 g1 g2 g3
              have K3 := Lib.hid (K2.out.below hb (by omega))
              have Q3 := Lib.hid (Q2.out.below hb s2)
              have L3 := Lib.hid (L2.out.trans (hb.mono L2.out.size))
              have s3 : w.heap.size + 1 < w3.heap.size := by have := hb.size; omega
              clear hb
              obtain ⟨f0, f1, f2, f3⟩ := K3.out.c4
              obtain ⟨g0, g1, g2, g3⟩ := Q3.out.c4
              go_wp2
              go_ret
              exact ⟨ret_bool (by rw [← ev3.out]; simp [*]), L3.out⟩
            · skip
              go_enter Tryz.func27, Tryz.ntmps27
              go_wp2_with fail
              refine Calls.mono (H1.out _) ?_
              rintro e w1 ⟨rfl, hb⟩
              have K1 := Lib.hid ((Blk.new w 30 #[.bool s, .int .u64 A, .int .u64 B, .int .i64 b]).alloc (.cells #[.bool s, .int .u64 A', .int .u64 B', .int .i64 b'] 30) |>.below hb (by simp only [World.size_alloc]; omega))
              have Q1 := Lib.hid ((Blk.new (w.alloc (.cells #[.bool s, .int .u64 A, .int .u64 B, .int .i64 b] 30)) 30 #[.bool s, .int .u64 A', .int .u64 B', .int .i64 b']).below hb (by simp only [World.size_alloc]; omega))
              rw [World.size_alloc] at Q1
              have L1 := Lib.hid ((((Below.refl _ w).alloc (Nat.le_refl _) _).alloc (by simp) _).trans (hb.mono (by simp only [World.size_alloc]; omega)))
              have s1 : w.heap.size + 1 < w1.heap.size := by have := hb.size; simp only [World.size_alloc] at this; omega
              clear hb
              obtain ⟨f0, f1, f2, f3⟩ := K1.out.c4
              obtain ⟨g0, g1, g2, g3⟩ := Q1.out.c4
              go_wp2_with fail
              refine Calls.mono (H2.out _) ?_
              rintro e w2 ⟨rfl, hb⟩
              clear f0 f1 f2 f3 g0 g1 g2 g3
              have K2 := Lib.hid (K1.out.below hb (by omega))
              have Q2 := Lib.hid (Q1.out.below hb s1)
              have L2 := Lib.hid (L1.out.trans (hb.mono L1.out.size))
              have s2 : w.heap.size + 1 < w2.heap.size := by have := hb.size; omega
              clear hb
              obtain ⟨f0, f1, f2, f3⟩ := K2.out.c4
              obtain ⟨g0, g1, g2, g3⟩ := Q2.out.c4
              go_wp2_with fail
              refine Calls.mono (HT.out _) ?_
              rintro e w3 ⟨rfl, hb⟩
              clear f0 f1 f2 f3 g0 g1 g2 g3
              have K3 := Lib.hid (K2.out.below hb (by omega))
              have Q3 := Lib.hid (Q2.out.below hb s2)
              have L3 := Lib.hid (L2.out.trans (hb.mono L2.out.size))
              have s3 : w.heap.size + 1 < w3.heap.size := by have := hb.size; omega
              clear hb
              obtain ⟨f0, f1, f2, f3⟩ := K3.out.c4
              obtain ⟨g0, g1, g2, g3⟩ := Q3.out.c4
              go_wp2
              go_ret
              exact ⟨ret_bool (by rw [← ev3.out]; simp [*]), L3.out⟩
          · cases s <;> cases s'
            · exact absurd rfl c1
            · skip
              go_enter Tryz.func27, Tryz.ntmps27
              go_wp2_with fail
              refine Calls.mono (H1.out _) ?_
              rintro e w1 ⟨rfl, hb⟩
              have K1 := Lib.hid ((Blk.new w 30 #[.bool false, .int .u64 A, .int .u64 B, .int .i64 b]).alloc (.cells #[.bool true, .int .u64 A', .int .u64 B', .int .i64 b'] 30) |>.below hb (by simp only [World.size_alloc]; omega))
              have Q1 := Lib.hid ((Blk.new (w.alloc (.cells #[.bool false, .int .u64 A, .int .u64 B, .int .i64 b] 30)) 30 #[.bool true, .int .u64 A', .int .u64 B', .int .i64 b']).below hb (by simp only [World.size_alloc]; omega))
              rw [World.size_alloc] at Q1
              have L1 := Lib.hid ((((Below.refl _ w).alloc (Nat.le_refl _) _).alloc (by simp) _).trans (hb.mono (by simp only [World.size_alloc]; omega)))
              have s1 : w.heap.size + 1 < w1.heap.size := by have := hb.size; simp only [World.size_alloc] at this; omega
              clear hb
              obtain ⟨f0, f1, f2, f3⟩ := K1.out.c4
              obtain ⟨g0, g1, g2, g3⟩ := Q1.out.c4
              go_wp2_with fail
              refine Calls.mono (H2.out _) ?_
              rintro e w2 ⟨rfl, hb⟩
              clear f0 f1 f2 f3 g0 g1 g2 g3
              have K2 := Lib.hid (K1.out.below hb (by omega))
              have Q2 := Lib.hid (Q1.out.below hb s1)
              have L2 := Lib.hid (L1.out.trans (hb.mono L1.out.size))
              have s2 : w.heap.size + 1 < w2.heap.size := by have := hb.size; omega
              clear hb
              obtain ⟨f0, f1, f2, f3⟩ := K2.out.c4
              obtain ⟨g0, g1, g2, g3⟩ := Q2.out.c4
              go_wp2_with fail
              refine Calls.mono (HT.out _) ?_
              rintro e w3 ⟨rfl, hb⟩
              clear f0 f1 f2 f3 g0 g1 g2 g3
              have K3 := Lib.hid (K2.out.below hb (by omega))
              have Q3 := Lib.hid (Q2.out.below hb s2)
              have L3 := Lib.hid (L2.out.trans (hb.mono L2.out.size))
              have s3 : w.heap.size + 1 < w3.heap.size := by have := hb.size; omega
              clear hb
              obtain ⟨f0, f1, f2, f3⟩ := K3.out.c4
              obtain ⟨g0, g1, g2, g3⟩ := Q3.out.c4
              go_wp2
              go_ret
              exact ⟨ret_bool (by rw [← ev3.out]; simp [*]), L3.out⟩
            · skip
              go_enter Tryz.func27, Tryz.ntmps27
              go_wp2_with fail
              refine Calls.mono (H1.out _) ?_
              rintro e w1 ⟨rfl, hb⟩
              have K1 := Lib.hid ((Blk.new w 30 #[.bool true, .int .u64 A, .int .u64 B, .int .i64 b]).alloc (.cells #[.bool false, .int .u64 A', .int .u64 B', .int .i64 b'] 30) |>.below hb (by simp only [World.size_alloc]; omega))
              have Q1 := Lib.hid ((Blk.new (w.alloc (.cells #[.bool true, .int .u64 A, .int .u64 B, .int .i64 b] 30)) 30 #[.bool false, .int .u64 A', .int .u64 B', .int .i64 b']).below hb (by simp only [World.size_alloc]; omega))
              rw [World.size_alloc] at Q1
              have L1 := Lib.hid ((((Below.refl _ w).alloc (Nat.le_refl _) _).alloc (by simp) _).trans (hb.mono (by simp only [World.size_alloc]; omega)))
              have s1 : w.heap.size + 1 < w1.heap.size := by have := hb.size; simp only [World.size_alloc] at this; omega
              clear hb
              obtain ⟨f0, f1, f2, f3⟩ := K1.out.c4
              obtain ⟨g0, g1, g2, g3⟩ := Q1.out.c4
              go_wp2_with fail
              refine Calls.mono (H2.out _) ?_
              rintro e w2 ⟨rfl, hb⟩
              clear f0 f1 f2 f3 g0 g1 g2 g3
              have K2 := Lib.hid (K1.out.below hb (by omega))
              have Q2 := Lib.hid (Q1.out.below hb s1)
              have L2 := Lib.hid (L1.out.trans (hb.mono L1.out.size))
              have s2 : w.heap.size + 1 < w2.heap.size := by have := hb.size; omega
              clear hb
              obtain ⟨f0, f1, f2, f3⟩ := K2.out.c4
              obtain ⟨g0, g1, g2, g3⟩ := Q2.out.c4
              go_wp2_with fail
              refine Calls.mono (HT.out _) ?_
              rintro e w3 ⟨rfl, hb⟩
              clear f0 f1 f2 f3 g0 g1 g2 g3
              have K3 := Lib.hid (K2.out.below hb (by omega))
              have Q3 := Lib.hid (Q2.out.below hb s2)
              have L3 := Lib.hid (L2.out.trans (hb.mono L2.out.size))
              have s3 : w.heap.size + 1 < w3.heap.size := by have := hb.size; omega
              clear hb
              obtain ⟨f0, f1, f2, f3⟩ := K3.out.c4
              obtain ⟨g0, g1, g2, g3⟩ := Q3.out.c4
              go_wp2
              go_ret
              exact ⟨ret_bool (by rw [← ev3.out]; simp [*]), L3.out⟩
            · exact absurd rfl c1
      · simp only [Bool.true_or] at ev
        subst ev
        go_enter Tryz.func27, Tryz.ntmps27
        go_wp2_with fail
        refine Calls.mono (H1.out _) ?_
        rintro e w1 ⟨rfl, hb⟩
        have K1 := Lib.hid ((Blk.new w 30 #[.bool s, .int .u64 h, .int .u64 l, .int .i64 b]).alloc (.cells #[.bool s', .int .u64 h', .int .u64 l', .int .i64 b'] 30) |>.below hb (by simp only [World.size_alloc]; omega))
        have Q1 := Lib.hid ((Blk.new (w.alloc (.cells #[.bool s, .int .u64 h, .int .u64 l, .int .i64 b] 30)) 30 #[.bool s', .int .u64 h', .int .u64 l', .int .i64 b']).below hb (by simp only [World.size_alloc]; omega))
        rw [World.size_alloc] at Q1
        have L1 := Lib.hid ((((Below.refl _ w).alloc (Nat.le_refl _) _).alloc (by simp) _).trans (hb.mono (by simp only [World.size_alloc]; omega)))
        have s1 : w.heap.size + 1 < w1.heap.size := by have := hb.size; simp only [World.size_alloc] at this; omega
        clear hb
        obtain ⟨f0, f1, f2, f3⟩ := K1.out.c4
        obtain ⟨g0, g1, g2, g3⟩ := Q1.out.c4
        go_wp2_with fail
        refine Calls.mono (H2.out _) ?_
        rintro e w2 ⟨rfl, hb⟩
        clear f0 f1 f2 f3 g0 g1 g2 g3
        have K2 := Lib.hid (K1.out.below hb (by omega))
        have Q2 := Lib.hid (Q1.out.below hb s1)
        have L2 := Lib.hid (L1.out.trans (hb.mono L1.out.size))
        have s2 : w.heap.size + 1 < w2.heap.size := by have := hb.size; omega
        clear hb
        obtain ⟨f0, f1, f2, f3⟩ := K2.out.c4
        obtain ⟨g0, g1, g2, g3⟩ := Q2.out.c4
        go_wp2_with fail
        refine Calls.mono (HT.out _) ?_
        rintro e w3 ⟨rfl, hb⟩
        clear f0 f1 f2 f3 g0 g1 g2 g3
        have K3 := Lib.hid (K2.out.below hb (by omega))
        have Q3 := Lib.hid (Q2.out.below hb s2)
        have L3 := Lib.hid (L2.out.trans (hb.mono L2.out.size))
        have s3 : w.heap.size + 1 < w3.heap.size := by have := hb.size; omega
        clear hb
        obtain ⟨f0, f1, f2, f3⟩ := K3.out.c4
        obtain ⟨g0, g1, g2, g3⟩ := Q3.out.c4
        go_wp2
        go_ret
        exact ⟨rfl, L3.out⟩
end Go.Proofs.YtgfkmgbcajdcdaaGreatDoor
