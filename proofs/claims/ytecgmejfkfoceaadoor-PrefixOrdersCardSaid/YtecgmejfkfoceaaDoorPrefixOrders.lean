/-
  D4: ranges of first bits stand in one order, the document's; whoever covers another one is not behind it: for every three ranges.
-/
import Derived.Test.YtecgmejfkfoceaaDoorPAwk
import Derived.Test.YtecgmejfkfoceaaDoorPFrame
import Derived.Test.YtecgmejfkfoceaaDoorPRLs
namespace Go.Proofs.YtecgmejfkfoceaaDoor.Orders
open Go.ChangeShapes Go.WideShapes Go.ChangeAt Go.RowKit
set_option linter.unusedVariables false

theorem pless_in (s : Bool) (h l : Nat) (b : Int) (s' : Bool) (h' l' : Nat) (b' : Int) (hh : N64 h) (hl : N64 l) (hh' : N64 h') (hl' : N64 l') {A B A' B' : Int} (e1 : (h : Int) = A) (e2 : (l : Int) = B) (e3 : (h' : Int) = A') (e4 : (l' : Int) = B') {v : Bool} (ev : pls s h l b s' h' l' b' = v) (w : World) :
    Calls Tryd.prog 29 #[pfx s A B b, pfx s' A' B' b'] w fun e w' => e = .returned (.bool v) ∧ Below w.heap.size w w' := by
  subst e1 e2 e3 e4; exact pless_at s h l b s' h' l' b' hh hl hh' hl' ev w
theorem rpless_in (s : Bool) (h l : Nat) (b : Int) (s' : Bool) (h' l' : Nat) (b' : Int) (hh : N64 h) (hl : N64 l) (hh' : N64 h') (hl' : N64 l') {A B A' B' : Int} (e1 : (h : Int) = A) (e2 : (l : Int) = B) (e3 : (h' : Int) = A') (e4 : (l' : Int) = B') {v : Bool} (ev : pls s h l b s' h' l' b' = v) (w : World) :
    Calls Tryd.prog 30 #[pfx s A B b, pfx s' A' B' b'] w fun e w' => e = .returned (.bool v) ∧ Below w.heap.size w w' := by
  subst e1 e2 e3 e4; exact rpless_at s h l b s' h' l' b' hh hl hh' hl' ev w
theorem covers_in (s : Bool) (h l : Nat) (b : Int) (s' : Bool) (h' l' : Nat) (b' : Int) (hh : N64 h') (hl : N64 l') {A B A' B' : Int} (e1 : (h : Int) = A) (e2 : (l : Int) = B) (e3 : (h' : Int) = A') (e4 : (l' : Int) = B') {v : Bool} (ev : cov s h l b s' h' l' b' = v) (w : World) :
    Calls Tryd.prog 21 #[pfx s A B b, pfx s' A' B' b'] w fun e w' => e = .returned (.bool v) ∧ Below w.heap.size w w' := by
  subst e1 e2 e3 e4; exact covers_at s h l b s' h' l' b' hh hl ev w
theorem pvalid_in (s : Bool) (h l : Nat) (b : Int) (hh : N64 h) (hl : N64 l) {A B : Int} (e1 : (h : Int) = A) (e2 : (l : Int) = B) {v : Bool} (ev : pvl s h l b = v) (w : World) :
    Calls Tryd.prog 17 #[pfx s A B b] w fun e w' => e = .returned (.bool v) ∧ Below w.heap.size w w' := by
  subst e1 e2; exact pvalid_at s h l b hh hl ev w

set_option maxRecDepth 100000 in
set_option maxHeartbeats 8000000 in
theorem walk (w : World) (hE : Env w) (a0_0 : Bool) (a0_1 : Int) (w0_1 : (Lit.int .u64 a0_1).wf = true) (a0_2 : Int) (w0_2 : (Lit.int .u64 a0_2).wf = true) (a0_3 : Int) (w0_3 : (Lit.int .i64 a0_3).wf = true) (a1_0 : Bool) (a1_1 : Int) (w1_1 : (Lit.int .u64 a1_1).wf = true) (a1_2 : Int) (w1_2 : (Lit.int .u64 a1_2).wf = true) (a1_3 : Int) (w1_3 : (Lit.int .i64 a1_3).wf = true) (a2_0 : Bool) (a2_1 : Int) (w2_1 : (Lit.int .u64 a2_1).wf = true) (a2_2 : Int) (w2_2 : (Lit.int .u64 a2_2).wf = true) (a2_3 : Int) (w2_3 : (Lit.int .i64 a2_3).wf = true) :
    Calls Tryd.prog 8 #[.agg #[.bool a0_0, .int .u64 a0_1, .int .u64 a0_2, .int .i64 a0_3], .agg #[.bool a1_0, .int .u64 a1_1, .int .u64 a1_2, .int .i64 a1_3], .agg #[.bool a2_0, .int .u64 a2_1, .int .u64 a2_2, .int .i64 a2_3]] w fun e w' => e = .returned (.bool true) ∧ Below w.heap.size w w' := by
  obtain ⟨h, rfl, hh⟩ := n64_of w0_1
  obtain ⟨l, rfl, hl⟩ := n64_of w0_2
  obtain ⟨h', rfl, hh'⟩ := n64_of w1_1
  obtain ⟨l', rfl, hl'⟩ := n64_of w1_2
  obtain ⟨m, rfl, hm⟩ := n64_of w2_1
  obtain ⟨n, rfl, hn⟩ := n64_of w2_2
  have hE := Lib.hid hE
  obtain ⟨x, hx⟩ : ∃ x, pls a0_0 h l a0_3 a1_0 h' l' a1_3 = x := ⟨_, rfl⟩
  obtain ⟨y, hy⟩ : ∃ y, pls a1_0 h' l' a1_3 a0_0 h l a0_3 = y := ⟨_, rfl⟩
  obtain ⟨q, hq⟩ : ∃ q, pls a1_0 h' l' a1_3 a2_0 m n a2_3 = q := ⟨_, rfl⟩
  obtain ⟨t, ht⟩ : ∃ t, pls a0_0 h l a0_3 a2_0 m n a2_3 = t := ⟨_, rfl⟩
  obtain ⟨V1, hV1⟩ : ∃ V, pvl a0_0 h l a0_3 = V := ⟨_, rfl⟩
  obtain ⟨V2, hV2⟩ : ∃ V, pvl a1_0 h' l' a1_3 = V := ⟨_, rfl⟩
  obtain ⟨c, hc⟩ : ∃ c, cov a0_0 h l a0_3 a1_0 h' l' a1_3 = c := ⟨_, rfl⟩
  have C : Hid ((x && y) = false ∧ (x && q && !t) = false ∧ (c && y) = false) := Lib.hid (by
    refine ⟨?_, ?_, ?_⟩
    · cases x <;> cases y <;> first | rfl | skip
      rw [pls_asym hh hl hh' hl' hx] at hy; cases hy
    · cases x <;> cases q <;> cases t <;> first | rfl | skip
      rw [pls_trans hh hl hh' hl' hm hn hx hq] at ht; cases ht
    · cases c <;> cases y <;> first | rfl | skip
      rw [cov_front hh hl hh' hl' hc] at hy; cases hy)
  have D : Hid ((V1 && V2 && !x && !y) = true → a0_0 = a1_0 ∧ (h : Int) = h' ∧ (l : Int) = l' ∧ a0_3 = a1_3) := Lib.hid (by
    intro e
    simp only [Bool.and_eq_true, Bool.not_eq_true'] at e
    obtain ⟨⟨⟨rfl, rfl⟩, rfl⟩, rfl⟩ := e
    obtain ⟨e1, e2, e3, e4⟩ := pls_total hh hl hh' hl' hV1 hV2 hx hy
    exact ⟨e1, by rw [e2], by rw [e3], e4⟩)
  have N : Hid ((x || y) = true → V1 = true ∧ V2 = true ∧ ¬ (a0_0 = a1_0 ∧ (h : Int) = h' ∧ (l : Int) = l' ∧ a0_3 = a1_3)) := Lib.hid (by
    intro e
    have e2 : x = true ∨ y = true := by cases x <;> cases y <;> simp_all
    rcases e2 with rfl | rfl
    · obtain ⟨p1, p2, p3⟩ := (pls_iff hh hl hh' hl').1 hx
      refine ⟨hV1.symm.trans p1, hV2.symm.trans p2, ?_⟩
      rintro ⟨e1, e2, e3, e4⟩
      have e5 : h = h' := by omega
      have e6 : l = l' := by omega
      subst e1 e5 e6 e4
      rw [pls_irr hh hl] at hx; cases hx
    · obtain ⟨p1, p2, p3⟩ := (pls_iff hh' hl' hh hl).1 hy
      refine ⟨hV1.symm.trans p2, hV2.symm.trans p1, ?_⟩
      rintro ⟨e1, e2, e3, e4⟩
      have e5 : h = h' := by omega
      have e6 : l = l' := by omega
      subst e1 e5 e6 e4
      rw [pls_irr hh hl] at hy; cases hy)
  obtain ⟨A, hA⟩ : ∃ A : Int, (h : Int) = A := ⟨_, rfl⟩
  obtain ⟨B, hB⟩ : ∃ B : Int, (l : Int) = B := ⟨_, rfl⟩
  obtain ⟨C', hC⟩ : ∃ A : Int, (h' : Int) = A := ⟨_, rfl⟩
  obtain ⟨D', hD⟩ : ∃ B : Int, (l' : Int) = B := ⟨_, rfl⟩
  obtain ⟨F, hF⟩ : ∃ M : Int, (m : Int) = M := ⟨_, rfl⟩
  obtain ⟨G, hG⟩ : ∃ N : Int, (n : Int) = N := ⟨_, rfl⟩
  have HX := Lib.hid (fun w => pless_in a0_0 h l a0_3 a1_0 h' l' a1_3 hh hl hh' hl' hA hB hC hD hx w)
  have HY := Lib.hid (fun w => pless_in a1_0 h' l' a1_3 a0_0 h l a0_3 hh' hl' hh hl hC hD hA hB hy w)
  have HRX := Lib.hid (fun w => rpless_in a0_0 h l a0_3 a1_0 h' l' a1_3 hh hl hh' hl' hA hB hC hD hx w)
  have HPP := Lib.hid (fun w => pless_in a0_0 h l a0_3 a0_0 h l a0_3 hh hl hh hl hA hB hA hB (pls_irr hh hl) w)
  have HV1 := Lib.hid (fun w => pvalid_in a0_0 h l a0_3 hh hl hA hB hV1 w)
  have HV2 := Lib.hid (fun w => pvalid_in a1_0 h' l' a1_3 hh' hl' hC hD hV2 w)
  have HQ := Lib.hid (fun w => pless_in a1_0 h' l' a1_3 a2_0 m n a2_3 hh' hl' hm hn hC hD hF hG hq w)
  have HT := Lib.hid (fun w => pless_in a0_0 h l a0_3 a2_0 m n a2_3 hh hl hm hn hA hB hF hG ht w)
  have HC := Lib.hid (fun w => covers_in a0_0 h l a0_3 a1_0 h' l' a1_3 hh' hl' hA hB hC hD hc w)
  rw [hA, hB, hC, hD] at D N
  rw [hA, hB, hC, hD, hF, hG]
  clear w0_1 w0_2 w0_3 w1_1 w1_2 w1_3 w2_1 w2_2 w2_3 hx hy hq ht hV1 hV2 hc hA hB hC hD hF hG hh hl hh' hl' hm hn
  go_enter Tryd.func8, Tryd.ntmps8
  go_wp2_with fail
  refine Calls.mono (pawake_yes _ (((hE.out.alloc _).alloc _).alloc _)) ?_
  rintro e w1 ⟨rfl, hb⟩
  have KP1 := Lib.hid ((((Blk.new w 26 #[.bool a0_0, .int .u64 A, .int .u64 B, .int .i64 a0_3]).alloc (.cells #[.bool a1_0, .int .u64 C', .int .u64 D', .int .i64 a1_3] 26)).alloc (.cells #[.bool a2_0, .int .u64 F, .int .u64 G, .int .i64 a2_3] 26)).below hb (by simp only [World.size_alloc]; omega))
  have KQ1 := Lib.hid (((Blk.new (w.alloc (.cells #[.bool a0_0, .int .u64 A, .int .u64 B, .int .i64 a0_3] 26)) 26 #[.bool a1_0, .int .u64 C', .int .u64 D', .int .i64 a1_3]).alloc (.cells #[.bool a2_0, .int .u64 F, .int .u64 G, .int .i64 a2_3] 26)).below hb (by simp only [World.size_alloc]; omega))
  rw [World.size_alloc] at KQ1
  have KR1 := Lib.hid ((Blk.new ((w.alloc (.cells #[.bool a0_0, .int .u64 A, .int .u64 B, .int .i64 a0_3] 26)).alloc (.cells #[.bool a1_0, .int .u64 C', .int .u64 D', .int .i64 a1_3] 26)) 26 #[.bool a2_0, .int .u64 F, .int .u64 G, .int .i64 a2_3]).below hb (by simp only [World.size_alloc]; omega))
  rw [World.size_alloc, World.size_alloc] at KR1
  have L1 := Lib.hid (((((Below.refl _ w).alloc (Nat.le_refl _) _).alloc (by simp only [World.size_alloc]; omega) _).alloc (by simp only [World.size_alloc]; omega) _).trans (hb.mono (by simp only [World.size_alloc]; omega)))
  have E1 := Lib.hid ((((hE.out.alloc _).alloc _).alloc _).below hb)
  clear hb
  obtain ⟨f0, f1, f2, f3⟩ := KP1.out.c4
  obtain ⟨g0, g1, g2, g3⟩ := KQ1.out.c4
  obtain ⟨h0, h1, h2, h3⟩ := KR1.out.c4
  go_wp2_with fail
  refine Calls.mono (HX.out _) ?_
  rintro e w2 ⟨rfl, hb⟩
  clear f0 f1 f2 f3 g0 g1 g2 g3 h0 h1 h2 h3
  have KP2 := Lib.hid (KP1.out.below hb KP1.out.lt)
  have KQ2 := Lib.hid (KQ1.out.below hb KQ1.out.lt)
  have KR2 := Lib.hid (KR1.out.below hb KR1.out.lt)
  have L2 := Lib.hid (L1.out.trans (hb.mono L1.out.size))
  have E2 := Lib.hid (E1.out.below hb)
  clear hb
  obtain ⟨f0, f1, f2, f3⟩ := KP2.out.c4
  obtain ⟨g0, g1, g2, g3⟩ := KQ2.out.c4
  obtain ⟨h0, h1, h2, h3⟩ := KR2.out.c4
  go_wp2_with fail
  refine Calls.mono (HY.out _) ?_
  rintro e w3 ⟨rfl, hb⟩
  clear f0 f1 f2 f3 g0 g1 g2 g3 h0 h1 h2 h3
  have KP3 := Lib.hid (KP2.out.below hb KP2.out.lt)
  have KQ3 := Lib.hid (KQ2.out.below hb KQ2.out.lt)
  have KR3 := Lib.hid (KR2.out.below hb KR2.out.lt)
  have L3 := Lib.hid (L2.out.trans (hb.mono L2.out.size))
  have E3 := Lib.hid (E2.out.below hb)
  clear hb
  have XY : (x = true ∧ y = false) ∨ (x = false ∧ y = true) ∨ (x = false ∧ y = false) := by
    have := C.out.1
    cases x <;> cases y <;> simp_all
  have XY := Lib.hid XY
  clear HX HY
  rcases XY.out with ⟨rfl, rfl⟩ | ⟨rfl, rfl⟩ | ⟨rfl, rfl⟩
  · obtain ⟨v1, v2, ne⟩ := N.out rfl
    have NE := Lib.hid ne
    subst v1 v2
    clear ne
    cases q
    · skip
      by_cases c1 : a0_0 = a1_0
      · subst c1
        by_cases c2 : A = C'
        · subst c2
          by_cases c3 : B = D'
          · subst c3
            have c4 : ¬ a0_3 = a1_3 := fun e => NE.out ⟨rfl, rfl, rfl, e⟩
            obtain ⟨f0, f1, f2, f3⟩ := KP3.out.c4
            obtain ⟨g0, g1, g2, g3⟩ := KQ3.out.c4
            obtain ⟨h0, h1, h2, h3⟩ := KR3.out.c4
            go_wp2_with fail
            refine Calls.mono (HRX.out _) ?_
            rintro e w4 ⟨rfl, hb⟩
            clear f0 f1 f2 f3 g0 g1 g2 g3 h0 h1 h2 h3
            have KP4 := Lib.hid (KP3.out.below hb KP3.out.lt)
            have KQ4 := Lib.hid (KQ3.out.below hb KQ3.out.lt)
            have KR4 := Lib.hid (KR3.out.below hb KR3.out.lt)
            have L4 := Lib.hid (L3.out.trans (hb.mono L3.out.size))
            have E4 := Lib.hid (E3.out.below hb)
            clear hb
            obtain ⟨f0, f1, f2, f3⟩ := KP4.out.c4
            obtain ⟨g0, g1, g2, g3⟩ := KQ4.out.c4
            obtain ⟨h0, h1, h2, h3⟩ := KR4.out.c4
            go_wp2_with fail
            refine Calls.mono (HPP.out _) ?_
            rintro e w5 ⟨rfl, hb⟩
            clear f0 f1 f2 f3 g0 g1 g2 g3 h0 h1 h2 h3
            have KP5 := Lib.hid (KP4.out.below hb KP4.out.lt)
            have KQ5 := Lib.hid (KQ4.out.below hb KQ4.out.lt)
            have KR5 := Lib.hid (KR4.out.below hb KR4.out.lt)
            have L5 := Lib.hid (L4.out.trans (hb.mono L4.out.size))
            have E5 := Lib.hid (E4.out.below hb)
            clear hb
            obtain ⟨f0, f1, f2, f3⟩ := KP5.out.c4
            obtain ⟨g0, g1, g2, g3⟩ := KQ5.out.c4
            obtain ⟨h0, h1, h2, h3⟩ := KR5.out.c4
            go_wp2_with fail
            refine Calls.mono (HV1.out _) ?_
            rintro e w6 ⟨rfl, hb⟩
            clear f0 f1 f2 f3 g0 g1 g2 g3 h0 h1 h2 h3
            have KP6 := Lib.hid (KP5.out.below hb KP5.out.lt)
            have KQ6 := Lib.hid (KQ5.out.below hb KQ5.out.lt)
            have KR6 := Lib.hid (KR5.out.below hb KR5.out.lt)
            have L6 := Lib.hid (L5.out.trans (hb.mono L5.out.size))
            have E6 := Lib.hid (E5.out.below hb)
            clear hb
            obtain ⟨f0, f1, f2, f3⟩ := KP6.out.c4
            obtain ⟨g0, g1, g2, g3⟩ := KQ6.out.c4
            obtain ⟨h0, h1, h2, h3⟩ := KR6.out.c4
            go_wp2_with fail
            refine Calls.mono (HV2.out _) ?_
            rintro e w7 ⟨rfl, hb⟩
            clear f0 f1 f2 f3 g0 g1 g2 g3 h0 h1 h2 h3
            have KP7 := Lib.hid (KP6.out.below hb KP6.out.lt)
            have KQ7 := Lib.hid (KQ6.out.below hb KQ6.out.lt)
            have KR7 := Lib.hid (KR6.out.below hb KR6.out.lt)
            have L7 := Lib.hid (L6.out.trans (hb.mono L6.out.size))
            have E7 := Lib.hid (E6.out.below hb)
            clear hb
            obtain ⟨f0, f1, f2, f3⟩ := KP7.out.c4
            obtain ⟨g0, g1, g2, g3⟩ := KQ7.out.c4
            obtain ⟨h0, h1, h2, h3⟩ := KR7.out.c4
            go_wp2_with fail
            refine Calls.mono (HQ.out _) ?_
            rintro e w8 ⟨rfl, hb⟩
            clear f0 f1 f2 f3 g0 g1 g2 g3 h0 h1 h2 h3
            have KP8 := Lib.hid (KP7.out.below hb KP7.out.lt)
            have KQ8 := Lib.hid (KQ7.out.below hb KQ7.out.lt)
            have KR8 := Lib.hid (KR7.out.below hb KR7.out.lt)
            have L8 := Lib.hid (L7.out.trans (hb.mono L7.out.size))
            have E8 := Lib.hid (E7.out.below hb)
            clear hb
            obtain ⟨f0, f1, f2, f3⟩ := KP8.out.c4
            obtain ⟨g0, g1, g2, g3⟩ := KQ8.out.c4
            obtain ⟨h0, h1, h2, h3⟩ := KR8.out.c4
            go_wp2_with fail
            refine Calls.mono (HC.out _) ?_
            rintro e w9 ⟨rfl, hb⟩
            clear f0 f1 f2 f3 g0 g1 g2 g3 h0 h1 h2 h3
            have KP9 := Lib.hid (KP8.out.below hb KP8.out.lt)
            have KQ9 := Lib.hid (KQ8.out.below hb KQ8.out.lt)
            have KR9 := Lib.hid (KR8.out.below hb KR8.out.lt)
            have L9 := Lib.hid (L8.out.trans (hb.mono L8.out.size))
            have E9 := Lib.hid (E8.out.below hb)
            clear hb
            obtain ⟨f0, f1, f2, f3⟩ := KP9.out.c4
            obtain ⟨g0, g1, g2, g3⟩ := KQ9.out.c4
            obtain ⟨h0, h1, h2, h3⟩ := KR9.out.c4
            go_wp2
            all_goals
              go_ret
              exact ⟨ret_bool (by simp [*]), L9.out⟩
          · skip
            obtain ⟨f0, f1, f2, f3⟩ := KP3.out.c4
            obtain ⟨g0, g1, g2, g3⟩ := KQ3.out.c4
            obtain ⟨h0, h1, h2, h3⟩ := KR3.out.c4
            go_wp2_with fail
            refine Calls.mono (HRX.out _) ?_
            rintro e w4 ⟨rfl, hb⟩
            clear f0 f1 f2 f3 g0 g1 g2 g3 h0 h1 h2 h3
            have KP4 := Lib.hid (KP3.out.below hb KP3.out.lt)
            have KQ4 := Lib.hid (KQ3.out.below hb KQ3.out.lt)
            have KR4 := Lib.hid (KR3.out.below hb KR3.out.lt)
            have L4 := Lib.hid (L3.out.trans (hb.mono L3.out.size))
            have E4 := Lib.hid (E3.out.below hb)
            clear hb
            obtain ⟨f0, f1, f2, f3⟩ := KP4.out.c4
            obtain ⟨g0, g1, g2, g3⟩ := KQ4.out.c4
            obtain ⟨h0, h1, h2, h3⟩ := KR4.out.c4
            go_wp2_with fail
            refine Calls.mono (HPP.out _) ?_
            rintro e w5 ⟨rfl, hb⟩
            clear f0 f1 f2 f3 g0 g1 g2 g3 h0 h1 h2 h3
            have KP5 := Lib.hid (KP4.out.below hb KP4.out.lt)
            have KQ5 := Lib.hid (KQ4.out.below hb KQ4.out.lt)
            have KR5 := Lib.hid (KR4.out.below hb KR4.out.lt)
            have L5 := Lib.hid (L4.out.trans (hb.mono L4.out.size))
            have E5 := Lib.hid (E4.out.below hb)
            clear hb
            obtain ⟨f0, f1, f2, f3⟩ := KP5.out.c4
            obtain ⟨g0, g1, g2, g3⟩ := KQ5.out.c4
            obtain ⟨h0, h1, h2, h3⟩ := KR5.out.c4
            go_wp2_with fail
            refine Calls.mono (HV1.out _) ?_
            rintro e w6 ⟨rfl, hb⟩
            clear f0 f1 f2 f3 g0 g1 g2 g3 h0 h1 h2 h3
            have KP6 := Lib.hid (KP5.out.below hb KP5.out.lt)
            have KQ6 := Lib.hid (KQ5.out.below hb KQ5.out.lt)
            have KR6 := Lib.hid (KR5.out.below hb KR5.out.lt)
            have L6 := Lib.hid (L5.out.trans (hb.mono L5.out.size))
            have E6 := Lib.hid (E5.out.below hb)
            clear hb
            obtain ⟨f0, f1, f2, f3⟩ := KP6.out.c4
            obtain ⟨g0, g1, g2, g3⟩ := KQ6.out.c4
            obtain ⟨h0, h1, h2, h3⟩ := KR6.out.c4
            go_wp2_with fail
            refine Calls.mono (HV2.out _) ?_
            rintro e w7 ⟨rfl, hb⟩
            clear f0 f1 f2 f3 g0 g1 g2 g3 h0 h1 h2 h3
            have KP7 := Lib.hid (KP6.out.below hb KP6.out.lt)
            have KQ7 := Lib.hid (KQ6.out.below hb KQ6.out.lt)
            have KR7 := Lib.hid (KR6.out.below hb KR6.out.lt)
            have L7 := Lib.hid (L6.out.trans (hb.mono L6.out.size))
            have E7 := Lib.hid (E6.out.below hb)
            clear hb
            obtain ⟨f0, f1, f2, f3⟩ := KP7.out.c4
            obtain ⟨g0, g1, g2, g3⟩ := KQ7.out.c4
            obtain ⟨h0, h1, h2, h3⟩ := KR7.out.c4
            go_wp2_with fail
            refine Calls.mono (HQ.out _) ?_
            rintro e w8 ⟨rfl, hb⟩
            clear f0 f1 f2 f3 g0 g1 g2 g3 h0 h1 h2 h3
            have KP8 := Lib.hid (KP7.out.below hb KP7.out.lt)
            have KQ8 := Lib.hid (KQ7.out.below hb KQ7.out.lt)
            have KR8 := Lib.hid (KR7.out.below hb KR7.out.lt)
            have L8 := Lib.hid (L7.out.trans (hb.mono L7.out.size))
            have E8 := Lib.hid (E7.out.below hb)
            clear hb
            obtain ⟨f0, f1, f2, f3⟩ := KP8.out.c4
            obtain ⟨g0, g1, g2, g3⟩ := KQ8.out.c4
            obtain ⟨h0, h1, h2, h3⟩ := KR8.out.c4
            go_wp2_with fail
            refine Calls.mono (HC.out _) ?_
            rintro e w9 ⟨rfl, hb⟩
            clear f0 f1 f2 f3 g0 g1 g2 g3 h0 h1 h2 h3
            have KP9 := Lib.hid (KP8.out.below hb KP8.out.lt)
            have KQ9 := Lib.hid (KQ8.out.below hb KQ8.out.lt)
            have KR9 := Lib.hid (KR8.out.below hb KR8.out.lt)
            have L9 := Lib.hid (L8.out.trans (hb.mono L8.out.size))
            have E9 := Lib.hid (E8.out.below hb)
            clear hb
            obtain ⟨f0, f1, f2, f3⟩ := KP9.out.c4
            obtain ⟨g0, g1, g2, g3⟩ := KQ9.out.c4
            obtain ⟨h0, h1, h2, h3⟩ := KR9.out.c4
            go_wp2
            all_goals
              go_ret
              exact ⟨ret_bool (by simp [*]), L9.out⟩
        · skip
          obtain ⟨f0, f1, f2, f3⟩ := KP3.out.c4
          obtain ⟨g0, g1, g2, g3⟩ := KQ3.out.c4
          obtain ⟨h0, h1, h2, h3⟩ := KR3.out.c4
          go_wp2_with fail
          refine Calls.mono (HRX.out _) ?_
          rintro e w4 ⟨rfl, hb⟩
          clear f0 f1 f2 f3 g0 g1 g2 g3 h0 h1 h2 h3
          have KP4 := Lib.hid (KP3.out.below hb KP3.out.lt)
          have KQ4 := Lib.hid (KQ3.out.below hb KQ3.out.lt)
          have KR4 := Lib.hid (KR3.out.below hb KR3.out.lt)
          have L4 := Lib.hid (L3.out.trans (hb.mono L3.out.size))
          have E4 := Lib.hid (E3.out.below hb)
          clear hb
          obtain ⟨f0, f1, f2, f3⟩ := KP4.out.c4
          obtain ⟨g0, g1, g2, g3⟩ := KQ4.out.c4
          obtain ⟨h0, h1, h2, h3⟩ := KR4.out.c4
          go_wp2_with fail
          refine Calls.mono (HPP.out _) ?_
          rintro e w5 ⟨rfl, hb⟩
          clear f0 f1 f2 f3 g0 g1 g2 g3 h0 h1 h2 h3
          have KP5 := Lib.hid (KP4.out.below hb KP4.out.lt)
          have KQ5 := Lib.hid (KQ4.out.below hb KQ4.out.lt)
          have KR5 := Lib.hid (KR4.out.below hb KR4.out.lt)
          have L5 := Lib.hid (L4.out.trans (hb.mono L4.out.size))
          have E5 := Lib.hid (E4.out.below hb)
          clear hb
          obtain ⟨f0, f1, f2, f3⟩ := KP5.out.c4
          obtain ⟨g0, g1, g2, g3⟩ := KQ5.out.c4
          obtain ⟨h0, h1, h2, h3⟩ := KR5.out.c4
          go_wp2_with fail
          refine Calls.mono (HV1.out _) ?_
          rintro e w6 ⟨rfl, hb⟩
          clear f0 f1 f2 f3 g0 g1 g2 g3 h0 h1 h2 h3
          have KP6 := Lib.hid (KP5.out.below hb KP5.out.lt)
          have KQ6 := Lib.hid (KQ5.out.below hb KQ5.out.lt)
          have KR6 := Lib.hid (KR5.out.below hb KR5.out.lt)
          have L6 := Lib.hid (L5.out.trans (hb.mono L5.out.size))
          have E6 := Lib.hid (E5.out.below hb)
          clear hb
          obtain ⟨f0, f1, f2, f3⟩ := KP6.out.c4
          obtain ⟨g0, g1, g2, g3⟩ := KQ6.out.c4
          obtain ⟨h0, h1, h2, h3⟩ := KR6.out.c4
          go_wp2_with fail
          refine Calls.mono (HV2.out _) ?_
          rintro e w7 ⟨rfl, hb⟩
          clear f0 f1 f2 f3 g0 g1 g2 g3 h0 h1 h2 h3
          have KP7 := Lib.hid (KP6.out.below hb KP6.out.lt)
          have KQ7 := Lib.hid (KQ6.out.below hb KQ6.out.lt)
          have KR7 := Lib.hid (KR6.out.below hb KR6.out.lt)
          have L7 := Lib.hid (L6.out.trans (hb.mono L6.out.size))
          have E7 := Lib.hid (E6.out.below hb)
          clear hb
          obtain ⟨f0, f1, f2, f3⟩ := KP7.out.c4
          obtain ⟨g0, g1, g2, g3⟩ := KQ7.out.c4
          obtain ⟨h0, h1, h2, h3⟩ := KR7.out.c4
          go_wp2_with fail
          refine Calls.mono (HQ.out _) ?_
          rintro e w8 ⟨rfl, hb⟩
          clear f0 f1 f2 f3 g0 g1 g2 g3 h0 h1 h2 h3
          have KP8 := Lib.hid (KP7.out.below hb KP7.out.lt)
          have KQ8 := Lib.hid (KQ7.out.below hb KQ7.out.lt)
          have KR8 := Lib.hid (KR7.out.below hb KR7.out.lt)
          have L8 := Lib.hid (L7.out.trans (hb.mono L7.out.size))
          have E8 := Lib.hid (E7.out.below hb)
          clear hb
          obtain ⟨f0, f1, f2, f3⟩ := KP8.out.c4
          obtain ⟨g0, g1, g2, g3⟩ := KQ8.out.c4
          obtain ⟨h0, h1, h2, h3⟩ := KR8.out.c4
          go_wp2_with fail
          refine Calls.mono (HC.out _) ?_
          rintro e w9 ⟨rfl, hb⟩
          clear f0 f1 f2 f3 g0 g1 g2 g3 h0 h1 h2 h3
          have KP9 := Lib.hid (KP8.out.below hb KP8.out.lt)
          have KQ9 := Lib.hid (KQ8.out.below hb KQ8.out.lt)
          have KR9 := Lib.hid (KR8.out.below hb KR8.out.lt)
          have L9 := Lib.hid (L8.out.trans (hb.mono L8.out.size))
          have E9 := Lib.hid (E8.out.below hb)
          clear hb
          obtain ⟨f0, f1, f2, f3⟩ := KP9.out.c4
          obtain ⟨g0, g1, g2, g3⟩ := KQ9.out.c4
          obtain ⟨h0, h1, h2, h3⟩ := KR9.out.c4
          go_wp2
          all_goals
            go_ret
            exact ⟨ret_bool (by simp [*]), L9.out⟩
      · cases a0_0 <;> cases a1_0
        · exact absurd rfl c1
        · skip
          obtain ⟨f0, f1, f2, f3⟩ := KP3.out.c4
          obtain ⟨g0, g1, g2, g3⟩ := KQ3.out.c4
          obtain ⟨h0, h1, h2, h3⟩ := KR3.out.c4
          go_wp2_with fail
          refine Calls.mono (HRX.out _) ?_
          rintro e w4 ⟨rfl, hb⟩
          clear f0 f1 f2 f3 g0 g1 g2 g3 h0 h1 h2 h3
          have KP4 := Lib.hid (KP3.out.below hb KP3.out.lt)
          have KQ4 := Lib.hid (KQ3.out.below hb KQ3.out.lt)
          have KR4 := Lib.hid (KR3.out.below hb KR3.out.lt)
          have L4 := Lib.hid (L3.out.trans (hb.mono L3.out.size))
          have E4 := Lib.hid (E3.out.below hb)
          clear hb
          obtain ⟨f0, f1, f2, f3⟩ := KP4.out.c4
          obtain ⟨g0, g1, g2, g3⟩ := KQ4.out.c4
          obtain ⟨h0, h1, h2, h3⟩ := KR4.out.c4
          go_wp2_with fail
          refine Calls.mono (HPP.out _) ?_
          rintro e w5 ⟨rfl, hb⟩
          clear f0 f1 f2 f3 g0 g1 g2 g3 h0 h1 h2 h3
          have KP5 := Lib.hid (KP4.out.below hb KP4.out.lt)
          have KQ5 := Lib.hid (KQ4.out.below hb KQ4.out.lt)
          have KR5 := Lib.hid (KR4.out.below hb KR4.out.lt)
          have L5 := Lib.hid (L4.out.trans (hb.mono L4.out.size))
          have E5 := Lib.hid (E4.out.below hb)
          clear hb
          obtain ⟨f0, f1, f2, f3⟩ := KP5.out.c4
          obtain ⟨g0, g1, g2, g3⟩ := KQ5.out.c4
          obtain ⟨h0, h1, h2, h3⟩ := KR5.out.c4
          go_wp2_with fail
          refine Calls.mono (HV1.out _) ?_
          rintro e w6 ⟨rfl, hb⟩
          clear f0 f1 f2 f3 g0 g1 g2 g3 h0 h1 h2 h3
          have KP6 := Lib.hid (KP5.out.below hb KP5.out.lt)
          have KQ6 := Lib.hid (KQ5.out.below hb KQ5.out.lt)
          have KR6 := Lib.hid (KR5.out.below hb KR5.out.lt)
          have L6 := Lib.hid (L5.out.trans (hb.mono L5.out.size))
          have E6 := Lib.hid (E5.out.below hb)
          clear hb
          obtain ⟨f0, f1, f2, f3⟩ := KP6.out.c4
          obtain ⟨g0, g1, g2, g3⟩ := KQ6.out.c4
          obtain ⟨h0, h1, h2, h3⟩ := KR6.out.c4
          go_wp2_with fail
          refine Calls.mono (HV2.out _) ?_
          rintro e w7 ⟨rfl, hb⟩
          clear f0 f1 f2 f3 g0 g1 g2 g3 h0 h1 h2 h3
          have KP7 := Lib.hid (KP6.out.below hb KP6.out.lt)
          have KQ7 := Lib.hid (KQ6.out.below hb KQ6.out.lt)
          have KR7 := Lib.hid (KR6.out.below hb KR6.out.lt)
          have L7 := Lib.hid (L6.out.trans (hb.mono L6.out.size))
          have E7 := Lib.hid (E6.out.below hb)
          clear hb
          obtain ⟨f0, f1, f2, f3⟩ := KP7.out.c4
          obtain ⟨g0, g1, g2, g3⟩ := KQ7.out.c4
          obtain ⟨h0, h1, h2, h3⟩ := KR7.out.c4
          go_wp2_with fail
          refine Calls.mono (HQ.out _) ?_
          rintro e w8 ⟨rfl, hb⟩
          clear f0 f1 f2 f3 g0 g1 g2 g3 h0 h1 h2 h3
          have KP8 := Lib.hid (KP7.out.below hb KP7.out.lt)
          have KQ8 := Lib.hid (KQ7.out.below hb KQ7.out.lt)
          have KR8 := Lib.hid (KR7.out.below hb KR7.out.lt)
          have L8 := Lib.hid (L7.out.trans (hb.mono L7.out.size))
          have E8 := Lib.hid (E7.out.below hb)
          clear hb
          obtain ⟨f0, f1, f2, f3⟩ := KP8.out.c4
          obtain ⟨g0, g1, g2, g3⟩ := KQ8.out.c4
          obtain ⟨h0, h1, h2, h3⟩ := KR8.out.c4
          go_wp2_with fail
          refine Calls.mono (HC.out _) ?_
          rintro e w9 ⟨rfl, hb⟩
          clear f0 f1 f2 f3 g0 g1 g2 g3 h0 h1 h2 h3
          have KP9 := Lib.hid (KP8.out.below hb KP8.out.lt)
          have KQ9 := Lib.hid (KQ8.out.below hb KQ8.out.lt)
          have KR9 := Lib.hid (KR8.out.below hb KR8.out.lt)
          have L9 := Lib.hid (L8.out.trans (hb.mono L8.out.size))
          have E9 := Lib.hid (E8.out.below hb)
          clear hb
          obtain ⟨f0, f1, f2, f3⟩ := KP9.out.c4
          obtain ⟨g0, g1, g2, g3⟩ := KQ9.out.c4
          obtain ⟨h0, h1, h2, h3⟩ := KR9.out.c4
          go_wp2
          all_goals
            go_ret
            exact ⟨ret_bool (by simp [*]), L9.out⟩
        · skip
          obtain ⟨f0, f1, f2, f3⟩ := KP3.out.c4
          obtain ⟨g0, g1, g2, g3⟩ := KQ3.out.c4
          obtain ⟨h0, h1, h2, h3⟩ := KR3.out.c4
          go_wp2_with fail
          refine Calls.mono (HRX.out _) ?_
          rintro e w4 ⟨rfl, hb⟩
          clear f0 f1 f2 f3 g0 g1 g2 g3 h0 h1 h2 h3
          have KP4 := Lib.hid (KP3.out.below hb KP3.out.lt)
          have KQ4 := Lib.hid (KQ3.out.below hb KQ3.out.lt)
          have KR4 := Lib.hid (KR3.out.below hb KR3.out.lt)
          have L4 := Lib.hid (L3.out.trans (hb.mono L3.out.size))
          have E4 := Lib.hid (E3.out.below hb)
          clear hb
          obtain ⟨f0, f1, f2, f3⟩ := KP4.out.c4
          obtain ⟨g0, g1, g2, g3⟩ := KQ4.out.c4
          obtain ⟨h0, h1, h2, h3⟩ := KR4.out.c4
          go_wp2_with fail
          refine Calls.mono (HPP.out _) ?_
          rintro e w5 ⟨rfl, hb⟩
          clear f0 f1 f2 f3 g0 g1 g2 g3 h0 h1 h2 h3
          have KP5 := Lib.hid (KP4.out.below hb KP4.out.lt)
          have KQ5 := Lib.hid (KQ4.out.below hb KQ4.out.lt)
          have KR5 := Lib.hid (KR4.out.below hb KR4.out.lt)
          have L5 := Lib.hid (L4.out.trans (hb.mono L4.out.size))
          have E5 := Lib.hid (E4.out.below hb)
          clear hb
          obtain ⟨f0, f1, f2, f3⟩ := KP5.out.c4
          obtain ⟨g0, g1, g2, g3⟩ := KQ5.out.c4
          obtain ⟨h0, h1, h2, h3⟩ := KR5.out.c4
          go_wp2_with fail
          refine Calls.mono (HV1.out _) ?_
          rintro e w6 ⟨rfl, hb⟩
          clear f0 f1 f2 f3 g0 g1 g2 g3 h0 h1 h2 h3
          have KP6 := Lib.hid (KP5.out.below hb KP5.out.lt)
          have KQ6 := Lib.hid (KQ5.out.below hb KQ5.out.lt)
          have KR6 := Lib.hid (KR5.out.below hb KR5.out.lt)
          have L6 := Lib.hid (L5.out.trans (hb.mono L5.out.size))
          have E6 := Lib.hid (E5.out.below hb)
          clear hb
          obtain ⟨f0, f1, f2, f3⟩ := KP6.out.c4
          obtain ⟨g0, g1, g2, g3⟩ := KQ6.out.c4
          obtain ⟨h0, h1, h2, h3⟩ := KR6.out.c4
          go_wp2_with fail
          refine Calls.mono (HV2.out _) ?_
          rintro e w7 ⟨rfl, hb⟩
          clear f0 f1 f2 f3 g0 g1 g2 g3 h0 h1 h2 h3
          have KP7 := Lib.hid (KP6.out.below hb KP6.out.lt)
          have KQ7 := Lib.hid (KQ6.out.below hb KQ6.out.lt)
          have KR7 := Lib.hid (KR6.out.below hb KR6.out.lt)
          have L7 := Lib.hid (L6.out.trans (hb.mono L6.out.size))
          have E7 := Lib.hid (E6.out.below hb)
          clear hb
          obtain ⟨f0, f1, f2, f3⟩ := KP7.out.c4
          obtain ⟨g0, g1, g2, g3⟩ := KQ7.out.c4
          obtain ⟨h0, h1, h2, h3⟩ := KR7.out.c4
          go_wp2_with fail
          refine Calls.mono (HQ.out _) ?_
          rintro e w8 ⟨rfl, hb⟩
          clear f0 f1 f2 f3 g0 g1 g2 g3 h0 h1 h2 h3
          have KP8 := Lib.hid (KP7.out.below hb KP7.out.lt)
          have KQ8 := Lib.hid (KQ7.out.below hb KQ7.out.lt)
          have KR8 := Lib.hid (KR7.out.below hb KR7.out.lt)
          have L8 := Lib.hid (L7.out.trans (hb.mono L7.out.size))
          have E8 := Lib.hid (E7.out.below hb)
          clear hb
          obtain ⟨f0, f1, f2, f3⟩ := KP8.out.c4
          obtain ⟨g0, g1, g2, g3⟩ := KQ8.out.c4
          obtain ⟨h0, h1, h2, h3⟩ := KR8.out.c4
          go_wp2_with fail
          refine Calls.mono (HC.out _) ?_
          rintro e w9 ⟨rfl, hb⟩
          clear f0 f1 f2 f3 g0 g1 g2 g3 h0 h1 h2 h3
          have KP9 := Lib.hid (KP8.out.below hb KP8.out.lt)
          have KQ9 := Lib.hid (KQ8.out.below hb KQ8.out.lt)
          have KR9 := Lib.hid (KR8.out.below hb KR8.out.lt)
          have L9 := Lib.hid (L8.out.trans (hb.mono L8.out.size))
          have E9 := Lib.hid (E8.out.below hb)
          clear hb
          obtain ⟨f0, f1, f2, f3⟩ := KP9.out.c4
          obtain ⟨g0, g1, g2, g3⟩ := KQ9.out.c4
          obtain ⟨h0, h1, h2, h3⟩ := KR9.out.c4
          go_wp2
          all_goals
            go_ret
            exact ⟨ret_bool (by simp [*]), L9.out⟩
        · exact absurd rfl c1
    · have ht : t = true := by
        have := C.out.2.1
        cases t <;> simp_all
      subst ht
      by_cases c1 : a0_0 = a1_0
      · subst c1
        by_cases c2 : A = C'
        · subst c2
          by_cases c3 : B = D'
          · subst c3
            have c4 : ¬ a0_3 = a1_3 := fun e => NE.out ⟨rfl, rfl, rfl, e⟩
            obtain ⟨f0, f1, f2, f3⟩ := KP3.out.c4
            obtain ⟨g0, g1, g2, g3⟩ := KQ3.out.c4
            obtain ⟨h0, h1, h2, h3⟩ := KR3.out.c4
            go_wp2_with fail
            refine Calls.mono (HRX.out _) ?_
            rintro e w4 ⟨rfl, hb⟩
            clear f0 f1 f2 f3 g0 g1 g2 g3 h0 h1 h2 h3
            have KP4 := Lib.hid (KP3.out.below hb KP3.out.lt)
            have KQ4 := Lib.hid (KQ3.out.below hb KQ3.out.lt)
            have KR4 := Lib.hid (KR3.out.below hb KR3.out.lt)
            have L4 := Lib.hid (L3.out.trans (hb.mono L3.out.size))
            have E4 := Lib.hid (E3.out.below hb)
            clear hb
            obtain ⟨f0, f1, f2, f3⟩ := KP4.out.c4
            obtain ⟨g0, g1, g2, g3⟩ := KQ4.out.c4
            obtain ⟨h0, h1, h2, h3⟩ := KR4.out.c4
            go_wp2_with fail
            refine Calls.mono (HPP.out _) ?_
            rintro e w5 ⟨rfl, hb⟩
            clear f0 f1 f2 f3 g0 g1 g2 g3 h0 h1 h2 h3
            have KP5 := Lib.hid (KP4.out.below hb KP4.out.lt)
            have KQ5 := Lib.hid (KQ4.out.below hb KQ4.out.lt)
            have KR5 := Lib.hid (KR4.out.below hb KR4.out.lt)
            have L5 := Lib.hid (L4.out.trans (hb.mono L4.out.size))
            have E5 := Lib.hid (E4.out.below hb)
            clear hb
            obtain ⟨f0, f1, f2, f3⟩ := KP5.out.c4
            obtain ⟨g0, g1, g2, g3⟩ := KQ5.out.c4
            obtain ⟨h0, h1, h2, h3⟩ := KR5.out.c4
            go_wp2_with fail
            refine Calls.mono (HV1.out _) ?_
            rintro e w6 ⟨rfl, hb⟩
            clear f0 f1 f2 f3 g0 g1 g2 g3 h0 h1 h2 h3
            have KP6 := Lib.hid (KP5.out.below hb KP5.out.lt)
            have KQ6 := Lib.hid (KQ5.out.below hb KQ5.out.lt)
            have KR6 := Lib.hid (KR5.out.below hb KR5.out.lt)
            have L6 := Lib.hid (L5.out.trans (hb.mono L5.out.size))
            have E6 := Lib.hid (E5.out.below hb)
            clear hb
            obtain ⟨f0, f1, f2, f3⟩ := KP6.out.c4
            obtain ⟨g0, g1, g2, g3⟩ := KQ6.out.c4
            obtain ⟨h0, h1, h2, h3⟩ := KR6.out.c4
            go_wp2_with fail
            refine Calls.mono (HV2.out _) ?_
            rintro e w7 ⟨rfl, hb⟩
            clear f0 f1 f2 f3 g0 g1 g2 g3 h0 h1 h2 h3
            have KP7 := Lib.hid (KP6.out.below hb KP6.out.lt)
            have KQ7 := Lib.hid (KQ6.out.below hb KQ6.out.lt)
            have KR7 := Lib.hid (KR6.out.below hb KR6.out.lt)
            have L7 := Lib.hid (L6.out.trans (hb.mono L6.out.size))
            have E7 := Lib.hid (E6.out.below hb)
            clear hb
            obtain ⟨f0, f1, f2, f3⟩ := KP7.out.c4
            obtain ⟨g0, g1, g2, g3⟩ := KQ7.out.c4
            obtain ⟨h0, h1, h2, h3⟩ := KR7.out.c4
            go_wp2_with fail
            refine Calls.mono (HQ.out _) ?_
            rintro e w8 ⟨rfl, hb⟩
            clear f0 f1 f2 f3 g0 g1 g2 g3 h0 h1 h2 h3
            have KP8 := Lib.hid (KP7.out.below hb KP7.out.lt)
            have KQ8 := Lib.hid (KQ7.out.below hb KQ7.out.lt)
            have KR8 := Lib.hid (KR7.out.below hb KR7.out.lt)
            have L8 := Lib.hid (L7.out.trans (hb.mono L7.out.size))
            have E8 := Lib.hid (E7.out.below hb)
            clear hb
            obtain ⟨f0, f1, f2, f3⟩ := KP8.out.c4
            obtain ⟨g0, g1, g2, g3⟩ := KQ8.out.c4
            obtain ⟨h0, h1, h2, h3⟩ := KR8.out.c4
            go_wp2_with fail
            refine Calls.mono (HT.out _) ?_
            rintro e w9 ⟨rfl, hb⟩
            clear f0 f1 f2 f3 g0 g1 g2 g3 h0 h1 h2 h3
            have KP9 := Lib.hid (KP8.out.below hb KP8.out.lt)
            have KQ9 := Lib.hid (KQ8.out.below hb KQ8.out.lt)
            have KR9 := Lib.hid (KR8.out.below hb KR8.out.lt)
            have L9 := Lib.hid (L8.out.trans (hb.mono L8.out.size))
            have E9 := Lib.hid (E8.out.below hb)
            clear hb
            obtain ⟨f0, f1, f2, f3⟩ := KP9.out.c4
            obtain ⟨g0, g1, g2, g3⟩ := KQ9.out.c4
            obtain ⟨h0, h1, h2, h3⟩ := KR9.out.c4
            go_wp2_with fail
            refine Calls.mono (HC.out _) ?_
            rintro e w10 ⟨rfl, hb⟩
            clear f0 f1 f2 f3 g0 g1 g2 g3 h0 h1 h2 h3
            have KP10 := Lib.hid (KP9.out.below hb KP9.out.lt)
            have KQ10 := Lib.hid (KQ9.out.below hb KQ9.out.lt)
            have KR10 := Lib.hid (KR9.out.below hb KR9.out.lt)
            have L10 := Lib.hid (L9.out.trans (hb.mono L9.out.size))
            have E10 := Lib.hid (E9.out.below hb)
            clear hb
            obtain ⟨f0, f1, f2, f3⟩ := KP10.out.c4
            obtain ⟨g0, g1, g2, g3⟩ := KQ10.out.c4
            obtain ⟨h0, h1, h2, h3⟩ := KR10.out.c4
            go_wp2
            all_goals
              go_ret
              exact ⟨ret_bool (by simp [*]), L10.out⟩
          · skip
            obtain ⟨f0, f1, f2, f3⟩ := KP3.out.c4
            obtain ⟨g0, g1, g2, g3⟩ := KQ3.out.c4
            obtain ⟨h0, h1, h2, h3⟩ := KR3.out.c4
            go_wp2_with fail
            refine Calls.mono (HRX.out _) ?_
            rintro e w4 ⟨rfl, hb⟩
            clear f0 f1 f2 f3 g0 g1 g2 g3 h0 h1 h2 h3
            have KP4 := Lib.hid (KP3.out.below hb KP3.out.lt)
            have KQ4 := Lib.hid (KQ3.out.below hb KQ3.out.lt)
            have KR4 := Lib.hid (KR3.out.below hb KR3.out.lt)
            have L4 := Lib.hid (L3.out.trans (hb.mono L3.out.size))
            have E4 := Lib.hid (E3.out.below hb)
            clear hb
            obtain ⟨f0, f1, f2, f3⟩ := KP4.out.c4
            obtain ⟨g0, g1, g2, g3⟩ := KQ4.out.c4
            obtain ⟨h0, h1, h2, h3⟩ := KR4.out.c4
            go_wp2_with fail
            refine Calls.mono (HPP.out _) ?_
            rintro e w5 ⟨rfl, hb⟩
            clear f0 f1 f2 f3 g0 g1 g2 g3 h0 h1 h2 h3
            have KP5 := Lib.hid (KP4.out.below hb KP4.out.lt)
            have KQ5 := Lib.hid (KQ4.out.below hb KQ4.out.lt)
            have KR5 := Lib.hid (KR4.out.below hb KR4.out.lt)
            have L5 := Lib.hid (L4.out.trans (hb.mono L4.out.size))
            have E5 := Lib.hid (E4.out.below hb)
            clear hb
            obtain ⟨f0, f1, f2, f3⟩ := KP5.out.c4
            obtain ⟨g0, g1, g2, g3⟩ := KQ5.out.c4
            obtain ⟨h0, h1, h2, h3⟩ := KR5.out.c4
            go_wp2_with fail
            refine Calls.mono (HV1.out _) ?_
            rintro e w6 ⟨rfl, hb⟩
            clear f0 f1 f2 f3 g0 g1 g2 g3 h0 h1 h2 h3
            have KP6 := Lib.hid (KP5.out.below hb KP5.out.lt)
            have KQ6 := Lib.hid (KQ5.out.below hb KQ5.out.lt)
            have KR6 := Lib.hid (KR5.out.below hb KR5.out.lt)
            have L6 := Lib.hid (L5.out.trans (hb.mono L5.out.size))
            have E6 := Lib.hid (E5.out.below hb)
            clear hb
            obtain ⟨f0, f1, f2, f3⟩ := KP6.out.c4
            obtain ⟨g0, g1, g2, g3⟩ := KQ6.out.c4
            obtain ⟨h0, h1, h2, h3⟩ := KR6.out.c4
            go_wp2_with fail
            refine Calls.mono (HV2.out _) ?_
            rintro e w7 ⟨rfl, hb⟩
            clear f0 f1 f2 f3 g0 g1 g2 g3 h0 h1 h2 h3
            have KP7 := Lib.hid (KP6.out.below hb KP6.out.lt)
            have KQ7 := Lib.hid (KQ6.out.below hb KQ6.out.lt)
            have KR7 := Lib.hid (KR6.out.below hb KR6.out.lt)
            have L7 := Lib.hid (L6.out.trans (hb.mono L6.out.size))
            have E7 := Lib.hid (E6.out.below hb)
            clear hb
            obtain ⟨f0, f1, f2, f3⟩ := KP7.out.c4
            obtain ⟨g0, g1, g2, g3⟩ := KQ7.out.c4
            obtain ⟨h0, h1, h2, h3⟩ := KR7.out.c4
            go_wp2_with fail
            refine Calls.mono (HQ.out _) ?_
            rintro e w8 ⟨rfl, hb⟩
            clear f0 f1 f2 f3 g0 g1 g2 g3 h0 h1 h2 h3
            have KP8 := Lib.hid (KP7.out.below hb KP7.out.lt)
            have KQ8 := Lib.hid (KQ7.out.below hb KQ7.out.lt)
            have KR8 := Lib.hid (KR7.out.below hb KR7.out.lt)
            have L8 := Lib.hid (L7.out.trans (hb.mono L7.out.size))
            have E8 := Lib.hid (E7.out.below hb)
            clear hb
            obtain ⟨f0, f1, f2, f3⟩ := KP8.out.c4
            obtain ⟨g0, g1, g2, g3⟩ := KQ8.out.c4
            obtain ⟨h0, h1, h2, h3⟩ := KR8.out.c4
            go_wp2_with fail
            refine Calls.mono (HT.out _) ?_
            rintro e w9 ⟨rfl, hb⟩
            clear f0 f1 f2 f3 g0 g1 g2 g3 h0 h1 h2 h3
            have KP9 := Lib.hid (KP8.out.below hb KP8.out.lt)
            have KQ9 := Lib.hid (KQ8.out.below hb KQ8.out.lt)
            have KR9 := Lib.hid (KR8.out.below hb KR8.out.lt)
            have L9 := Lib.hid (L8.out.trans (hb.mono L8.out.size))
            have E9 := Lib.hid (E8.out.below hb)
            clear hb
            obtain ⟨f0, f1, f2, f3⟩ := KP9.out.c4
            obtain ⟨g0, g1, g2, g3⟩ := KQ9.out.c4
            obtain ⟨h0, h1, h2, h3⟩ := KR9.out.c4
            go_wp2_with fail
            refine Calls.mono (HC.out _) ?_
            rintro e w10 ⟨rfl, hb⟩
            clear f0 f1 f2 f3 g0 g1 g2 g3 h0 h1 h2 h3
            have KP10 := Lib.hid (KP9.out.below hb KP9.out.lt)
            have KQ10 := Lib.hid (KQ9.out.below hb KQ9.out.lt)
            have KR10 := Lib.hid (KR9.out.below hb KR9.out.lt)
            have L10 := Lib.hid (L9.out.trans (hb.mono L9.out.size))
            have E10 := Lib.hid (E9.out.below hb)
            clear hb
            obtain ⟨f0, f1, f2, f3⟩ := KP10.out.c4
            obtain ⟨g0, g1, g2, g3⟩ := KQ10.out.c4
            obtain ⟨h0, h1, h2, h3⟩ := KR10.out.c4
            go_wp2
            all_goals
              go_ret
              exact ⟨ret_bool (by simp [*]), L10.out⟩
        · skip
          obtain ⟨f0, f1, f2, f3⟩ := KP3.out.c4
          obtain ⟨g0, g1, g2, g3⟩ := KQ3.out.c4
          obtain ⟨h0, h1, h2, h3⟩ := KR3.out.c4
          go_wp2_with fail
          refine Calls.mono (HRX.out _) ?_
          rintro e w4 ⟨rfl, hb⟩
          clear f0 f1 f2 f3 g0 g1 g2 g3 h0 h1 h2 h3
          have KP4 := Lib.hid (KP3.out.below hb KP3.out.lt)
          have KQ4 := Lib.hid (KQ3.out.below hb KQ3.out.lt)
          have KR4 := Lib.hid (KR3.out.below hb KR3.out.lt)
          have L4 := Lib.hid (L3.out.trans (hb.mono L3.out.size))
          have E4 := Lib.hid (E3.out.below hb)
          clear hb
          obtain ⟨f0, f1, f2, f3⟩ := KP4.out.c4
          obtain ⟨g0, g1, g2, g3⟩ := KQ4.out.c4
          obtain ⟨h0, h1, h2, h3⟩ := KR4.out.c4
          go_wp2_with fail
          refine Calls.mono (HPP.out _) ?_
          rintro e w5 ⟨rfl, hb⟩
          clear f0 f1 f2 f3 g0 g1 g2 g3 h0 h1 h2 h3
          have KP5 := Lib.hid (KP4.out.below hb KP4.out.lt)
          have KQ5 := Lib.hid (KQ4.out.below hb KQ4.out.lt)
          have KR5 := Lib.hid (KR4.out.below hb KR4.out.lt)
          have L5 := Lib.hid (L4.out.trans (hb.mono L4.out.size))
          have E5 := Lib.hid (E4.out.below hb)
          clear hb
          obtain ⟨f0, f1, f2, f3⟩ := KP5.out.c4
          obtain ⟨g0, g1, g2, g3⟩ := KQ5.out.c4
          obtain ⟨h0, h1, h2, h3⟩ := KR5.out.c4
          go_wp2_with fail
          refine Calls.mono (HV1.out _) ?_
          rintro e w6 ⟨rfl, hb⟩
          clear f0 f1 f2 f3 g0 g1 g2 g3 h0 h1 h2 h3
          have KP6 := Lib.hid (KP5.out.below hb KP5.out.lt)
          have KQ6 := Lib.hid (KQ5.out.below hb KQ5.out.lt)
          have KR6 := Lib.hid (KR5.out.below hb KR5.out.lt)
          have L6 := Lib.hid (L5.out.trans (hb.mono L5.out.size))
          have E6 := Lib.hid (E5.out.below hb)
          clear hb
          obtain ⟨f0, f1, f2, f3⟩ := KP6.out.c4
          obtain ⟨g0, g1, g2, g3⟩ := KQ6.out.c4
          obtain ⟨h0, h1, h2, h3⟩ := KR6.out.c4
          go_wp2_with fail
          refine Calls.mono (HV2.out _) ?_
          rintro e w7 ⟨rfl, hb⟩
          clear f0 f1 f2 f3 g0 g1 g2 g3 h0 h1 h2 h3
          have KP7 := Lib.hid (KP6.out.below hb KP6.out.lt)
          have KQ7 := Lib.hid (KQ6.out.below hb KQ6.out.lt)
          have KR7 := Lib.hid (KR6.out.below hb KR6.out.lt)
          have L7 := Lib.hid (L6.out.trans (hb.mono L6.out.size))
          have E7 := Lib.hid (E6.out.below hb)
          clear hb
          obtain ⟨f0, f1, f2, f3⟩ := KP7.out.c4
          obtain ⟨g0, g1, g2, g3⟩ := KQ7.out.c4
          obtain ⟨h0, h1, h2, h3⟩ := KR7.out.c4
          go_wp2_with fail
          refine Calls.mono (HQ.out _) ?_
          rintro e w8 ⟨rfl, hb⟩
          clear f0 f1 f2 f3 g0 g1 g2 g3 h0 h1 h2 h3
          have KP8 := Lib.hid (KP7.out.below hb KP7.out.lt)
          have KQ8 := Lib.hid (KQ7.out.below hb KQ7.out.lt)
          have KR8 := Lib.hid (KR7.out.below hb KR7.out.lt)
          have L8 := Lib.hid (L7.out.trans (hb.mono L7.out.size))
          have E8 := Lib.hid (E7.out.below hb)
          clear hb
          obtain ⟨f0, f1, f2, f3⟩ := KP8.out.c4
          obtain ⟨g0, g1, g2, g3⟩ := KQ8.out.c4
          obtain ⟨h0, h1, h2, h3⟩ := KR8.out.c4
          go_wp2_with fail
          refine Calls.mono (HT.out _) ?_
          rintro e w9 ⟨rfl, hb⟩
          clear f0 f1 f2 f3 g0 g1 g2 g3 h0 h1 h2 h3
          have KP9 := Lib.hid (KP8.out.below hb KP8.out.lt)
          have KQ9 := Lib.hid (KQ8.out.below hb KQ8.out.lt)
          have KR9 := Lib.hid (KR8.out.below hb KR8.out.lt)
          have L9 := Lib.hid (L8.out.trans (hb.mono L8.out.size))
          have E9 := Lib.hid (E8.out.below hb)
          clear hb
          obtain ⟨f0, f1, f2, f3⟩ := KP9.out.c4
          obtain ⟨g0, g1, g2, g3⟩ := KQ9.out.c4
          obtain ⟨h0, h1, h2, h3⟩ := KR9.out.c4
          go_wp2_with fail
          refine Calls.mono (HC.out _) ?_
          rintro e w10 ⟨rfl, hb⟩
          clear f0 f1 f2 f3 g0 g1 g2 g3 h0 h1 h2 h3
          have KP10 := Lib.hid (KP9.out.below hb KP9.out.lt)
          have KQ10 := Lib.hid (KQ9.out.below hb KQ9.out.lt)
          have KR10 := Lib.hid (KR9.out.below hb KR9.out.lt)
          have L10 := Lib.hid (L9.out.trans (hb.mono L9.out.size))
          have E10 := Lib.hid (E9.out.below hb)
          clear hb
          obtain ⟨f0, f1, f2, f3⟩ := KP10.out.c4
          obtain ⟨g0, g1, g2, g3⟩ := KQ10.out.c4
          obtain ⟨h0, h1, h2, h3⟩ := KR10.out.c4
          go_wp2
          all_goals
            go_ret
            exact ⟨ret_bool (by simp [*]), L10.out⟩
      · cases a0_0 <;> cases a1_0
        · exact absurd rfl c1
        · skip
          obtain ⟨f0, f1, f2, f3⟩ := KP3.out.c4
          obtain ⟨g0, g1, g2, g3⟩ := KQ3.out.c4
          obtain ⟨h0, h1, h2, h3⟩ := KR3.out.c4
          go_wp2_with fail
          refine Calls.mono (HRX.out _) ?_
          rintro e w4 ⟨rfl, hb⟩
          clear f0 f1 f2 f3 g0 g1 g2 g3 h0 h1 h2 h3
          have KP4 := Lib.hid (KP3.out.below hb KP3.out.lt)
          have KQ4 := Lib.hid (KQ3.out.below hb KQ3.out.lt)
          have KR4 := Lib.hid (KR3.out.below hb KR3.out.lt)
          have L4 := Lib.hid (L3.out.trans (hb.mono L3.out.size))
          have E4 := Lib.hid (E3.out.below hb)
          clear hb
          obtain ⟨f0, f1, f2, f3⟩ := KP4.out.c4
          obtain ⟨g0, g1, g2, g3⟩ := KQ4.out.c4
          obtain ⟨h0, h1, h2, h3⟩ := KR4.out.c4
          go_wp2_with fail
          refine Calls.mono (HPP.out _) ?_
          rintro e w5 ⟨rfl, hb⟩
          clear f0 f1 f2 f3 g0 g1 g2 g3 h0 h1 h2 h3
          have KP5 := Lib.hid (KP4.out.below hb KP4.out.lt)
          have KQ5 := Lib.hid (KQ4.out.below hb KQ4.out.lt)
          have KR5 := Lib.hid (KR4.out.below hb KR4.out.lt)
          have L5 := Lib.hid (L4.out.trans (hb.mono L4.out.size))
          have E5 := Lib.hid (E4.out.below hb)
          clear hb
          obtain ⟨f0, f1, f2, f3⟩ := KP5.out.c4
          obtain ⟨g0, g1, g2, g3⟩ := KQ5.out.c4
          obtain ⟨h0, h1, h2, h3⟩ := KR5.out.c4
          go_wp2_with fail
          refine Calls.mono (HV1.out _) ?_
          rintro e w6 ⟨rfl, hb⟩
          clear f0 f1 f2 f3 g0 g1 g2 g3 h0 h1 h2 h3
          have KP6 := Lib.hid (KP5.out.below hb KP5.out.lt)
          have KQ6 := Lib.hid (KQ5.out.below hb KQ5.out.lt)
          have KR6 := Lib.hid (KR5.out.below hb KR5.out.lt)
          have L6 := Lib.hid (L5.out.trans (hb.mono L5.out.size))
          have E6 := Lib.hid (E5.out.below hb)
          clear hb
          obtain ⟨f0, f1, f2, f3⟩ := KP6.out.c4
          obtain ⟨g0, g1, g2, g3⟩ := KQ6.out.c4
          obtain ⟨h0, h1, h2, h3⟩ := KR6.out.c4
          go_wp2_with fail
          refine Calls.mono (HV2.out _) ?_
          rintro e w7 ⟨rfl, hb⟩
          clear f0 f1 f2 f3 g0 g1 g2 g3 h0 h1 h2 h3
          have KP7 := Lib.hid (KP6.out.below hb KP6.out.lt)
          have KQ7 := Lib.hid (KQ6.out.below hb KQ6.out.lt)
          have KR7 := Lib.hid (KR6.out.below hb KR6.out.lt)
          have L7 := Lib.hid (L6.out.trans (hb.mono L6.out.size))
          have E7 := Lib.hid (E6.out.below hb)
          clear hb
          obtain ⟨f0, f1, f2, f3⟩ := KP7.out.c4
          obtain ⟨g0, g1, g2, g3⟩ := KQ7.out.c4
          obtain ⟨h0, h1, h2, h3⟩ := KR7.out.c4
          go_wp2_with fail
          refine Calls.mono (HQ.out _) ?_
          rintro e w8 ⟨rfl, hb⟩
          clear f0 f1 f2 f3 g0 g1 g2 g3 h0 h1 h2 h3
          have KP8 := Lib.hid (KP7.out.below hb KP7.out.lt)
          have KQ8 := Lib.hid (KQ7.out.below hb KQ7.out.lt)
          have KR8 := Lib.hid (KR7.out.below hb KR7.out.lt)
          have L8 := Lib.hid (L7.out.trans (hb.mono L7.out.size))
          have E8 := Lib.hid (E7.out.below hb)
          clear hb
          obtain ⟨f0, f1, f2, f3⟩ := KP8.out.c4
          obtain ⟨g0, g1, g2, g3⟩ := KQ8.out.c4
          obtain ⟨h0, h1, h2, h3⟩ := KR8.out.c4
          go_wp2_with fail
          refine Calls.mono (HT.out _) ?_
          rintro e w9 ⟨rfl, hb⟩
          clear f0 f1 f2 f3 g0 g1 g2 g3 h0 h1 h2 h3
          have KP9 := Lib.hid (KP8.out.below hb KP8.out.lt)
          have KQ9 := Lib.hid (KQ8.out.below hb KQ8.out.lt)
          have KR9 := Lib.hid (KR8.out.below hb KR8.out.lt)
          have L9 := Lib.hid (L8.out.trans (hb.mono L8.out.size))
          have E9 := Lib.hid (E8.out.below hb)
          clear hb
          obtain ⟨f0, f1, f2, f3⟩ := KP9.out.c4
          obtain ⟨g0, g1, g2, g3⟩ := KQ9.out.c4
          obtain ⟨h0, h1, h2, h3⟩ := KR9.out.c4
          go_wp2_with fail
          refine Calls.mono (HC.out _) ?_
          rintro e w10 ⟨rfl, hb⟩
          clear f0 f1 f2 f3 g0 g1 g2 g3 h0 h1 h2 h3
          have KP10 := Lib.hid (KP9.out.below hb KP9.out.lt)
          have KQ10 := Lib.hid (KQ9.out.below hb KQ9.out.lt)
          have KR10 := Lib.hid (KR9.out.below hb KR9.out.lt)
          have L10 := Lib.hid (L9.out.trans (hb.mono L9.out.size))
          have E10 := Lib.hid (E9.out.below hb)
          clear hb
          obtain ⟨f0, f1, f2, f3⟩ := KP10.out.c4
          obtain ⟨g0, g1, g2, g3⟩ := KQ10.out.c4
          obtain ⟨h0, h1, h2, h3⟩ := KR10.out.c4
          go_wp2
          all_goals
            go_ret
            exact ⟨ret_bool (by simp [*]), L10.out⟩
        · skip
          obtain ⟨f0, f1, f2, f3⟩ := KP3.out.c4
          obtain ⟨g0, g1, g2, g3⟩ := KQ3.out.c4
          obtain ⟨h0, h1, h2, h3⟩ := KR3.out.c4
          go_wp2_with fail
          refine Calls.mono (HRX.out _) ?_
          rintro e w4 ⟨rfl, hb⟩
          clear f0 f1 f2 f3 g0 g1 g2 g3 h0 h1 h2 h3
          have KP4 := Lib.hid (KP3.out.below hb KP3.out.lt)
          have KQ4 := Lib.hid (KQ3.out.below hb KQ3.out.lt)
          have KR4 := Lib.hid (KR3.out.below hb KR3.out.lt)
          have L4 := Lib.hid (L3.out.trans (hb.mono L3.out.size))
          have E4 := Lib.hid (E3.out.below hb)
          clear hb
          obtain ⟨f0, f1, f2, f3⟩ := KP4.out.c4
          obtain ⟨g0, g1, g2, g3⟩ := KQ4.out.c4
          obtain ⟨h0, h1, h2, h3⟩ := KR4.out.c4
          go_wp2_with fail
          refine Calls.mono (HPP.out _) ?_
          rintro e w5 ⟨rfl, hb⟩
          clear f0 f1 f2 f3 g0 g1 g2 g3 h0 h1 h2 h3
          have KP5 := Lib.hid (KP4.out.below hb KP4.out.lt)
          have KQ5 := Lib.hid (KQ4.out.below hb KQ4.out.lt)
          have KR5 := Lib.hid (KR4.out.below hb KR4.out.lt)
          have L5 := Lib.hid (L4.out.trans (hb.mono L4.out.size))
          have E5 := Lib.hid (E4.out.below hb)
          clear hb
          obtain ⟨f0, f1, f2, f3⟩ := KP5.out.c4
          obtain ⟨g0, g1, g2, g3⟩ := KQ5.out.c4
          obtain ⟨h0, h1, h2, h3⟩ := KR5.out.c4
          go_wp2_with fail
          refine Calls.mono (HV1.out _) ?_
          rintro e w6 ⟨rfl, hb⟩
          clear f0 f1 f2 f3 g0 g1 g2 g3 h0 h1 h2 h3
          have KP6 := Lib.hid (KP5.out.below hb KP5.out.lt)
          have KQ6 := Lib.hid (KQ5.out.below hb KQ5.out.lt)
          have KR6 := Lib.hid (KR5.out.below hb KR5.out.lt)
          have L6 := Lib.hid (L5.out.trans (hb.mono L5.out.size))
          have E6 := Lib.hid (E5.out.below hb)
          clear hb
          obtain ⟨f0, f1, f2, f3⟩ := KP6.out.c4
          obtain ⟨g0, g1, g2, g3⟩ := KQ6.out.c4
          obtain ⟨h0, h1, h2, h3⟩ := KR6.out.c4
          go_wp2_with fail
          refine Calls.mono (HV2.out _) ?_
          rintro e w7 ⟨rfl, hb⟩
          clear f0 f1 f2 f3 g0 g1 g2 g3 h0 h1 h2 h3
          have KP7 := Lib.hid (KP6.out.below hb KP6.out.lt)
          have KQ7 := Lib.hid (KQ6.out.below hb KQ6.out.lt)
          have KR7 := Lib.hid (KR6.out.below hb KR6.out.lt)
          have L7 := Lib.hid (L6.out.trans (hb.mono L6.out.size))
          have E7 := Lib.hid (E6.out.below hb)
          clear hb
          obtain ⟨f0, f1, f2, f3⟩ := KP7.out.c4
          obtain ⟨g0, g1, g2, g3⟩ := KQ7.out.c4
          obtain ⟨h0, h1, h2, h3⟩ := KR7.out.c4
          go_wp2_with fail
          refine Calls.mono (HQ.out _) ?_
          rintro e w8 ⟨rfl, hb⟩
          clear f0 f1 f2 f3 g0 g1 g2 g3 h0 h1 h2 h3
          have KP8 := Lib.hid (KP7.out.below hb KP7.out.lt)
          have KQ8 := Lib.hid (KQ7.out.below hb KQ7.out.lt)
          have KR8 := Lib.hid (KR7.out.below hb KR7.out.lt)
          have L8 := Lib.hid (L7.out.trans (hb.mono L7.out.size))
          have E8 := Lib.hid (E7.out.below hb)
          clear hb
          obtain ⟨f0, f1, f2, f3⟩ := KP8.out.c4
          obtain ⟨g0, g1, g2, g3⟩ := KQ8.out.c4
          obtain ⟨h0, h1, h2, h3⟩ := KR8.out.c4
          go_wp2_with fail
          refine Calls.mono (HT.out _) ?_
          rintro e w9 ⟨rfl, hb⟩
          clear f0 f1 f2 f3 g0 g1 g2 g3 h0 h1 h2 h3
          have KP9 := Lib.hid (KP8.out.below hb KP8.out.lt)
          have KQ9 := Lib.hid (KQ8.out.below hb KQ8.out.lt)
          have KR9 := Lib.hid (KR8.out.below hb KR8.out.lt)
          have L9 := Lib.hid (L8.out.trans (hb.mono L8.out.size))
          have E9 := Lib.hid (E8.out.below hb)
          clear hb
          obtain ⟨f0, f1, f2, f3⟩ := KP9.out.c4
          obtain ⟨g0, g1, g2, g3⟩ := KQ9.out.c4
          obtain ⟨h0, h1, h2, h3⟩ := KR9.out.c4
          go_wp2_with fail
          refine Calls.mono (HC.out _) ?_
          rintro e w10 ⟨rfl, hb⟩
          clear f0 f1 f2 f3 g0 g1 g2 g3 h0 h1 h2 h3
          have KP10 := Lib.hid (KP9.out.below hb KP9.out.lt)
          have KQ10 := Lib.hid (KQ9.out.below hb KQ9.out.lt)
          have KR10 := Lib.hid (KR9.out.below hb KR9.out.lt)
          have L10 := Lib.hid (L9.out.trans (hb.mono L9.out.size))
          have E10 := Lib.hid (E9.out.below hb)
          clear hb
          obtain ⟨f0, f1, f2, f3⟩ := KP10.out.c4
          obtain ⟨g0, g1, g2, g3⟩ := KQ10.out.c4
          obtain ⟨h0, h1, h2, h3⟩ := KR10.out.c4
          go_wp2
          all_goals
            go_ret
            exact ⟨ret_bool (by simp [*]), L10.out⟩
        · exact absurd rfl c1
  · obtain ⟨v1, v2, ne⟩ := N.out rfl
    have NE := Lib.hid ne
    subst v1 v2
    clear ne
    have hc : c = false := by
      have := C.out.2.2
      cases c <;> simp_all
    subst hc
    by_cases c1 : a0_0 = a1_0
    · subst c1
      by_cases c2 : A = C'
      · subst c2
        by_cases c3 : B = D'
        · subst c3
          have c4 : ¬ a0_3 = a1_3 := fun e => NE.out ⟨rfl, rfl, rfl, e⟩
          obtain ⟨f0, f1, f2, f3⟩ := KP3.out.c4
          obtain ⟨g0, g1, g2, g3⟩ := KQ3.out.c4
          obtain ⟨h0, h1, h2, h3⟩ := KR3.out.c4
          go_wp2_with fail
          refine Calls.mono (HRX.out _) ?_
          rintro e w4 ⟨rfl, hb⟩
          clear f0 f1 f2 f3 g0 g1 g2 g3 h0 h1 h2 h3
          have KP4 := Lib.hid (KP3.out.below hb KP3.out.lt)
          have KQ4 := Lib.hid (KQ3.out.below hb KQ3.out.lt)
          have KR4 := Lib.hid (KR3.out.below hb KR3.out.lt)
          have L4 := Lib.hid (L3.out.trans (hb.mono L3.out.size))
          have E4 := Lib.hid (E3.out.below hb)
          clear hb
          obtain ⟨f0, f1, f2, f3⟩ := KP4.out.c4
          obtain ⟨g0, g1, g2, g3⟩ := KQ4.out.c4
          obtain ⟨h0, h1, h2, h3⟩ := KR4.out.c4
          go_wp2_with fail
          refine Calls.mono (HPP.out _) ?_
          rintro e w5 ⟨rfl, hb⟩
          clear f0 f1 f2 f3 g0 g1 g2 g3 h0 h1 h2 h3
          have KP5 := Lib.hid (KP4.out.below hb KP4.out.lt)
          have KQ5 := Lib.hid (KQ4.out.below hb KQ4.out.lt)
          have KR5 := Lib.hid (KR4.out.below hb KR4.out.lt)
          have L5 := Lib.hid (L4.out.trans (hb.mono L4.out.size))
          have E5 := Lib.hid (E4.out.below hb)
          clear hb
          obtain ⟨f0, f1, f2, f3⟩ := KP5.out.c4
          obtain ⟨g0, g1, g2, g3⟩ := KQ5.out.c4
          obtain ⟨h0, h1, h2, h3⟩ := KR5.out.c4
          go_wp2_with fail
          refine Calls.mono (HV1.out _) ?_
          rintro e w6 ⟨rfl, hb⟩
          clear f0 f1 f2 f3 g0 g1 g2 g3 h0 h1 h2 h3
          have KP6 := Lib.hid (KP5.out.below hb KP5.out.lt)
          have KQ6 := Lib.hid (KQ5.out.below hb KQ5.out.lt)
          have KR6 := Lib.hid (KR5.out.below hb KR5.out.lt)
          have L6 := Lib.hid (L5.out.trans (hb.mono L5.out.size))
          have E6 := Lib.hid (E5.out.below hb)
          clear hb
          obtain ⟨f0, f1, f2, f3⟩ := KP6.out.c4
          obtain ⟨g0, g1, g2, g3⟩ := KQ6.out.c4
          obtain ⟨h0, h1, h2, h3⟩ := KR6.out.c4
          go_wp2_with fail
          refine Calls.mono (HV2.out _) ?_
          rintro e w7 ⟨rfl, hb⟩
          clear f0 f1 f2 f3 g0 g1 g2 g3 h0 h1 h2 h3
          have KP7 := Lib.hid (KP6.out.below hb KP6.out.lt)
          have KQ7 := Lib.hid (KQ6.out.below hb KQ6.out.lt)
          have KR7 := Lib.hid (KR6.out.below hb KR6.out.lt)
          have L7 := Lib.hid (L6.out.trans (hb.mono L6.out.size))
          have E7 := Lib.hid (E6.out.below hb)
          clear hb
          obtain ⟨f0, f1, f2, f3⟩ := KP7.out.c4
          obtain ⟨g0, g1, g2, g3⟩ := KQ7.out.c4
          obtain ⟨h0, h1, h2, h3⟩ := KR7.out.c4
          go_wp2_with fail
          refine Calls.mono (HC.out _) ?_
          rintro e w8 ⟨rfl, hb⟩
          clear f0 f1 f2 f3 g0 g1 g2 g3 h0 h1 h2 h3
          have KP8 := Lib.hid (KP7.out.below hb KP7.out.lt)
          have KQ8 := Lib.hid (KQ7.out.below hb KQ7.out.lt)
          have KR8 := Lib.hid (KR7.out.below hb KR7.out.lt)
          have L8 := Lib.hid (L7.out.trans (hb.mono L7.out.size))
          have E8 := Lib.hid (E7.out.below hb)
          clear hb
          obtain ⟨f0, f1, f2, f3⟩ := KP8.out.c4
          obtain ⟨g0, g1, g2, g3⟩ := KQ8.out.c4
          obtain ⟨h0, h1, h2, h3⟩ := KR8.out.c4
          go_wp2
          all_goals
            go_ret
            exact ⟨ret_bool (by simp [*]), L8.out⟩
        · skip
          obtain ⟨f0, f1, f2, f3⟩ := KP3.out.c4
          obtain ⟨g0, g1, g2, g3⟩ := KQ3.out.c4
          obtain ⟨h0, h1, h2, h3⟩ := KR3.out.c4
          go_wp2_with fail
          refine Calls.mono (HRX.out _) ?_
          rintro e w4 ⟨rfl, hb⟩
          clear f0 f1 f2 f3 g0 g1 g2 g3 h0 h1 h2 h3
          have KP4 := Lib.hid (KP3.out.below hb KP3.out.lt)
          have KQ4 := Lib.hid (KQ3.out.below hb KQ3.out.lt)
          have KR4 := Lib.hid (KR3.out.below hb KR3.out.lt)
          have L4 := Lib.hid (L3.out.trans (hb.mono L3.out.size))
          have E4 := Lib.hid (E3.out.below hb)
          clear hb
          obtain ⟨f0, f1, f2, f3⟩ := KP4.out.c4
          obtain ⟨g0, g1, g2, g3⟩ := KQ4.out.c4
          obtain ⟨h0, h1, h2, h3⟩ := KR4.out.c4
          go_wp2_with fail
          refine Calls.mono (HPP.out _) ?_
          rintro e w5 ⟨rfl, hb⟩
          clear f0 f1 f2 f3 g0 g1 g2 g3 h0 h1 h2 h3
          have KP5 := Lib.hid (KP4.out.below hb KP4.out.lt)
          have KQ5 := Lib.hid (KQ4.out.below hb KQ4.out.lt)
          have KR5 := Lib.hid (KR4.out.below hb KR4.out.lt)
          have L5 := Lib.hid (L4.out.trans (hb.mono L4.out.size))
          have E5 := Lib.hid (E4.out.below hb)
          clear hb
          obtain ⟨f0, f1, f2, f3⟩ := KP5.out.c4
          obtain ⟨g0, g1, g2, g3⟩ := KQ5.out.c4
          obtain ⟨h0, h1, h2, h3⟩ := KR5.out.c4
          go_wp2_with fail
          refine Calls.mono (HV1.out _) ?_
          rintro e w6 ⟨rfl, hb⟩
          clear f0 f1 f2 f3 g0 g1 g2 g3 h0 h1 h2 h3
          have KP6 := Lib.hid (KP5.out.below hb KP5.out.lt)
          have KQ6 := Lib.hid (KQ5.out.below hb KQ5.out.lt)
          have KR6 := Lib.hid (KR5.out.below hb KR5.out.lt)
          have L6 := Lib.hid (L5.out.trans (hb.mono L5.out.size))
          have E6 := Lib.hid (E5.out.below hb)
          clear hb
          obtain ⟨f0, f1, f2, f3⟩ := KP6.out.c4
          obtain ⟨g0, g1, g2, g3⟩ := KQ6.out.c4
          obtain ⟨h0, h1, h2, h3⟩ := KR6.out.c4
          go_wp2_with fail
          refine Calls.mono (HV2.out _) ?_
          rintro e w7 ⟨rfl, hb⟩
          clear f0 f1 f2 f3 g0 g1 g2 g3 h0 h1 h2 h3
          have KP7 := Lib.hid (KP6.out.below hb KP6.out.lt)
          have KQ7 := Lib.hid (KQ6.out.below hb KQ6.out.lt)
          have KR7 := Lib.hid (KR6.out.below hb KR6.out.lt)
          have L7 := Lib.hid (L6.out.trans (hb.mono L6.out.size))
          have E7 := Lib.hid (E6.out.below hb)
          clear hb
          obtain ⟨f0, f1, f2, f3⟩ := KP7.out.c4
          obtain ⟨g0, g1, g2, g3⟩ := KQ7.out.c4
          obtain ⟨h0, h1, h2, h3⟩ := KR7.out.c4
          go_wp2_with fail
          refine Calls.mono (HC.out _) ?_
          rintro e w8 ⟨rfl, hb⟩
          clear f0 f1 f2 f3 g0 g1 g2 g3 h0 h1 h2 h3
          have KP8 := Lib.hid (KP7.out.below hb KP7.out.lt)
          have KQ8 := Lib.hid (KQ7.out.below hb KQ7.out.lt)
          have KR8 := Lib.hid (KR7.out.below hb KR7.out.lt)
          have L8 := Lib.hid (L7.out.trans (hb.mono L7.out.size))
          have E8 := Lib.hid (E7.out.below hb)
          clear hb
          obtain ⟨f0, f1, f2, f3⟩ := KP8.out.c4
          obtain ⟨g0, g1, g2, g3⟩ := KQ8.out.c4
          obtain ⟨h0, h1, h2, h3⟩ := KR8.out.c4
          go_wp2
          all_goals
            go_ret
            exact ⟨ret_bool (by simp [*]), L8.out⟩
      · skip
        obtain ⟨f0, f1, f2, f3⟩ := KP3.out.c4
        obtain ⟨g0, g1, g2, g3⟩ := KQ3.out.c4
        obtain ⟨h0, h1, h2, h3⟩ := KR3.out.c4
        go_wp2_with fail
        refine Calls.mono (HRX.out _) ?_
        rintro e w4 ⟨rfl, hb⟩
        clear f0 f1 f2 f3 g0 g1 g2 g3 h0 h1 h2 h3
        have KP4 := Lib.hid (KP3.out.below hb KP3.out.lt)
        have KQ4 := Lib.hid (KQ3.out.below hb KQ3.out.lt)
        have KR4 := Lib.hid (KR3.out.below hb KR3.out.lt)
        have L4 := Lib.hid (L3.out.trans (hb.mono L3.out.size))
        have E4 := Lib.hid (E3.out.below hb)
        clear hb
        obtain ⟨f0, f1, f2, f3⟩ := KP4.out.c4
        obtain ⟨g0, g1, g2, g3⟩ := KQ4.out.c4
        obtain ⟨h0, h1, h2, h3⟩ := KR4.out.c4
        go_wp2_with fail
        refine Calls.mono (HPP.out _) ?_
        rintro e w5 ⟨rfl, hb⟩
        clear f0 f1 f2 f3 g0 g1 g2 g3 h0 h1 h2 h3
        have KP5 := Lib.hid (KP4.out.below hb KP4.out.lt)
        have KQ5 := Lib.hid (KQ4.out.below hb KQ4.out.lt)
        have KR5 := Lib.hid (KR4.out.below hb KR4.out.lt)
        have L5 := Lib.hid (L4.out.trans (hb.mono L4.out.size))
        have E5 := Lib.hid (E4.out.below hb)
        clear hb
        obtain ⟨f0, f1, f2, f3⟩ := KP5.out.c4
        obtain ⟨g0, g1, g2, g3⟩ := KQ5.out.c4
        obtain ⟨h0, h1, h2, h3⟩ := KR5.out.c4
        go_wp2_with fail
        refine Calls.mono (HV1.out _) ?_
        rintro e w6 ⟨rfl, hb⟩
        clear f0 f1 f2 f3 g0 g1 g2 g3 h0 h1 h2 h3
        have KP6 := Lib.hid (KP5.out.below hb KP5.out.lt)
        have KQ6 := Lib.hid (KQ5.out.below hb KQ5.out.lt)
        have KR6 := Lib.hid (KR5.out.below hb KR5.out.lt)
        have L6 := Lib.hid (L5.out.trans (hb.mono L5.out.size))
        have E6 := Lib.hid (E5.out.below hb)
        clear hb
        obtain ⟨f0, f1, f2, f3⟩ := KP6.out.c4
        obtain ⟨g0, g1, g2, g3⟩ := KQ6.out.c4
        obtain ⟨h0, h1, h2, h3⟩ := KR6.out.c4
        go_wp2_with fail
        refine Calls.mono (HV2.out _) ?_
        rintro e w7 ⟨rfl, hb⟩
        clear f0 f1 f2 f3 g0 g1 g2 g3 h0 h1 h2 h3
        have KP7 := Lib.hid (KP6.out.below hb KP6.out.lt)
        have KQ7 := Lib.hid (KQ6.out.below hb KQ6.out.lt)
        have KR7 := Lib.hid (KR6.out.below hb KR6.out.lt)
        have L7 := Lib.hid (L6.out.trans (hb.mono L6.out.size))
        have E7 := Lib.hid (E6.out.below hb)
        clear hb
        obtain ⟨f0, f1, f2, f3⟩ := KP7.out.c4
        obtain ⟨g0, g1, g2, g3⟩ := KQ7.out.c4
        obtain ⟨h0, h1, h2, h3⟩ := KR7.out.c4
        go_wp2_with fail
        refine Calls.mono (HC.out _) ?_
        rintro e w8 ⟨rfl, hb⟩
        clear f0 f1 f2 f3 g0 g1 g2 g3 h0 h1 h2 h3
        have KP8 := Lib.hid (KP7.out.below hb KP7.out.lt)
        have KQ8 := Lib.hid (KQ7.out.below hb KQ7.out.lt)
        have KR8 := Lib.hid (KR7.out.below hb KR7.out.lt)
        have L8 := Lib.hid (L7.out.trans (hb.mono L7.out.size))
        have E8 := Lib.hid (E7.out.below hb)
        clear hb
        obtain ⟨f0, f1, f2, f3⟩ := KP8.out.c4
        obtain ⟨g0, g1, g2, g3⟩ := KQ8.out.c4
        obtain ⟨h0, h1, h2, h3⟩ := KR8.out.c4
        go_wp2
        all_goals
          go_ret
          exact ⟨ret_bool (by simp [*]), L8.out⟩
    · cases a0_0 <;> cases a1_0
      · exact absurd rfl c1
      · skip
        obtain ⟨f0, f1, f2, f3⟩ := KP3.out.c4
        obtain ⟨g0, g1, g2, g3⟩ := KQ3.out.c4
        obtain ⟨h0, h1, h2, h3⟩ := KR3.out.c4
        go_wp2_with fail
        refine Calls.mono (HRX.out _) ?_
        rintro e w4 ⟨rfl, hb⟩
        clear f0 f1 f2 f3 g0 g1 g2 g3 h0 h1 h2 h3
        have KP4 := Lib.hid (KP3.out.below hb KP3.out.lt)
        have KQ4 := Lib.hid (KQ3.out.below hb KQ3.out.lt)
        have KR4 := Lib.hid (KR3.out.below hb KR3.out.lt)
        have L4 := Lib.hid (L3.out.trans (hb.mono L3.out.size))
        have E4 := Lib.hid (E3.out.below hb)
        clear hb
        obtain ⟨f0, f1, f2, f3⟩ := KP4.out.c4
        obtain ⟨g0, g1, g2, g3⟩ := KQ4.out.c4
        obtain ⟨h0, h1, h2, h3⟩ := KR4.out.c4
        go_wp2_with fail
        refine Calls.mono (HPP.out _) ?_
        rintro e w5 ⟨rfl, hb⟩
        clear f0 f1 f2 f3 g0 g1 g2 g3 h0 h1 h2 h3
        have KP5 := Lib.hid (KP4.out.below hb KP4.out.lt)
        have KQ5 := Lib.hid (KQ4.out.below hb KQ4.out.lt)
        have KR5 := Lib.hid (KR4.out.below hb KR4.out.lt)
        have L5 := Lib.hid (L4.out.trans (hb.mono L4.out.size))
        have E5 := Lib.hid (E4.out.below hb)
        clear hb
        obtain ⟨f0, f1, f2, f3⟩ := KP5.out.c4
        obtain ⟨g0, g1, g2, g3⟩ := KQ5.out.c4
        obtain ⟨h0, h1, h2, h3⟩ := KR5.out.c4
        go_wp2_with fail
        refine Calls.mono (HV1.out _) ?_
        rintro e w6 ⟨rfl, hb⟩
        clear f0 f1 f2 f3 g0 g1 g2 g3 h0 h1 h2 h3
        have KP6 := Lib.hid (KP5.out.below hb KP5.out.lt)
        have KQ6 := Lib.hid (KQ5.out.below hb KQ5.out.lt)
        have KR6 := Lib.hid (KR5.out.below hb KR5.out.lt)
        have L6 := Lib.hid (L5.out.trans (hb.mono L5.out.size))
        have E6 := Lib.hid (E5.out.below hb)
        clear hb
        obtain ⟨f0, f1, f2, f3⟩ := KP6.out.c4
        obtain ⟨g0, g1, g2, g3⟩ := KQ6.out.c4
        obtain ⟨h0, h1, h2, h3⟩ := KR6.out.c4
        go_wp2_with fail
        refine Calls.mono (HV2.out _) ?_
        rintro e w7 ⟨rfl, hb⟩
        clear f0 f1 f2 f3 g0 g1 g2 g3 h0 h1 h2 h3
        have KP7 := Lib.hid (KP6.out.below hb KP6.out.lt)
        have KQ7 := Lib.hid (KQ6.out.below hb KQ6.out.lt)
        have KR7 := Lib.hid (KR6.out.below hb KR6.out.lt)
        have L7 := Lib.hid (L6.out.trans (hb.mono L6.out.size))
        have E7 := Lib.hid (E6.out.below hb)
        clear hb
        obtain ⟨f0, f1, f2, f3⟩ := KP7.out.c4
        obtain ⟨g0, g1, g2, g3⟩ := KQ7.out.c4
        obtain ⟨h0, h1, h2, h3⟩ := KR7.out.c4
        go_wp2_with fail
        refine Calls.mono (HC.out _) ?_
        rintro e w8 ⟨rfl, hb⟩
        clear f0 f1 f2 f3 g0 g1 g2 g3 h0 h1 h2 h3
        have KP8 := Lib.hid (KP7.out.below hb KP7.out.lt)
        have KQ8 := Lib.hid (KQ7.out.below hb KQ7.out.lt)
        have KR8 := Lib.hid (KR7.out.below hb KR7.out.lt)
        have L8 := Lib.hid (L7.out.trans (hb.mono L7.out.size))
        have E8 := Lib.hid (E7.out.below hb)
        clear hb
        obtain ⟨f0, f1, f2, f3⟩ := KP8.out.c4
        obtain ⟨g0, g1, g2, g3⟩ := KQ8.out.c4
        obtain ⟨h0, h1, h2, h3⟩ := KR8.out.c4
        go_wp2
        all_goals
          go_ret
          exact ⟨ret_bool (by simp [*]), L8.out⟩
      · skip
        obtain ⟨f0, f1, f2, f3⟩ := KP3.out.c4
        obtain ⟨g0, g1, g2, g3⟩ := KQ3.out.c4
        obtain ⟨h0, h1, h2, h3⟩ := KR3.out.c4
        go_wp2_with fail
        refine Calls.mono (HRX.out _) ?_
        rintro e w4 ⟨rfl, hb⟩
        clear f0 f1 f2 f3 g0 g1 g2 g3 h0 h1 h2 h3
        have KP4 := Lib.hid (KP3.out.below hb KP3.out.lt)
        have KQ4 := Lib.hid (KQ3.out.below hb KQ3.out.lt)
        have KR4 := Lib.hid (KR3.out.below hb KR3.out.lt)
        have L4 := Lib.hid (L3.out.trans (hb.mono L3.out.size))
        have E4 := Lib.hid (E3.out.below hb)
        clear hb
        obtain ⟨f0, f1, f2, f3⟩ := KP4.out.c4
        obtain ⟨g0, g1, g2, g3⟩ := KQ4.out.c4
        obtain ⟨h0, h1, h2, h3⟩ := KR4.out.c4
        go_wp2_with fail
        refine Calls.mono (HPP.out _) ?_
        rintro e w5 ⟨rfl, hb⟩
        clear f0 f1 f2 f3 g0 g1 g2 g3 h0 h1 h2 h3
        have KP5 := Lib.hid (KP4.out.below hb KP4.out.lt)
        have KQ5 := Lib.hid (KQ4.out.below hb KQ4.out.lt)
        have KR5 := Lib.hid (KR4.out.below hb KR4.out.lt)
        have L5 := Lib.hid (L4.out.trans (hb.mono L4.out.size))
        have E5 := Lib.hid (E4.out.below hb)
        clear hb
        obtain ⟨f0, f1, f2, f3⟩ := KP5.out.c4
        obtain ⟨g0, g1, g2, g3⟩ := KQ5.out.c4
        obtain ⟨h0, h1, h2, h3⟩ := KR5.out.c4
        go_wp2_with fail
        refine Calls.mono (HV1.out _) ?_
        rintro e w6 ⟨rfl, hb⟩
        clear f0 f1 f2 f3 g0 g1 g2 g3 h0 h1 h2 h3
        have KP6 := Lib.hid (KP5.out.below hb KP5.out.lt)
        have KQ6 := Lib.hid (KQ5.out.below hb KQ5.out.lt)
        have KR6 := Lib.hid (KR5.out.below hb KR5.out.lt)
        have L6 := Lib.hid (L5.out.trans (hb.mono L5.out.size))
        have E6 := Lib.hid (E5.out.below hb)
        clear hb
        obtain ⟨f0, f1, f2, f3⟩ := KP6.out.c4
        obtain ⟨g0, g1, g2, g3⟩ := KQ6.out.c4
        obtain ⟨h0, h1, h2, h3⟩ := KR6.out.c4
        go_wp2_with fail
        refine Calls.mono (HV2.out _) ?_
        rintro e w7 ⟨rfl, hb⟩
        clear f0 f1 f2 f3 g0 g1 g2 g3 h0 h1 h2 h3
        have KP7 := Lib.hid (KP6.out.below hb KP6.out.lt)
        have KQ7 := Lib.hid (KQ6.out.below hb KQ6.out.lt)
        have KR7 := Lib.hid (KR6.out.below hb KR6.out.lt)
        have L7 := Lib.hid (L6.out.trans (hb.mono L6.out.size))
        have E7 := Lib.hid (E6.out.below hb)
        clear hb
        obtain ⟨f0, f1, f2, f3⟩ := KP7.out.c4
        obtain ⟨g0, g1, g2, g3⟩ := KQ7.out.c4
        obtain ⟨h0, h1, h2, h3⟩ := KR7.out.c4
        go_wp2_with fail
        refine Calls.mono (HC.out _) ?_
        rintro e w8 ⟨rfl, hb⟩
        clear f0 f1 f2 f3 g0 g1 g2 g3 h0 h1 h2 h3
        have KP8 := Lib.hid (KP7.out.below hb KP7.out.lt)
        have KQ8 := Lib.hid (KQ7.out.below hb KQ7.out.lt)
        have KR8 := Lib.hid (KR7.out.below hb KR7.out.lt)
        have L8 := Lib.hid (L7.out.trans (hb.mono L7.out.size))
        have E8 := Lib.hid (E7.out.below hb)
        clear hb
        obtain ⟨f0, f1, f2, f3⟩ := KP8.out.c4
        obtain ⟨g0, g1, g2, g3⟩ := KQ8.out.c4
        obtain ⟨h0, h1, h2, h3⟩ := KR8.out.c4
        go_wp2
        all_goals
          go_ret
          exact ⟨ret_bool (by simp [*]), L8.out⟩
      · exact absurd rfl c1
  · cases V1
    · skip
      obtain ⟨f0, f1, f2, f3⟩ := KP3.out.c4
      obtain ⟨g0, g1, g2, g3⟩ := KQ3.out.c4
      obtain ⟨h0, h1, h2, h3⟩ := KR3.out.c4
      go_wp2_with fail
      refine Calls.mono (HRX.out _) ?_
      rintro e w4 ⟨rfl, hb⟩
      clear f0 f1 f2 f3 g0 g1 g2 g3 h0 h1 h2 h3
      have KP4 := Lib.hid (KP3.out.below hb KP3.out.lt)
      have KQ4 := Lib.hid (KQ3.out.below hb KQ3.out.lt)
      have KR4 := Lib.hid (KR3.out.below hb KR3.out.lt)
      have L4 := Lib.hid (L3.out.trans (hb.mono L3.out.size))
      have E4 := Lib.hid (E3.out.below hb)
      clear hb
      obtain ⟨f0, f1, f2, f3⟩ := KP4.out.c4
      obtain ⟨g0, g1, g2, g3⟩ := KQ4.out.c4
      obtain ⟨h0, h1, h2, h3⟩ := KR4.out.c4
      go_wp2_with fail
      refine Calls.mono (HPP.out _) ?_
      rintro e w5 ⟨rfl, hb⟩
      clear f0 f1 f2 f3 g0 g1 g2 g3 h0 h1 h2 h3
      have KP5 := Lib.hid (KP4.out.below hb KP4.out.lt)
      have KQ5 := Lib.hid (KQ4.out.below hb KQ4.out.lt)
      have KR5 := Lib.hid (KR4.out.below hb KR4.out.lt)
      have L5 := Lib.hid (L4.out.trans (hb.mono L4.out.size))
      have E5 := Lib.hid (E4.out.below hb)
      clear hb
      obtain ⟨f0, f1, f2, f3⟩ := KP5.out.c4
      obtain ⟨g0, g1, g2, g3⟩ := KQ5.out.c4
      obtain ⟨h0, h1, h2, h3⟩ := KR5.out.c4
      go_wp2_with fail
      refine Calls.mono (HV1.out _) ?_
      rintro e w6 ⟨rfl, hb⟩
      clear f0 f1 f2 f3 g0 g1 g2 g3 h0 h1 h2 h3
      have KP6 := Lib.hid (KP5.out.below hb KP5.out.lt)
      have KQ6 := Lib.hid (KQ5.out.below hb KQ5.out.lt)
      have KR6 := Lib.hid (KR5.out.below hb KR5.out.lt)
      have L6 := Lib.hid (L5.out.trans (hb.mono L5.out.size))
      have E6 := Lib.hid (E5.out.below hb)
      clear hb
      obtain ⟨f0, f1, f2, f3⟩ := KP6.out.c4
      obtain ⟨g0, g1, g2, g3⟩ := KQ6.out.c4
      obtain ⟨h0, h1, h2, h3⟩ := KR6.out.c4
      go_wp2_with fail
      refine Calls.mono (HC.out _) ?_
      rintro e w7 ⟨rfl, hb⟩
      clear f0 f1 f2 f3 g0 g1 g2 g3 h0 h1 h2 h3
      have KP7 := Lib.hid (KP6.out.below hb KP6.out.lt)
      have KQ7 := Lib.hid (KQ6.out.below hb KQ6.out.lt)
      have KR7 := Lib.hid (KR6.out.below hb KR6.out.lt)
      have L7 := Lib.hid (L6.out.trans (hb.mono L6.out.size))
      have E7 := Lib.hid (E6.out.below hb)
      clear hb
      obtain ⟨f0, f1, f2, f3⟩ := KP7.out.c4
      obtain ⟨g0, g1, g2, g3⟩ := KQ7.out.c4
      obtain ⟨h0, h1, h2, h3⟩ := KR7.out.c4
      go_wp2
      all_goals
        go_ret
        exact ⟨ret_bool (by simp [*]), L7.out⟩
    · cases V2
      · skip
        obtain ⟨f0, f1, f2, f3⟩ := KP3.out.c4
        obtain ⟨g0, g1, g2, g3⟩ := KQ3.out.c4
        obtain ⟨h0, h1, h2, h3⟩ := KR3.out.c4
        go_wp2_with fail
        refine Calls.mono (HRX.out _) ?_
        rintro e w4 ⟨rfl, hb⟩
        clear f0 f1 f2 f3 g0 g1 g2 g3 h0 h1 h2 h3
        have KP4 := Lib.hid (KP3.out.below hb KP3.out.lt)
        have KQ4 := Lib.hid (KQ3.out.below hb KQ3.out.lt)
        have KR4 := Lib.hid (KR3.out.below hb KR3.out.lt)
        have L4 := Lib.hid (L3.out.trans (hb.mono L3.out.size))
        have E4 := Lib.hid (E3.out.below hb)
        clear hb
        obtain ⟨f0, f1, f2, f3⟩ := KP4.out.c4
        obtain ⟨g0, g1, g2, g3⟩ := KQ4.out.c4
        obtain ⟨h0, h1, h2, h3⟩ := KR4.out.c4
        go_wp2_with fail
        refine Calls.mono (HPP.out _) ?_
        rintro e w5 ⟨rfl, hb⟩
        clear f0 f1 f2 f3 g0 g1 g2 g3 h0 h1 h2 h3
        have KP5 := Lib.hid (KP4.out.below hb KP4.out.lt)
        have KQ5 := Lib.hid (KQ4.out.below hb KQ4.out.lt)
        have KR5 := Lib.hid (KR4.out.below hb KR4.out.lt)
        have L5 := Lib.hid (L4.out.trans (hb.mono L4.out.size))
        have E5 := Lib.hid (E4.out.below hb)
        clear hb
        obtain ⟨f0, f1, f2, f3⟩ := KP5.out.c4
        obtain ⟨g0, g1, g2, g3⟩ := KQ5.out.c4
        obtain ⟨h0, h1, h2, h3⟩ := KR5.out.c4
        go_wp2_with fail
        refine Calls.mono (HV1.out _) ?_
        rintro e w6 ⟨rfl, hb⟩
        clear f0 f1 f2 f3 g0 g1 g2 g3 h0 h1 h2 h3
        have KP6 := Lib.hid (KP5.out.below hb KP5.out.lt)
        have KQ6 := Lib.hid (KQ5.out.below hb KQ5.out.lt)
        have KR6 := Lib.hid (KR5.out.below hb KR5.out.lt)
        have L6 := Lib.hid (L5.out.trans (hb.mono L5.out.size))
        have E6 := Lib.hid (E5.out.below hb)
        clear hb
        obtain ⟨f0, f1, f2, f3⟩ := KP6.out.c4
        obtain ⟨g0, g1, g2, g3⟩ := KQ6.out.c4
        obtain ⟨h0, h1, h2, h3⟩ := KR6.out.c4
        go_wp2_with fail
        refine Calls.mono (HV2.out _) ?_
        rintro e w7 ⟨rfl, hb⟩
        clear f0 f1 f2 f3 g0 g1 g2 g3 h0 h1 h2 h3
        have KP7 := Lib.hid (KP6.out.below hb KP6.out.lt)
        have KQ7 := Lib.hid (KQ6.out.below hb KQ6.out.lt)
        have KR7 := Lib.hid (KR6.out.below hb KR6.out.lt)
        have L7 := Lib.hid (L6.out.trans (hb.mono L6.out.size))
        have E7 := Lib.hid (E6.out.below hb)
        clear hb
        obtain ⟨f0, f1, f2, f3⟩ := KP7.out.c4
        obtain ⟨g0, g1, g2, g3⟩ := KQ7.out.c4
        obtain ⟨h0, h1, h2, h3⟩ := KR7.out.c4
        go_wp2_with fail
        refine Calls.mono (HC.out _) ?_
        rintro e w8 ⟨rfl, hb⟩
        clear f0 f1 f2 f3 g0 g1 g2 g3 h0 h1 h2 h3
        have KP8 := Lib.hid (KP7.out.below hb KP7.out.lt)
        have KQ8 := Lib.hid (KQ7.out.below hb KQ7.out.lt)
        have KR8 := Lib.hid (KR7.out.below hb KR7.out.lt)
        have L8 := Lib.hid (L7.out.trans (hb.mono L7.out.size))
        have E8 := Lib.hid (E7.out.below hb)
        clear hb
        obtain ⟨f0, f1, f2, f3⟩ := KP8.out.c4
        obtain ⟨g0, g1, g2, g3⟩ := KQ8.out.c4
        obtain ⟨h0, h1, h2, h3⟩ := KR8.out.c4
        go_wp2
        all_goals
          go_ret
          exact ⟨ret_bool (by simp [*]), L8.out⟩
      · obtain ⟨rfl, rfl, rfl, rfl⟩ := D.out rfl
        obtain ⟨f0, f1, f2, f3⟩ := KP3.out.c4
        obtain ⟨g0, g1, g2, g3⟩ := KQ3.out.c4
        obtain ⟨h0, h1, h2, h3⟩ := KR3.out.c4
        go_wp2_with fail
        refine Calls.mono (HRX.out _) ?_
        rintro e w4 ⟨rfl, hb⟩
        clear f0 f1 f2 f3 g0 g1 g2 g3 h0 h1 h2 h3
        have KP4 := Lib.hid (KP3.out.below hb KP3.out.lt)
        have KQ4 := Lib.hid (KQ3.out.below hb KQ3.out.lt)
        have KR4 := Lib.hid (KR3.out.below hb KR3.out.lt)
        have L4 := Lib.hid (L3.out.trans (hb.mono L3.out.size))
        have E4 := Lib.hid (E3.out.below hb)
        clear hb
        obtain ⟨f0, f1, f2, f3⟩ := KP4.out.c4
        obtain ⟨g0, g1, g2, g3⟩ := KQ4.out.c4
        obtain ⟨h0, h1, h2, h3⟩ := KR4.out.c4
        go_wp2_with fail
        refine Calls.mono (HPP.out _) ?_
        rintro e w5 ⟨rfl, hb⟩
        clear f0 f1 f2 f3 g0 g1 g2 g3 h0 h1 h2 h3
        have KP5 := Lib.hid (KP4.out.below hb KP4.out.lt)
        have KQ5 := Lib.hid (KQ4.out.below hb KQ4.out.lt)
        have KR5 := Lib.hid (KR4.out.below hb KR4.out.lt)
        have L5 := Lib.hid (L4.out.trans (hb.mono L4.out.size))
        have E5 := Lib.hid (E4.out.below hb)
        clear hb
        obtain ⟨f0, f1, f2, f3⟩ := KP5.out.c4
        obtain ⟨g0, g1, g2, g3⟩ := KQ5.out.c4
        obtain ⟨h0, h1, h2, h3⟩ := KR5.out.c4
        go_wp2_with fail
        refine Calls.mono (HV1.out _) ?_
        rintro e w6 ⟨rfl, hb⟩
        clear f0 f1 f2 f3 g0 g1 g2 g3 h0 h1 h2 h3
        have KP6 := Lib.hid (KP5.out.below hb KP5.out.lt)
        have KQ6 := Lib.hid (KQ5.out.below hb KQ5.out.lt)
        have KR6 := Lib.hid (KR5.out.below hb KR5.out.lt)
        have L6 := Lib.hid (L5.out.trans (hb.mono L5.out.size))
        have E6 := Lib.hid (E5.out.below hb)
        clear hb
        obtain ⟨f0, f1, f2, f3⟩ := KP6.out.c4
        obtain ⟨g0, g1, g2, g3⟩ := KQ6.out.c4
        obtain ⟨h0, h1, h2, h3⟩ := KR6.out.c4
        go_wp2_with fail
        refine Calls.mono (HV2.out _) ?_
        rintro e w7 ⟨rfl, hb⟩
        clear f0 f1 f2 f3 g0 g1 g2 g3 h0 h1 h2 h3
        have KP7 := Lib.hid (KP6.out.below hb KP6.out.lt)
        have KQ7 := Lib.hid (KQ6.out.below hb KQ6.out.lt)
        have KR7 := Lib.hid (KR6.out.below hb KR6.out.lt)
        have L7 := Lib.hid (L6.out.trans (hb.mono L6.out.size))
        have E7 := Lib.hid (E6.out.below hb)
        clear hb
        obtain ⟨f0, f1, f2, f3⟩ := KP7.out.c4
        obtain ⟨g0, g1, g2, g3⟩ := KQ7.out.c4
        obtain ⟨h0, h1, h2, h3⟩ := KR7.out.c4
        go_wp2_with fail
        refine Calls.mono (HC.out _) ?_
        rintro e w8 ⟨rfl, hb⟩
        clear f0 f1 f2 f3 g0 g1 g2 g3 h0 h1 h2 h3
        have KP8 := Lib.hid (KP7.out.below hb KP7.out.lt)
        have KQ8 := Lib.hid (KQ7.out.below hb KQ7.out.lt)
        have KR8 := Lib.hid (KR7.out.below hb KR7.out.lt)
        have L8 := Lib.hid (L7.out.trans (hb.mono L7.out.size))
        have E8 := Lib.hid (E7.out.below hb)
        clear hb
        obtain ⟨f0, f1, f2, f3⟩ := KP8.out.c4
        obtain ⟨g0, g1, g2, g3⟩ := KQ8.out.c4
        obtain ⟨h0, h1, h2, h3⟩ := KR8.out.c4
        go_wp2
        all_goals
          go_ret
          exact ⟨ret_bool (by simp [*]), L8.out⟩

set_option maxRecDepth 100000 in
theorem contract (H : Type) (enc : TypeId × Value → H) (W : World) (base : Nat) (args : Array Value) (ds gs : List (DataW H)) (before : List MemPlace)
    (hval0 : ∀ (j : Nat) t v, Tryd.f8.params[j]? = some t → args[j]? = some v → Value.okWide Tryd.prog W .any base t v)
    (hW : DataW.Whole enc Tryd.prog Tryd.f8.params.toList Rows.prefixOrdersSpec.vars false W args.toList ds gs before)
    (hsz0 : (DataW.weightsEach Tryd.prog (Tryd.f8.params.toList ++ Rows.prefixOrdersSpec.plain.varTypes Tryd.prog) (ds ++ gs)).all (· ≤ reachBytes) = true) (hE : Env W) :
    Calls Tryd.prog 8 args W fun e W' => ∃ v, e = .returned v ∧ Rows.prefixOrdersSpec.post enc Tryd.prog Tryd.f8 false true false false W args v W' := by
  have hsz := hsz0
  clear hsz0
  have hval := hval0
  clear hval0
  have hW' := hW
  obtain ⟨p, q, hA0, hV, rfl, hfz, hnd⟩ := hW
  have hA : DataW.TrodAll enc Tryd.prog W 0 (fun _ => true) true Tryd.f8.params.toList args.toList ds p := hA0
  rw [Tryd.params8] at hA hval hsz
  obtain ⟨v0, vs0, d0, ds0, p0, q0, hargs, rfl, rfl, h0, r0⟩ := trodAll_cons hA
  obtain ⟨v1, vs1, d1, ds1, p1, q1, rfl, rfl, rfl, h1, r1⟩ := trodAll_cons r0
  obtain ⟨v2, vs2, d2, ds2, p2, q2, rfl, rfl, rfl, h2, r2⟩ := trodAll_cons r1
  obtain ⟨rfl, rfl, rfl⟩ := trodAll_nil r2
  obtain rfl : args = #[v0, v1, v2] := by cases args; simp_all
  obtain ⟨rfl, rfl⟩ := trodVars_none hV
  have k0 := h0
  have lt0 : ∀ x ∈ p0, x.block < W.heap.size := by obtain ⟨m, hm⟩ := k0; exact DataW.trod_lt m _ _ _ hm
  obtain ⟨a0_0, a0_1, a0_2, a0_3, rfl, w0_1, w0_2, w0_3, ep0⟩ := open_pfx (hval 0 26 v0 rfl rfl) h0
  have k1 := h1
  have lt1 : ∀ x ∈ p1, x.block < W.heap.size := by obtain ⟨m, hm⟩ := k1; exact DataW.trod_lt m _ _ _ hm
  obtain ⟨a1_0, a1_1, a1_2, a1_3, rfl, w1_1, w1_2, w1_3, ep1⟩ := open_pfx (hval 1 26 v1 rfl rfl) h1
  have k2 := h2
  have lt2 : ∀ x ∈ p2, x.block < W.heap.size := by obtain ⟨m, hm⟩ := k2; exact DataW.trod_lt m _ _ _ hm
  obtain ⟨a2_0, a2_1, a2_2, a2_3, rfl, w2_1, w2_2, w2_3, ep2⟩ := open_pfx (hval 2 26 v2 rfl rfl) h2
  clear hA0
  refine (walk W hE a0_0 a0_1 w0_1 a0_2 w0_2 a0_3 w0_3 a1_0 a1_1 w1_1 a1_2 w1_2 a1_3 w1_3 a2_0 a2_1 w2_1 a2_2 w2_2 a2_3 w2_3).mono fun e W' ⟨he, bel⟩ => ?_
  subst he
  exact ⟨_, rfl, _, _, _, [], _, [], hW', trodAll_mk1 (shut_bool Tryd.underlying4 _), (trodAll_cons_mk (Below.trod laidOut (by kernel_rfl) (of_decide_eq_true (by kernel_rfl)) k0 bel lt0) (trodAll_cons_mk (Below.trod laidOut (by kernel_rfl) (of_decide_eq_true (by kernel_rfl)) k1 bel lt1) (trodAll_cons_mk (Below.trod laidOut (by kernel_rfl) (of_decide_eq_true (by kernel_rfl)) k2 bel lt2) trodAll_mk0))), rfl, bel.frame _, fun h => by cases h⟩

theorem laid_met (os : Os) (args : Array Value) : laidMet Tryd.prog Rows.prefixOrdersRow.laid ((World.laidAll Tryd.prog os Rows.prefixOrdersRow.laid).forCall (fun _ _ => 0) ⟨#[], args, []⟩).memory :=
  laidMet_laidAll _ (by kernel_rfl) (by kernel_rfl)
set_option maxRecDepth 100000 in
theorem pre_row (os : Os) {H : Type} (enc : TypeId × Value → H) :
    (OpenSpec.ofChange Rows.prefixOrdersSpec).preRow enc Tryd.prog Tryd.f8 Rows.prefixOrdersRow.domain false Rows.prefixOrdersRow.laid ((World.laidAll Tryd.prog os Rows.prefixOrdersRow.laid).forCall (fun _ _ => 0) ⟨#[], #[.agg #[.bool false, .int .u64 0, .int .u64 0, .int .i64 0], .agg #[.bool false, .int .u64 0, .int .u64 0, .int .i64 0], .agg #[.bool false, .int .u64 0, .int .u64 0, .int .i64 0]], []⟩).memory #[.agg #[.bool false, .int .u64 0, .int .u64 0, .int .i64 0], .agg #[.bool false, .int .u64 0, .int .u64 0, .int .i64 0], .agg #[.bool false, .int .u64 0, .int .u64 0, .int .i64 0]] := by
  exact ⟨⟨ChangeSpec.pre_of_preB (fuel := 8) (by kernel_rfl), by rw [MakeChecks.laidMetH_plain _ _ _ (by kernel_rfl)]; exact laid_met os _⟩, sizedMet_of_sizedB (fuel := 8) (by kernel_rfl)⟩
set_option maxRecDepth 100000 in
theorem lifted (os : Os) (started : os.Started) (H : Type) (enc : TypeId × Value → H) (F : Stop.Interp) :
    ReturnsInHanded {} Tryd.checked os 8 .any ((OpenSpec.ofChange Rows.prefixOrdersSpec).preRow enc Tryd.prog Tryd.f8 Rows.prefixOrdersRow.domain false Rows.prefixOrdersRow.laid) (((OpenSpec.ofChange Rows.prefixOrdersSpec).at F).post enc Tryd.prog Tryd.f8 false true false false) := by
  refine returnsInHanded_of_row (C := Tryd.checked) (s := (OpenSpec.ofChange Rows.prefixOrdersSpec)) own started (by kernel_rfl) Tryd.func8
    ⟨World.laidAll Tryd.prog os Rows.prefixOrdersRow.laid, fun _ _ => 0, ⟨#[], #[.agg #[.bool false, .int .u64 0, .int .u64 0, .int .i64 0], .agg #[.bool false, .int .u64 0, .int .u64 0, .int .i64 0], .agg #[.bool false, .int .u64 0, .int .u64 0, .int .i64 0]], []⟩, World.laidAll_os _ _ _, World.shaped_of_ZipB (by kernel_rfl) (by kernel_rfl), rfl, (Input.okWide_of_okWideB (by kernel_rfl)).2, pre_row os enc, (by simp only [Assume.holds]; exact ⟨by simp, by simp, fun _ => Modest.zero, by simp, by simp⟩)⟩ ?_
  intro W base args ds gs before hval hW _ hcond hsz hL hsh _
  rw [MakeChecks.laidMetH_plain _ _ _ (by kernel_rfl)] at hL
  exact contract H enc W base args ds gs before hval hW hsz (env_of hL hsh)

theorem over : Rows.prefixOrdersRow.holds Tryd.pinned (OpenSpec.ofChange Rows.prefixOrdersSpec) :=
  OpenClaim.holds_of_cond 8 Tryd.f8 rfl rfl rfl rfl rfl rfl rfl ⟨rfl, rfl, rfl, rfl, rfl⟩ rfl rfl rfl rfl rfl (by kernel_rfl) Tryd.func8 (by kernel_rfl)
    (of_decide_eq_true (by kernel_rfl)) (by unfold Func.isWrapper; first | (rw [if_pos (by decide +kernel)]; kernel_rfl) | (rw [if_neg (by decide +kernel)]; exact ⟨rfl, rfl⟩))
    (fun os started H enc _ F => by rw [OpenClaim.pre_eq_preRow]; exact lifted os started H enc F)

theorem proved : Rows.PrefixOrdersCardSaid :=
  Claim7.holds_tied_plain_at .later [] Rows.prefixOrdersCard.laidKinds true Rows.prefixOrdersCard.stood.harness true over (fun _ h => by cases h) (by kernel_rfl) (fun _ h => by cases h) prefixOrders_row_tie rfl ⟨rfl, rfl⟩ (by kernel_rfl) rfl
    (fun f fn hf hfn => by
      obtain rfl : f = 8 := Option.some.inj ((show Tryd.prog.funcNamed Rows.prefixOrdersRow.func = some 8 by kernel_rfl).symm.trans hf) |>.symm
      obtain rfl : fn = Tryd.f8 := (Option.some.inj (Tryd.func8.symm.trans hfn)).symm
      exact ⟨by kernel_rfl, fun j t ht => by
        rw [Tryd.params8] at ht
        have hm : t ∈ [26] := by simpa using Array.mem_of_getElem? ht
        have hall : ([26].all fun u => !Tryd.prog.wantsStandIn u) = true := by kernel_rfl
        exact (show Tryd.prog.wantsStandIn t = false by simpa using List.all_eq_true.1 hall t hm)⟩)
    (by kernel_rfl)
#print axioms proved
end Go.Proofs.YtecgmejfkfoceaaDoor.Orders
