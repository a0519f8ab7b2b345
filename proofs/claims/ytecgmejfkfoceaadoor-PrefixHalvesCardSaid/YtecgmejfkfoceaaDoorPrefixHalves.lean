/-
  D6: whoever is held by a range of first bits is held by just one of its halves, and nobody else is; they are covered by it, and do not cover one another; and they are the document's: for every range and every address.
-/
import Derived.Test.YtecgmejfkfoceaaDoorPAwk
import Derived.Test.YtecgmejfkfoceaaDoorPFrame
import Derived.Test.YtecgmejfkfoceaaDoorPRHv
namespace Go.Proofs.YtecgmejfkfoceaaDoor.Hv
open Go.ChangeShapes Go.WideShapes Go.ChangeAt Go.RowKit
set_option linter.unusedVariables false

set_option maxRecDepth 100000 in
set_option maxHeartbeats 8000000 in
theorem walk (w : World) (hE : Env w) (a0_0 : Bool) (a0_1 : Int) (w0_1 : (Lit.int .u64 a0_1).wf = true) (a0_2 : Int) (w0_2 : (Lit.int .u64 a0_2).wf = true) (a0_3 : Int) (w0_3 : (Lit.int .i64 a0_3).wf = true) (a1_0 : Bool) (a1_1 : Int) (w1_1 : (Lit.int .u64 a1_1).wf = true) (a1_2 : Int) (w1_2 : (Lit.int .u64 a1_2).wf = true) :
    Calls Tryd.prog 6 #[.agg #[.bool a0_0, .int .u64 a0_1, .int .u64 a0_2, .int .i64 a0_3], .agg #[.bool a1_0, .int .u64 a1_1, .int .u64 a1_2]] w fun e w' => e = .returned (.bool true) ∧ Below w.heap.size w w' := by
  obtain ⟨h, rfl, hh⟩ := n64_of w0_1
  obtain ⟨l, rfl, hl⟩ := n64_of w0_2
  obtain ⟨m, rfl, hm⟩ := n64_of w1_1
  obtain ⟨n, rfl, hn⟩ := n64_of w1_2
  have hE := Lib.hid hE
  obtain ⟨V, hV⟩ : ∃ V, pvl a0_0 h l a0_3 = V := ⟨_, rfl⟩
  have HV := Lib.hid (fun w => pvalid_at a0_0 h l a0_3 hh hl hV w)
  obtain ⟨F, hF⟩ : ∃ M : Int, (m : Int) = M := ⟨_, rfl⟩
  obtain ⟨G, hG⟩ : ∃ N : Int, (n : Int) = N := ⟨_, rfl⟩
  obtain ⟨A, hA⟩ : ∃ A : Int, (h : Int) = A := ⟨_, rfl⟩
  obtain ⟨B, hB⟩ : ∃ B : Int, (l : Int) = B := ⟨_, rfl⟩
  by_cases hk : pvl a0_0 h l a0_3 = true ∧ a0_3 < (wd a0_0 : Int)
  · obtain ⟨hp, hb⟩ := hk
    have ev : hvV a0_0 h l a0_3 = .tuple #[pfx a0_0 h l (a0_3 + 1), pfx a0_0 (upH h (kk a0_0 a0_3) : Nat) (upL l (kk a0_0 a0_3) : Nat) (a0_3 + 1), .int .i64 0] := by
      unfold hvV
      rw [hp, if_pos (by simp; omega)]
    obtain ⟨u1, u2, -, -, -⟩ := up_spec hh hl hp hb
    obtain ⟨c1, c2, c3, c4, c5, c6, c7⟩ := half_around hh hl hp hb
    obtain ⟨d1, d2⟩ := half_in (s' := a1_0) (h' := m) (l' := n) hh hl hn hp hb
    obtain ⟨o, ho⟩ : ∃ o, hld a0_0 h l (a0_3 + 1) a1_0 m n = o := ⟨_, rfl⟩
    obtain ⟨t, ht⟩ : ∃ t, hld a0_0 (upH h (kk a0_0 a0_3)) (upL l (kk a0_0 a0_3)) (a0_3 + 1) a1_0 m n = t := ⟨_, rfl⟩
    rw [ho, ht] at d1 d2
    have HH := Lib.hid (fun w => halves_any a0_0 h l a0_3 hh hl ev w)
    have RH := Lib.hid (fun w => rhalves_at a0_0 h l a0_3 hh hl ev w)
    have HI := Lib.hid (fun w => holds_at a0_0 h l a0_3 a1_0 m n hm hn d1 w)
    have H1 := Lib.hid (fun w => holds_at a0_0 h l (a0_3 + 1) a1_0 m n hm hn ho w)
    have H2 := Lib.hid (fun w => holds_at a0_0 (upH h (kk a0_0 a0_3)) (upL l (kk a0_0 a0_3)) (a0_3 + 1) a1_0 m n hm hn ht w)
    have C1 := Lib.hid (fun w => covers_at a0_0 h l a0_3 a0_0 h l (a0_3 + 1) hh hl c1 w)
    have C2 := Lib.hid (fun w => covers_at a0_0 h l a0_3 a0_0 (upH h (kk a0_0 a0_3)) (upL l (kk a0_0 a0_3)) (a0_3 + 1) u1 u2 c2 w)
    have C3 := Lib.hid (fun w => covers_at a0_0 h l (a0_3 + 1) a0_0 (upH h (kk a0_0 a0_3)) (upL l (kk a0_0 a0_3)) (a0_3 + 1) u1 u2 c3 w)
    have C4 := Lib.hid (fun w => covers_at a0_0 (upH h (kk a0_0 a0_3)) (upL l (kk a0_0 a0_3)) (a0_3 + 1) a0_0 h l (a0_3 + 1) hh hl c4 w)
    have C5 := Lib.hid (fun w => covers_at a0_0 h l (a0_3 + 1) a0_0 h l a0_3 hh hl c5 w)
    have S1 := Lib.hid (fun w => pless_at a0_0 h l a0_3 a0_0 h l (a0_3 + 1) hh hl hh hl c6 w)
    have S2 := Lib.hid (fun w => pless_at a0_0 h l (a0_3 + 1) a0_0 (upH h (kk a0_0 a0_3)) (upL l (kk a0_0 a0_3)) (a0_3 + 1) hh hl u1 u2 c7 w)
    obtain ⟨C, hC⟩ : ∃ A, ((upH h (kk a0_0 a0_3) : Nat) : Int) = A := ⟨_, rfl⟩
    obtain ⟨D, hD⟩ : ∃ B, ((upL l (kk a0_0 a0_3) : Nat) : Int) = B := ⟨_, rfl⟩
    obtain ⟨b1, hb1⟩ : ∃ b, a0_3 + 1 = b := ⟨_, rfl⟩
    rw [hA, hB, hb1, hC, hD] at HH RH C2 C3 C4 S2
    rw [hA, hB, hb1] at C1 C5 S1
    rw [hA, hB, hF, hG] at HI
    rw [hA, hB, hF, hG, hb1] at H1
    rw [hC, hD, hF, hG, hb1] at H2
    rw [hA, hB, hF, hG]
    clear w0_1 w0_2 w0_3 w1_1 w1_2 hV HV hF hG hA hB hC hD hb1 hh hl hm hn u1 u2 c1 c2 c3 c4 c5 c6 c7 d1 ho ht ev hp hb
    cases o <;> cases t
    all_goals first | (exact absurd ⟨rfl, rfl⟩ d2) | skip
    all_goals
      clear d2
      go_enter Tryd.func6, Tryd.ntmps6
      go_wp2_with fail
      refine Calls.mono (pawake_yes _ ((hE.out.alloc _).alloc _)) ?_
      rintro e w1 ⟨rfl, hb⟩
      have KP1 := Lib.hid (((Blk.new w 26 #[.bool a0_0, .int .u64 A, .int .u64 B, .int .i64 a0_3]).alloc (.cells #[.bool a1_0, .int .u64 F, .int .u64 G] 24)).below hb (by simp only [World.size_alloc]; omega))
      have KA1 := Lib.hid ((Blk.new (w.alloc (.cells #[.bool a0_0, .int .u64 A, .int .u64 B, .int .i64 a0_3] 26)) 24 #[.bool a1_0, .int .u64 F, .int .u64 G]).below hb (by simp only [World.size_alloc]; omega))
      rw [World.size_alloc] at KA1
      have L1 := Lib.hid ((((Below.refl _ w).alloc (Nat.le_refl _) _).alloc (by simp only [World.size_alloc]; omega) _).trans (hb.mono (by simp only [World.size_alloc]; omega)))
      have E1 := Lib.hid (((hE.out.alloc _).alloc _).below hb)
      clear hb
      obtain ⟨f0, f1, f2, f3⟩ := KP1.out.c4
      obtain ⟨g0, g1, g2⟩ := KA1.out.c3
      go_wp2_with fail
      refine Calls.mono (HH.out _) ?_
      rintro e w2 ⟨rfl, hb⟩
      clear f0 f1 f2 f3 g0 g1 g2
      have KP2 := Lib.hid (KP1.out.below hb KP1.out.lt)
      have KA2 := Lib.hid (KA1.out.below hb KA1.out.lt)
      have L2 := Lib.hid (L1.out.trans (hb.mono L1.out.size))
      have E2 := Lib.hid (E1.out.below hb)
      clear hb
      replace KP2 := Lib.hid (KP2.out.alloc (.cells #[.bool a0_0, .int .u64 A, .int .u64 B, .int .i64 b1] 26))
      replace KA2 := Lib.hid (KA2.out.alloc (.cells #[.bool a0_0, .int .u64 A, .int .u64 B, .int .i64 b1] 26))
      have KX2 := Lib.hid (Blk.new w2 26 #[.bool a0_0, .int .u64 A, .int .u64 B, .int .i64 b1])
      replace L2 := Lib.hid (L2.out.alloc L2.out.size (.cells #[.bool a0_0, .int .u64 A, .int .u64 B, .int .i64 b1] 26))
      replace E2 := Lib.hid (E2.out.alloc (.cells #[.bool a0_0, .int .u64 A, .int .u64 B, .int .i64 b1] 26))
      replace KP2 := Lib.hid (KP2.out.alloc (.cells #[.bool a0_0, .int .u64 C, .int .u64 D, .int .i64 b1] 26))
      replace KA2 := Lib.hid (KA2.out.alloc (.cells #[.bool a0_0, .int .u64 C, .int .u64 D, .int .i64 b1] 26))
      replace KX2 := Lib.hid (KX2.out.alloc (.cells #[.bool a0_0, .int .u64 C, .int .u64 D, .int .i64 b1] 26))
      have KY2 := Lib.hid (Blk.new (w2.alloc (.cells #[.bool a0_0, .int .u64 A, .int .u64 B, .int .i64 b1] 26)) 26 #[.bool a0_0, .int .u64 C, .int .u64 D, .int .i64 b1])
      replace L2 := Lib.hid (L2.out.alloc L2.out.size (.cells #[.bool a0_0, .int .u64 C, .int .u64 D, .int .i64 b1] 26))
      replace E2 := Lib.hid (E2.out.alloc (.cells #[.bool a0_0, .int .u64 C, .int .u64 D, .int .i64 b1] 26))
      rw [World.size_alloc] at KY2
      obtain ⟨f0, f1, f2, f3⟩ := KP2.out.c4
      obtain ⟨g0, g1, g2⟩ := KA2.out.c3
      obtain ⟨h0, h1, h2, h3⟩ := KX2.out.c4
      obtain ⟨k0, k1, k2, k3⟩ := KY2.out.c4
      go_wp2_with fail
      refine Calls.mono (HI.out _) ?_
      rintro e w3 ⟨rfl, hb⟩
      clear f0 f1 f2 f3 g0 g1 g2 h0 h1 h2 h3 k0 k1 k2 k3
      have KP3 := Lib.hid (KP2.out.below hb KP2.out.lt)
      have KA3 := Lib.hid (KA2.out.below hb KA2.out.lt)
      have KX3 := Lib.hid (KX2.out.below hb KX2.out.lt)
      have KY3 := Lib.hid (KY2.out.below hb KY2.out.lt)
      have L3 := Lib.hid (L2.out.trans (hb.mono L2.out.size))
      have E3 := Lib.hid (E2.out.below hb)
      clear hb
      obtain ⟨f0, f1, f2, f3⟩ := KP3.out.c4
      obtain ⟨g0, g1, g2⟩ := KA3.out.c3
      obtain ⟨h0, h1, h2, h3⟩ := KX3.out.c4
      obtain ⟨k0, k1, k2, k3⟩ := KY3.out.c4
      go_wp2_with fail
      refine Calls.mono (H1.out _) ?_
      rintro e w4 ⟨rfl, hb⟩
      clear f0 f1 f2 f3 g0 g1 g2 h0 h1 h2 h3 k0 k1 k2 k3
      have KP4 := Lib.hid (KP3.out.below hb KP3.out.lt)
      have KA4 := Lib.hid (KA3.out.below hb KA3.out.lt)
      have KX4 := Lib.hid (KX3.out.below hb KX3.out.lt)
      have KY4 := Lib.hid (KY3.out.below hb KY3.out.lt)
      have L4 := Lib.hid (L3.out.trans (hb.mono L3.out.size))
      have E4 := Lib.hid (E3.out.below hb)
      clear hb
      obtain ⟨f0, f1, f2, f3⟩ := KP4.out.c4
      obtain ⟨g0, g1, g2⟩ := KA4.out.c3
      obtain ⟨h0, h1, h2, h3⟩ := KX4.out.c4
      obtain ⟨k0, k1, k2, k3⟩ := KY4.out.c4
      go_wp2_with fail
      refine Calls.mono (H2.out _) ?_
      rintro e w5 ⟨rfl, hb⟩
      clear f0 f1 f2 f3 g0 g1 g2 h0 h1 h2 h3 k0 k1 k2 k3
      have KP5 := Lib.hid (KP4.out.below hb KP4.out.lt)
      have KA5 := Lib.hid (KA4.out.below hb KA4.out.lt)
      have KX5 := Lib.hid (KX4.out.below hb KX4.out.lt)
      have KY5 := Lib.hid (KY4.out.below hb KY4.out.lt)
      have L5 := Lib.hid (L4.out.trans (hb.mono L4.out.size))
      have E5 := Lib.hid (E4.out.below hb)
      clear hb
      obtain ⟨f0, f1, f2, f3⟩ := KP5.out.c4
      obtain ⟨g0, g1, g2⟩ := KA5.out.c3
      obtain ⟨h0, h1, h2, h3⟩ := KX5.out.c4
      obtain ⟨k0, k1, k2, k3⟩ := KY5.out.c4
      go_wp2_with fail
      refine Calls.mono (C1.out _) ?_
      rintro e w6 ⟨rfl, hb⟩
      clear f0 f1 f2 f3 g0 g1 g2 h0 h1 h2 h3 k0 k1 k2 k3
      have KP6 := Lib.hid (KP5.out.below hb KP5.out.lt)
      have KA6 := Lib.hid (KA5.out.below hb KA5.out.lt)
      have KX6 := Lib.hid (KX5.out.below hb KX5.out.lt)
      have KY6 := Lib.hid (KY5.out.below hb KY5.out.lt)
      have L6 := Lib.hid (L5.out.trans (hb.mono L5.out.size))
      have E6 := Lib.hid (E5.out.below hb)
      clear hb
      obtain ⟨f0, f1, f2, f3⟩ := KP6.out.c4
      obtain ⟨g0, g1, g2⟩ := KA6.out.c3
      obtain ⟨h0, h1, h2, h3⟩ := KX6.out.c4
      obtain ⟨k0, k1, k2, k3⟩ := KY6.out.c4
      go_wp2_with fail
      refine Calls.mono (C2.out _) ?_
      rintro e w7 ⟨rfl, hb⟩
      clear f0 f1 f2 f3 g0 g1 g2 h0 h1 h2 h3 k0 k1 k2 k3
      have KP7 := Lib.hid (KP6.out.below hb KP6.out.lt)
      have KA7 := Lib.hid (KA6.out.below hb KA6.out.lt)
      have KX7 := Lib.hid (KX6.out.below hb KX6.out.lt)
      have KY7 := Lib.hid (KY6.out.below hb KY6.out.lt)
      have L7 := Lib.hid (L6.out.trans (hb.mono L6.out.size))
      have E7 := Lib.hid (E6.out.below hb)
      clear hb
      obtain ⟨f0, f1, f2, f3⟩ := KP7.out.c4
      obtain ⟨g0, g1, g2⟩ := KA7.out.c3
      obtain ⟨h0, h1, h2, h3⟩ := KX7.out.c4
      obtain ⟨k0, k1, k2, k3⟩ := KY7.out.c4
      go_wp2_with fail
      refine Calls.mono (C3.out _) ?_
      rintro e w8 ⟨rfl, hb⟩
      clear f0 f1 f2 f3 g0 g1 g2 h0 h1 h2 h3 k0 k1 k2 k3
      have KP8 := Lib.hid (KP7.out.below hb KP7.out.lt)
      have KA8 := Lib.hid (KA7.out.below hb KA7.out.lt)
      have KX8 := Lib.hid (KX7.out.below hb KX7.out.lt)
      have KY8 := Lib.hid (KY7.out.below hb KY7.out.lt)
      have L8 := Lib.hid (L7.out.trans (hb.mono L7.out.size))
      have E8 := Lib.hid (E7.out.below hb)
      clear hb
      obtain ⟨f0, f1, f2, f3⟩ := KP8.out.c4
      obtain ⟨g0, g1, g2⟩ := KA8.out.c3
      obtain ⟨h0, h1, h2, h3⟩ := KX8.out.c4
      obtain ⟨k0, k1, k2, k3⟩ := KY8.out.c4
      go_wp2_with fail
      refine Calls.mono (C4.out _) ?_
      rintro e w9 ⟨rfl, hb⟩
      clear f0 f1 f2 f3 g0 g1 g2 h0 h1 h2 h3 k0 k1 k2 k3
      have KP9 := Lib.hid (KP8.out.below hb KP8.out.lt)
      have KA9 := Lib.hid (KA8.out.below hb KA8.out.lt)
      have KX9 := Lib.hid (KX8.out.below hb KX8.out.lt)
      have KY9 := Lib.hid (KY8.out.below hb KY8.out.lt)
      have L9 := Lib.hid (L8.out.trans (hb.mono L8.out.size))
      have E9 := Lib.hid (E8.out.below hb)
      clear hb
      obtain ⟨f0, f1, f2, f3⟩ := KP9.out.c4
      obtain ⟨g0, g1, g2⟩ := KA9.out.c3
      obtain ⟨h0, h1, h2, h3⟩ := KX9.out.c4
      obtain ⟨k0, k1, k2, k3⟩ := KY9.out.c4
      go_wp2_with fail
      refine Calls.mono (C5.out _) ?_
      rintro e w10 ⟨rfl, hb⟩
      clear f0 f1 f2 f3 g0 g1 g2 h0 h1 h2 h3 k0 k1 k2 k3
      have KP10 := Lib.hid (KP9.out.below hb KP9.out.lt)
      have KA10 := Lib.hid (KA9.out.below hb KA9.out.lt)
      have KX10 := Lib.hid (KX9.out.below hb KX9.out.lt)
      have KY10 := Lib.hid (KY9.out.below hb KY9.out.lt)
      have L10 := Lib.hid (L9.out.trans (hb.mono L9.out.size))
      have E10 := Lib.hid (E9.out.below hb)
      clear hb
      obtain ⟨f0, f1, f2, f3⟩ := KP10.out.c4
      obtain ⟨g0, g1, g2⟩ := KA10.out.c3
      obtain ⟨h0, h1, h2, h3⟩ := KX10.out.c4
      obtain ⟨k0, k1, k2, k3⟩ := KY10.out.c4
      go_wp2_with fail
      refine Calls.mono (RH.out _) ?_
      rintro e w11 ⟨rfl, hb⟩
      clear f0 f1 f2 f3 g0 g1 g2 h0 h1 h2 h3 k0 k1 k2 k3
      have KP11 := Lib.hid (KP10.out.below hb KP10.out.lt)
      have KA11 := Lib.hid (KA10.out.below hb KA10.out.lt)
      have KX11 := Lib.hid (KX10.out.below hb KX10.out.lt)
      have KY11 := Lib.hid (KY10.out.below hb KY10.out.lt)
      have L11 := Lib.hid (L10.out.trans (hb.mono L10.out.size))
      have E11 := Lib.hid (E10.out.below hb)
      clear hb
      replace KP11 := Lib.hid (KP11.out.alloc (.cells #[.bool a0_0, .int .u64 A, .int .u64 B, .int .i64 b1] 26))
      replace KA11 := Lib.hid (KA11.out.alloc (.cells #[.bool a0_0, .int .u64 A, .int .u64 B, .int .i64 b1] 26))
      replace KX11 := Lib.hid (KX11.out.alloc (.cells #[.bool a0_0, .int .u64 A, .int .u64 B, .int .i64 b1] 26))
      replace KY11 := Lib.hid (KY11.out.alloc (.cells #[.bool a0_0, .int .u64 A, .int .u64 B, .int .i64 b1] 26))
      have KM11 := Lib.hid (Blk.new w11 26 #[.bool a0_0, .int .u64 A, .int .u64 B, .int .i64 b1])
      replace L11 := Lib.hid (L11.out.alloc L11.out.size (.cells #[.bool a0_0, .int .u64 A, .int .u64 B, .int .i64 b1] 26))
      replace E11 := Lib.hid (E11.out.alloc (.cells #[.bool a0_0, .int .u64 A, .int .u64 B, .int .i64 b1] 26))
      replace KP11 := Lib.hid (KP11.out.alloc (.cells #[.bool a0_0, .int .u64 C, .int .u64 D, .int .i64 b1] 26))
      replace KA11 := Lib.hid (KA11.out.alloc (.cells #[.bool a0_0, .int .u64 C, .int .u64 D, .int .i64 b1] 26))
      replace KX11 := Lib.hid (KX11.out.alloc (.cells #[.bool a0_0, .int .u64 C, .int .u64 D, .int .i64 b1] 26))
      replace KY11 := Lib.hid (KY11.out.alloc (.cells #[.bool a0_0, .int .u64 C, .int .u64 D, .int .i64 b1] 26))
      replace KM11 := Lib.hid (KM11.out.alloc (.cells #[.bool a0_0, .int .u64 C, .int .u64 D, .int .i64 b1] 26))
      have KN11 := Lib.hid (Blk.new (w11.alloc (.cells #[.bool a0_0, .int .u64 A, .int .u64 B, .int .i64 b1] 26)) 26 #[.bool a0_0, .int .u64 C, .int .u64 D, .int .i64 b1])
      replace L11 := Lib.hid (L11.out.alloc L11.out.size (.cells #[.bool a0_0, .int .u64 C, .int .u64 D, .int .i64 b1] 26))
      replace E11 := Lib.hid (E11.out.alloc (.cells #[.bool a0_0, .int .u64 C, .int .u64 D, .int .i64 b1] 26))
      rw [World.size_alloc] at KN11
      obtain ⟨f0, f1, f2, f3⟩ := KP11.out.c4
      obtain ⟨g0, g1, g2⟩ := KA11.out.c3
      obtain ⟨h0, h1, h2, h3⟩ := KX11.out.c4
      obtain ⟨k0, k1, k2, k3⟩ := KY11.out.c4
      obtain ⟨m0, m1, m2, m3⟩ := KM11.out.c4
      obtain ⟨n0, n1, n2, n3⟩ := KN11.out.c4
      go_wp2_with fail
      refine Calls.mono (S1.out _) ?_
      rintro e w12 ⟨rfl, hb⟩
      clear f0 f1 f2 f3 g0 g1 g2 h0 h1 h2 h3 k0 k1 k2 k3 m0 m1 m2 m3 n0 n1 n2 n3
      have KP12 := Lib.hid (KP11.out.below hb KP11.out.lt)
      have KA12 := Lib.hid (KA11.out.below hb KA11.out.lt)
      have KX12 := Lib.hid (KX11.out.below hb KX11.out.lt)
      have KY12 := Lib.hid (KY11.out.below hb KY11.out.lt)
      have KM12 := Lib.hid (KM11.out.below hb KM11.out.lt)
      have KN12 := Lib.hid (KN11.out.below hb KN11.out.lt)
      have L12 := Lib.hid (L11.out.trans (hb.mono L11.out.size))
      have E12 := Lib.hid (E11.out.below hb)
      clear hb
      obtain ⟨f0, f1, f2, f3⟩ := KP12.out.c4
      obtain ⟨g0, g1, g2⟩ := KA12.out.c3
      obtain ⟨h0, h1, h2, h3⟩ := KX12.out.c4
      obtain ⟨k0, k1, k2, k3⟩ := KY12.out.c4
      obtain ⟨m0, m1, m2, m3⟩ := KM12.out.c4
      obtain ⟨n0, n1, n2, n3⟩ := KN12.out.c4
      go_wp2_with fail
      refine Calls.mono (S2.out _) ?_
      rintro e w13 ⟨rfl, hb⟩
      clear f0 f1 f2 f3 g0 g1 g2 h0 h1 h2 h3 k0 k1 k2 k3 m0 m1 m2 m3 n0 n1 n2 n3
      have KP13 := Lib.hid (KP12.out.below hb KP12.out.lt)
      have KA13 := Lib.hid (KA12.out.below hb KA12.out.lt)
      have KX13 := Lib.hid (KX12.out.below hb KX12.out.lt)
      have KY13 := Lib.hid (KY12.out.below hb KY12.out.lt)
      have KM13 := Lib.hid (KM12.out.below hb KM12.out.lt)
      have KN13 := Lib.hid (KN12.out.below hb KN12.out.lt)
      have L13 := Lib.hid (L12.out.trans (hb.mono L12.out.size))
      have E13 := Lib.hid (E12.out.below hb)
      clear hb
      obtain ⟨f0, f1, f2, f3⟩ := KP13.out.c4
      obtain ⟨g0, g1, g2⟩ := KA13.out.c3
      obtain ⟨h0, h1, h2, h3⟩ := KX13.out.c4
      obtain ⟨k0, k1, k2, k3⟩ := KY13.out.c4
      obtain ⟨m0, m1, m2, m3⟩ := KM13.out.c4
      obtain ⟨n0, n1, n2, n3⟩ := KN13.out.c4
      go_wp2
      all_goals
        go_ret
        exact ⟨ret_bool (by simp [*]), L13.out⟩
  · have ev : hvV a0_0 h l a0_3 = .tuple #[pfx false 0 0 0, pfx false 0 0 0, .int .i64 1] := hvV_no hk hl
    have HH := Lib.hid (fun w => halves_any a0_0 h l a0_3 hh hl ev w)
    rw [hA, hB] at HH HV
    rw [hA, hB, hF, hG]
    cases V
    · clear w0_1 w0_2 w0_3 w1_1 w1_2 hV hF hG hA hB hh hl hm hn ev hk
      go_enter Tryd.func6, Tryd.ntmps6
      go_wp2_with fail
      refine Calls.mono (pawake_yes _ ((hE.out.alloc _).alloc _)) ?_
      rintro e w1 ⟨rfl, hb⟩
      have KP1 := Lib.hid (((Blk.new w 26 #[.bool a0_0, .int .u64 A, .int .u64 B, .int .i64 a0_3]).alloc (.cells #[.bool a1_0, .int .u64 F, .int .u64 G] 24)).below hb (by simp only [World.size_alloc]; omega))
      have KA1 := Lib.hid ((Blk.new (w.alloc (.cells #[.bool a0_0, .int .u64 A, .int .u64 B, .int .i64 a0_3] 26)) 24 #[.bool a1_0, .int .u64 F, .int .u64 G]).below hb (by simp only [World.size_alloc]; omega))
      rw [World.size_alloc] at KA1
      have L1 := Lib.hid ((((Below.refl _ w).alloc (Nat.le_refl _) _).alloc (by simp only [World.size_alloc]; omega) _).trans (hb.mono (by simp only [World.size_alloc]; omega)))
      have E1 := Lib.hid (((hE.out.alloc _).alloc _).below hb)
      clear hb
      obtain ⟨f0, f1, f2, f3⟩ := KP1.out.c4
      obtain ⟨g0, g1, g2⟩ := KA1.out.c3
      go_wp2_with fail
      refine Calls.mono (HH.out _) ?_
      rintro e w2 ⟨rfl, hb⟩
      clear f0 f1 f2 f3 g0 g1 g2
      have KP2 := Lib.hid (KP1.out.below hb KP1.out.lt)
      have KA2 := Lib.hid (KA1.out.below hb KA1.out.lt)
      have L2 := Lib.hid (L1.out.trans (hb.mono L1.out.size))
      have E2 := Lib.hid (E1.out.below hb)
      clear hb
      replace KP2 := Lib.hid (KP2.out.alloc (.cells #[.bool false, .int .u64 0, .int .u64 0, .int .i64 0] 26))
      replace KA2 := Lib.hid (KA2.out.alloc (.cells #[.bool false, .int .u64 0, .int .u64 0, .int .i64 0] 26))
      have KX2 := Lib.hid (Blk.new w2 26 #[.bool false, .int .u64 0, .int .u64 0, .int .i64 0])
      replace L2 := Lib.hid (L2.out.alloc L2.out.size (.cells #[.bool false, .int .u64 0, .int .u64 0, .int .i64 0] 26))
      replace E2 := Lib.hid (E2.out.alloc (.cells #[.bool false, .int .u64 0, .int .u64 0, .int .i64 0] 26))
      replace KP2 := Lib.hid (KP2.out.alloc (.cells #[.bool false, .int .u64 0, .int .u64 0, .int .i64 0] 26))
      replace KA2 := Lib.hid (KA2.out.alloc (.cells #[.bool false, .int .u64 0, .int .u64 0, .int .i64 0] 26))
      replace KX2 := Lib.hid (KX2.out.alloc (.cells #[.bool false, .int .u64 0, .int .u64 0, .int .i64 0] 26))
      have KY2 := Lib.hid (Blk.new (w2.alloc (.cells #[.bool false, .int .u64 0, .int .u64 0, .int .i64 0] 26)) 26 #[.bool false, .int .u64 0, .int .u64 0, .int .i64 0])
      replace L2 := Lib.hid (L2.out.alloc L2.out.size (.cells #[.bool false, .int .u64 0, .int .u64 0, .int .i64 0] 26))
      replace E2 := Lib.hid (E2.out.alloc (.cells #[.bool false, .int .u64 0, .int .u64 0, .int .i64 0] 26))
      rw [World.size_alloc] at KY2
      obtain ⟨f0, f1, f2, f3⟩ := KP2.out.c4
      obtain ⟨g0, g1, g2⟩ := KA2.out.c3
      obtain ⟨h0, h1, h2, h3⟩ := KX2.out.c4
      obtain ⟨k0, k1, k2, k3⟩ := KY2.out.c4
      go_wp2_with fail
      refine Calls.mono (HV.out _) ?_
      rintro e w3 ⟨rfl, hb⟩
      clear f0 f1 f2 f3 g0 g1 g2 h0 h1 h2 h3 k0 k1 k2 k3
      have KP3 := Lib.hid (KP2.out.below hb KP2.out.lt)
      have KA3 := Lib.hid (KA2.out.below hb KA2.out.lt)
      have KX3 := Lib.hid (KX2.out.below hb KX2.out.lt)
      have KY3 := Lib.hid (KY2.out.below hb KY2.out.lt)
      have L3 := Lib.hid (L2.out.trans (hb.mono L2.out.size))
      have E3 := Lib.hid (E2.out.below hb)
      clear hb
      obtain ⟨f0, f1, f2, f3⟩ := KP3.out.c4
      obtain ⟨g0, g1, g2⟩ := KA3.out.c3
      obtain ⟨h0, h1, h2, h3⟩ := KX3.out.c4
      obtain ⟨k0, k1, k2, k3⟩ := KY3.out.c4
      go_wp2_with fail
      refine Calls.mono (HV.out _) ?_
      rintro e w4 ⟨rfl, hb⟩
      clear f0 f1 f2 f3 g0 g1 g2 h0 h1 h2 h3 k0 k1 k2 k3
      have KP4 := Lib.hid (KP3.out.below hb KP3.out.lt)
      have KA4 := Lib.hid (KA3.out.below hb KA3.out.lt)
      have KX4 := Lib.hid (KX3.out.below hb KX3.out.lt)
      have KY4 := Lib.hid (KY3.out.below hb KY3.out.lt)
      have L4 := Lib.hid (L3.out.trans (hb.mono L3.out.size))
      have E4 := Lib.hid (E3.out.below hb)
      clear hb
      obtain ⟨f0, f1, f2, f3⟩ := KP4.out.c4
      obtain ⟨g0, g1, g2⟩ := KA4.out.c3
      obtain ⟨h0, h1, h2, h3⟩ := KX4.out.c4
      obtain ⟨k0, k1, k2, k3⟩ := KY4.out.c4
      go_wp2
      all_goals
        go_ret
        exact ⟨ret_bool (by simp [*]), L4.out⟩
    · have hW : a0_3 = (wd a0_0 : Int) := by
        have := (okn_iff.1 ((pvl_iff hl).1 hV).2.1).2
        have : ¬ a0_3 < (wd a0_0 : Int) := fun x => hk ⟨hV, x⟩
        omega
      clear w0_1 w0_2 w0_3 w1_1 w1_2 hV hF hG hA hB hh hl hm hn ev hk
      cases a0_0
      · have hW2 : a0_3 = 32 := hW
        subst hW2
        clear hW
        go_enter Tryd.func6, Tryd.ntmps6
        go_wp2_with fail
        refine Calls.mono (pawake_yes _ ((hE.out.alloc _).alloc _)) ?_
        rintro e w1 ⟨rfl, hb⟩
        have KP1 := Lib.hid (((Blk.new w 26 #[.bool false, .int .u64 A, .int .u64 B, .int .i64 32]).alloc (.cells #[.bool a1_0, .int .u64 F, .int .u64 G] 24)).below hb (by simp only [World.size_alloc]; omega))
        have KA1 := Lib.hid ((Blk.new (w.alloc (.cells #[.bool false, .int .u64 A, .int .u64 B, .int .i64 32] 26)) 24 #[.bool a1_0, .int .u64 F, .int .u64 G]).below hb (by simp only [World.size_alloc]; omega))
        rw [World.size_alloc] at KA1
        have L1 := Lib.hid ((((Below.refl _ w).alloc (Nat.le_refl _) _).alloc (by simp only [World.size_alloc]; omega) _).trans (hb.mono (by simp only [World.size_alloc]; omega)))
        have E1 := Lib.hid (((hE.out.alloc _).alloc _).below hb)
        clear hb
        obtain ⟨f0, f1, f2, f3⟩ := KP1.out.c4
        obtain ⟨g0, g1, g2⟩ := KA1.out.c3
        go_wp2_with fail
        refine Calls.mono (HH.out _) ?_
        rintro e w2 ⟨rfl, hb⟩
        clear f0 f1 f2 f3 g0 g1 g2
        have KP2 := Lib.hid (KP1.out.below hb KP1.out.lt)
        have KA2 := Lib.hid (KA1.out.below hb KA1.out.lt)
        have L2 := Lib.hid (L1.out.trans (hb.mono L1.out.size))
        have E2 := Lib.hid (E1.out.below hb)
        clear hb
        replace KP2 := Lib.hid (KP2.out.alloc (.cells #[.bool false, .int .u64 0, .int .u64 0, .int .i64 0] 26))
        replace KA2 := Lib.hid (KA2.out.alloc (.cells #[.bool false, .int .u64 0, .int .u64 0, .int .i64 0] 26))
        have KX2 := Lib.hid (Blk.new w2 26 #[.bool false, .int .u64 0, .int .u64 0, .int .i64 0])
        replace L2 := Lib.hid (L2.out.alloc L2.out.size (.cells #[.bool false, .int .u64 0, .int .u64 0, .int .i64 0] 26))
        replace E2 := Lib.hid (E2.out.alloc (.cells #[.bool false, .int .u64 0, .int .u64 0, .int .i64 0] 26))
        replace KP2 := Lib.hid (KP2.out.alloc (.cells #[.bool false, .int .u64 0, .int .u64 0, .int .i64 0] 26))
        replace KA2 := Lib.hid (KA2.out.alloc (.cells #[.bool false, .int .u64 0, .int .u64 0, .int .i64 0] 26))
        replace KX2 := Lib.hid (KX2.out.alloc (.cells #[.bool false, .int .u64 0, .int .u64 0, .int .i64 0] 26))
        have KY2 := Lib.hid (Blk.new (w2.alloc (.cells #[.bool false, .int .u64 0, .int .u64 0, .int .i64 0] 26)) 26 #[.bool false, .int .u64 0, .int .u64 0, .int .i64 0])
        replace L2 := Lib.hid (L2.out.alloc L2.out.size (.cells #[.bool false, .int .u64 0, .int .u64 0, .int .i64 0] 26))
        replace E2 := Lib.hid (E2.out.alloc (.cells #[.bool false, .int .u64 0, .int .u64 0, .int .i64 0] 26))
        rw [World.size_alloc] at KY2
        obtain ⟨f0, f1, f2, f3⟩ := KP2.out.c4
        obtain ⟨g0, g1, g2⟩ := KA2.out.c3
        obtain ⟨h0, h1, h2, h3⟩ := KX2.out.c4
        obtain ⟨k0, k1, k2, k3⟩ := KY2.out.c4
        go_wp2_with fail
        refine Calls.mono (HV.out _) ?_
        rintro e w3 ⟨rfl, hb⟩
        clear f0 f1 f2 f3 g0 g1 g2 h0 h1 h2 h3 k0 k1 k2 k3
        have KP3 := Lib.hid (KP2.out.below hb KP2.out.lt)
        have KA3 := Lib.hid (KA2.out.below hb KA2.out.lt)
        have KX3 := Lib.hid (KX2.out.below hb KX2.out.lt)
        have KY3 := Lib.hid (KY2.out.below hb KY2.out.lt)
        have L3 := Lib.hid (L2.out.trans (hb.mono L2.out.size))
        have E3 := Lib.hid (E2.out.below hb)
        clear hb
        obtain ⟨f0, f1, f2, f3⟩ := KP3.out.c4
        obtain ⟨g0, g1, g2⟩ := KA3.out.c3
        obtain ⟨h0, h1, h2, h3⟩ := KX3.out.c4
        obtain ⟨k0, k1, k2, k3⟩ := KY3.out.c4
        go_wp2
        all_goals
          go_ret
          exact ⟨ret_bool (by simp [*]), L3.out⟩
      · have hW2 : a0_3 = 128 := hW
        subst hW2
        clear hW
        go_enter Tryd.func6, Tryd.ntmps6
        go_wp2_with fail
        refine Calls.mono (pawake_yes _ ((hE.out.alloc _).alloc _)) ?_
        rintro e w1 ⟨rfl, hb⟩
        have KP1 := Lib.hid (((Blk.new w 26 #[.bool true, .int .u64 A, .int .u64 B, .int .i64 128]).alloc (.cells #[.bool a1_0, .int .u64 F, .int .u64 G] 24)).below hb (by simp only [World.size_alloc]; omega))
        have KA1 := Lib.hid ((Blk.new (w.alloc (.cells #[.bool true, .int .u64 A, .int .u64 B, .int .i64 128] 26)) 24 #[.bool a1_0, .int .u64 F, .int .u64 G]).below hb (by simp only [World.size_alloc]; omega))
        rw [World.size_alloc] at KA1
        have L1 := Lib.hid ((((Below.refl _ w).alloc (Nat.le_refl _) _).alloc (by simp only [World.size_alloc]; omega) _).trans (hb.mono (by simp only [World.size_alloc]; omega)))
        have E1 := Lib.hid (((hE.out.alloc _).alloc _).below hb)
        clear hb
        obtain ⟨f0, f1, f2, f3⟩ := KP1.out.c4
        obtain ⟨g0, g1, g2⟩ := KA1.out.c3
        go_wp2_with fail
        refine Calls.mono (HH.out _) ?_
        rintro e w2 ⟨rfl, hb⟩
        clear f0 f1 f2 f3 g0 g1 g2
        have KP2 := Lib.hid (KP1.out.below hb KP1.out.lt)
        have KA2 := Lib.hid (KA1.out.below hb KA1.out.lt)
        have L2 := Lib.hid (L1.out.trans (hb.mono L1.out.size))
        have E2 := Lib.hid (E1.out.below hb)
        clear hb
        replace KP2 := Lib.hid (KP2.out.alloc (.cells #[.bool false, .int .u64 0, .int .u64 0, .int .i64 0] 26))
        replace KA2 := Lib.hid (KA2.out.alloc (.cells #[.bool false, .int .u64 0, .int .u64 0, .int .i64 0] 26))
        have KX2 := Lib.hid (Blk.new w2 26 #[.bool false, .int .u64 0, .int .u64 0, .int .i64 0])
        replace L2 := Lib.hid (L2.out.alloc L2.out.size (.cells #[.bool false, .int .u64 0, .int .u64 0, .int .i64 0] 26))
        replace E2 := Lib.hid (E2.out.alloc (.cells #[.bool false, .int .u64 0, .int .u64 0, .int .i64 0] 26))
        replace KP2 := Lib.hid (KP2.out.alloc (.cells #[.bool false, .int .u64 0, .int .u64 0, .int .i64 0] 26))
        replace KA2 := Lib.hid (KA2.out.alloc (.cells #[.bool false, .int .u64 0, .int .u64 0, .int .i64 0] 26))
        replace KX2 := Lib.hid (KX2.out.alloc (.cells #[.bool false, .int .u64 0, .int .u64 0, .int .i64 0] 26))
        have KY2 := Lib.hid (Blk.new (w2.alloc (.cells #[.bool false, .int .u64 0, .int .u64 0, .int .i64 0] 26)) 26 #[.bool false, .int .u64 0, .int .u64 0, .int .i64 0])
        replace L2 := Lib.hid (L2.out.alloc L2.out.size (.cells #[.bool false, .int .u64 0, .int .u64 0, .int .i64 0] 26))
        replace E2 := Lib.hid (E2.out.alloc (.cells #[.bool false, .int .u64 0, .int .u64 0, .int .i64 0] 26))
        rw [World.size_alloc] at KY2
        obtain ⟨f0, f1, f2, f3⟩ := KP2.out.c4
        obtain ⟨g0, g1, g2⟩ := KA2.out.c3
        obtain ⟨h0, h1, h2, h3⟩ := KX2.out.c4
        obtain ⟨k0, k1, k2, k3⟩ := KY2.out.c4
        go_wp2_with fail
        refine Calls.mono (HV.out _) ?_
        rintro e w3 ⟨rfl, hb⟩
        clear f0 f1 f2 f3 g0 g1 g2 h0 h1 h2 h3 k0 k1 k2 k3
        have KP3 := Lib.hid (KP2.out.below hb KP2.out.lt)
        have KA3 := Lib.hid (KA2.out.below hb KA2.out.lt)
        have KX3 := Lib.hid (KX2.out.below hb KX2.out.lt)
        have KY3 := Lib.hid (KY2.out.below hb KY2.out.lt)
        have L3 := Lib.hid (L2.out.trans (hb.mono L2.out.size))
        have E3 := Lib.hid (E2.out.below hb)
        clear hb
        obtain ⟨f0, f1, f2, f3⟩ := KP3.out.c4
        obtain ⟨g0, g1, g2⟩ := KA3.out.c3
        obtain ⟨h0, h1, h2, h3⟩ := KX3.out.c4
        obtain ⟨k0, k1, k2, k3⟩ := KY3.out.c4
        go_wp2
        all_goals
          go_ret
          exact ⟨ret_bool (by simp [*]), L3.out⟩

set_option maxRecDepth 100000 in
theorem contract (H : Type) (enc : TypeId × Value → H) (W : World) (base : Nat) (args : Array Value) (ds gs : List (DataW H)) (before : List MemPlace)
    (hval0 : ∀ (j : Nat) t v, Tryd.f6.params[j]? = some t → args[j]? = some v → Value.okWide Tryd.prog W .any base t v)
    (hW : DataW.Whole enc Tryd.prog Tryd.f6.params.toList Rows.prefixHalvesSpec.vars false W args.toList ds gs before)
    (hsz0 : (DataW.weightsEach Tryd.prog (Tryd.f6.params.toList ++ Rows.prefixHalvesSpec.plain.varTypes Tryd.prog) (ds ++ gs)).all (· ≤ reachBytes) = true) (hE : Env W) :
    Calls Tryd.prog 6 args W fun e W' => ∃ v, e = .returned v ∧ Rows.prefixHalvesSpec.post enc Tryd.prog Tryd.f6 false true false false W args v W' := by
  have hsz := hsz0
  clear hsz0
  have hval := hval0
  clear hval0
  have hW' := hW
  obtain ⟨p, q, hA0, hV, rfl, hfz, hnd⟩ := hW
  have hA : DataW.TrodAll enc Tryd.prog W 0 (fun _ => true) true Tryd.f6.params.toList args.toList ds p := hA0
  rw [Tryd.params6] at hA hval hsz
  obtain ⟨v0, vs0, d0, ds0, p0, q0, hargs, rfl, rfl, h0, r0⟩ := trodAll_cons hA
  obtain ⟨v1, vs1, d1, ds1, p1, q1, rfl, rfl, rfl, h1, r1⟩ := trodAll_cons r0
  obtain ⟨rfl, rfl, rfl⟩ := trodAll_nil r1
  obtain rfl : args = #[v0, v1] := by cases args; simp_all
  obtain ⟨rfl, rfl⟩ := trodVars_none hV
  have k0 := h0
  have lt0 : ∀ x ∈ p0, x.block < W.heap.size := by obtain ⟨m, hm⟩ := k0; exact DataW.trod_lt m _ _ _ hm
  obtain ⟨a0_0, a0_1, a0_2, a0_3, rfl, w0_1, w0_2, w0_3, ep0⟩ := open_pfx (hval 0 26 v0 rfl rfl) h0
  have k1 := h1
  have lt1 : ∀ x ∈ p1, x.block < W.heap.size := by obtain ⟨m, hm⟩ := k1; exact DataW.trod_lt m _ _ _ hm
  obtain ⟨v1_0, v1_1, v1_2, y1_0, y1_1, y1_2, n1, rfl, ed1, ep1, f1_0, f1_1, f1_2⟩ := Go.Joins.open_agg3 Tryd.underlying24 (by kernel_rfl) (by kernel_rfl) (hval 1 24 v1 rfl rfl) h1
  obtain ⟨a1_0, e1_0, _⟩ := DataW.trod_bool Tryd.underlying4 f1_0
  injection e1_0 with e1_0 _
  subst e1_0
  obtain ⟨a1_1, e1_1, _, w1_1⟩ := DataW.trod_int Tryd.underlying22 f1_1
  injection e1_1 with e1_1 _
  subst e1_1
  obtain ⟨a1_2, e1_2, _, w1_2⟩ := DataW.trod_int Tryd.underlying22 f1_2
  injection e1_2 with e1_2 _
  subst e1_2
  clear hA0
  refine (walk W hE a0_0 a0_1 w0_1 a0_2 w0_2 a0_3 w0_3 a1_0 a1_1 w1_1 a1_2 w1_2).mono fun e W' ⟨he, bel⟩ => ?_
  subst he
  exact ⟨_, rfl, _, _, _, [], _, [], hW', trodAll_mk1 (shut_bool Tryd.underlying4 _), (trodAll_cons_mk (Below.trod laidOut (by kernel_rfl) (of_decide_eq_true (by kernel_rfl)) k0 bel lt0) (trodAll_cons_mk (Below.trod laidOut (by kernel_rfl) (of_decide_eq_true (by kernel_rfl)) k1 bel lt1) trodAll_mk0)), rfl, bel.frame _, fun h => by cases h⟩

theorem laid_met (os : Os) (args : Array Value) : laidMet Tryd.prog Rows.prefixHalvesRow.laid ((World.laidAll Tryd.prog os Rows.prefixHalvesRow.laid).forCall (fun _ _ => 0) ⟨#[], args, []⟩).memory :=
  laidMet_laidAll _ (by kernel_rfl) (by kernel_rfl)
set_option maxRecDepth 100000 in
theorem pre_row (os : Os) {H : Type} (enc : TypeId × Value → H) :
    (OpenSpec.ofChange Rows.prefixHalvesSpec).preRow enc Tryd.prog Tryd.f6 Rows.prefixHalvesRow.domain false Rows.prefixHalvesRow.laid ((World.laidAll Tryd.prog os Rows.prefixHalvesRow.laid).forCall (fun _ _ => 0) ⟨#[], #[.agg #[.bool false, .int .u64 0, .int .u64 0, .int .i64 0], .agg #[.bool false, .int .u64 0, .int .u64 0]], []⟩).memory #[.agg #[.bool false, .int .u64 0, .int .u64 0, .int .i64 0], .agg #[.bool false, .int .u64 0, .int .u64 0]] := by
  exact ⟨⟨ChangeSpec.pre_of_preB (fuel := 8) (by kernel_rfl), by rw [MakeChecks.laidMetH_plain _ _ _ (by kernel_rfl)]; exact laid_met os _⟩, sizedMet_of_sizedB (fuel := 8) (by kernel_rfl)⟩
set_option maxRecDepth 100000 in
theorem lifted (os : Os) (started : os.Started) (H : Type) (enc : TypeId × Value → H) (F : Stop.Interp) :
    ReturnsInHanded {} Tryd.checked os 6 .any ((OpenSpec.ofChange Rows.prefixHalvesSpec).preRow enc Tryd.prog Tryd.f6 Rows.prefixHalvesRow.domain false Rows.prefixHalvesRow.laid) (((OpenSpec.ofChange Rows.prefixHalvesSpec).at F).post enc Tryd.prog Tryd.f6 false true false false) := by
  refine returnsInHanded_of_row (C := Tryd.checked) (s := (OpenSpec.ofChange Rows.prefixHalvesSpec)) own started (by kernel_rfl) Tryd.func6
    ⟨World.laidAll Tryd.prog os Rows.prefixHalvesRow.laid, fun _ _ => 0, ⟨#[], #[.agg #[.bool false, .int .u64 0, .int .u64 0, .int .i64 0], .agg #[.bool false, .int .u64 0, .int .u64 0]], []⟩, World.laidAll_os _ _ _, World.shaped_of_ZipB (by kernel_rfl) (by kernel_rfl), rfl, (Input.okWide_of_okWideB (by kernel_rfl)).2, pre_row os enc, (by simp only [Assume.holds]; exact ⟨by simp, by simp, fun _ => Modest.zero, by simp, by simp⟩)⟩ ?_
  intro W base args ds gs before hval hW _ hcond hsz hL hsh _
  rw [MakeChecks.laidMetH_plain _ _ _ (by kernel_rfl)] at hL
  exact contract H enc W base args ds gs before hval hW hsz (env_of hL hsh)

theorem over : Rows.prefixHalvesRow.holds Tryd.pinned (OpenSpec.ofChange Rows.prefixHalvesSpec) :=
  OpenClaim.holds_of_cond 6 Tryd.f6 rfl rfl rfl rfl rfl rfl rfl ⟨rfl, rfl, rfl, rfl, rfl⟩ rfl rfl rfl rfl rfl (by kernel_rfl) Tryd.func6 (by kernel_rfl)
    (of_decide_eq_true (by kernel_rfl)) (by unfold Func.isWrapper; first | (rw [if_pos (by decide +kernel)]; kernel_rfl) | (rw [if_neg (by decide +kernel)]; exact ⟨rfl, rfl⟩))
    (fun os started H enc _ F => by rw [OpenClaim.pre_eq_preRow]; exact lifted os started H enc F)

theorem proved : Rows.PrefixHalvesCardSaid :=
  Claim7.holds_tied_plain_at .later [] Rows.prefixHalvesCard.laidKinds true Rows.prefixHalvesCard.stood.harness true over (fun _ h => by cases h) (by kernel_rfl) (fun _ h => by cases h) prefixHalves_row_tie rfl ⟨rfl, rfl⟩ (by kernel_rfl) rfl
    (fun f fn hf hfn => by
      obtain rfl : f = 6 := Option.some.inj ((show Tryd.prog.funcNamed Rows.prefixHalvesRow.func = some 6 by kernel_rfl).symm.trans hf) |>.symm
      obtain rfl : fn = Tryd.f6 := (Option.some.inj (Tryd.func6.symm.trans hfn)).symm
      exact ⟨by kernel_rfl, fun j t ht => by
        rw [Tryd.params6] at ht
        have hm : t ∈ [26, 24] := by simpa using Array.mem_of_getElem? ht
        have hall : ([26, 24].all fun u => !Tryd.prog.wantsStandIn u) = true := by kernel_rfl
        exact (show Tryd.prog.wantsStandIn t = false by simpa using List.all_eq_true.1 hall t hm)⟩)
    (by kernel_rfl)
#print axioms proved
end Go.Proofs.YtecgmejfkfoceaaDoor.Hv
