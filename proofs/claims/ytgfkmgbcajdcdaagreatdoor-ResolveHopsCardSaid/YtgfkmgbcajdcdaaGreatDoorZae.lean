/-
  Several texts in one: RbA, RbEq.
-/
import Derived.Test.YtgfkmgbcajdcdaaGreatDoorZac
import Derived.Test.YtgfkmgbcajdcdaaGreatDoorZad
import Derived.Test.YtgfkmgbcajdcdaaGreatDoorZaa
set_option linter.unusedVariables false
set_option maxRecDepth 100000
set_option maxHeartbeats 16000000
namespace Go.Proofs.YtgfkmgbcajdcdaaGreatDoor
open Go.RowKit

abbrev adR (a : AdR) : Value := .agg #[.bool a.1, .int .u64 (a.2.1 : Int), .int .u64 (a.2.2 : Int)]
abbrev pfR (p : PfI) : Value := .agg #[.bool p.1.1, .int .u64 (p.1.2.1 : Int), .int .u64 (p.1.2.2 : Int), .int .i64 p.2]
abbrev paA (x : PaI) : Array Value := #[.int .i64 x.1, .int .i64 x.2.1, .bool x.2.2.1.1, .int .u64 (x.2.2.1.2.1 : Int), .int .u64 (x.2.2.1.2.2 : Int), .int .i64 x.2.2.2.1, .bool x.2.2.2.2]
abbrev paR (x : PaI) : Value := .agg (paA x)
theorem dist_any (p : Int) (w : World) : Calls Tryz.prog 174 #[.int .i64 p] w fun e w' => e = .returned (.int .i64 (distI p)) ∧ w = w' := by
 obtain ⟨R, hR⟩ : ∃ R, distI p = R := ⟨_, rfl⟩
 rw [hR]
 have hcs : (p = 0 ∧ R = 0) ∨ (p = 1 ∧ R = 1) ∨ (p = 2 ∧ R = 20) ∨ (p = 3 ∧ R = 110) ∨ (p = 4 ∧ R = 120) ∨ (¬ p = 0 ∧ ¬ p = 1 ∧ ¬ p = 2 ∧ ¬ p = 3 ∧ ¬ p = 4 ∧ R = 255) := by
  unfold distI at hR
  by_cases h0 : p = 0
  ·rw [if_pos h0] at hR; exact .inl ⟨h0, hR.symm⟩
  rw [if_neg h0] at hR
  by_cases h1 : p = 1
  ·rw [if_pos h1] at hR; exact .inr (.inl ⟨h1, hR.symm⟩)
  rw [if_neg h1] at hR
  by_cases h2 : p = 2
  ·rw [if_pos h2] at hR; exact .inr (.inr (.inl ⟨h2, hR.symm⟩))
  rw [if_neg h2] at hR
  by_cases h3 : p = 3
  ·rw [if_pos h3] at hR; exact .inr (.inr (.inr (.inl ⟨h3, hR.symm⟩)))
  rw [if_neg h3] at hR
  by_cases h4 : p = 4
  ·rw [if_pos h4] at hR; exact .inr (.inr (.inr (.inr (.inl ⟨h4, hR.symm⟩))))
  rw [if_neg h4] at hR
  exact .inr (.inr (.inr (.inr (.inr ⟨h0, h1, h2, h3, h4, hR.symm⟩))))
 clear hR
 rcases hcs with ⟨rfl, rfl⟩ | ⟨rfl, rfl⟩ | ⟨rfl, rfl⟩ | ⟨rfl, rfl⟩ | ⟨rfl, rfl⟩ | ⟨h0, h1, h2, h3, h4, rfl⟩
 case inr.inr.inr.inr.inr =>
  have b0 : (p == 0) = false := by simpa using h0
  have b1 : (p == 1) = false := by simpa using h1
  have b2 : (p == 2) = false := by simpa using h2
  have b3 : (p == 3) = false := by simpa using h3
  have b4 : (p == 4) = false := by simpa using h4
  clear h0 h1 h2 h3 h4
  go_enter Tryz.func174, Tryz.ntmps174
  go_wp2
  go_ret
  exact ⟨rfl, rfl⟩
 all_goals
  go_enter Tryz.func174, Tryz.ntmps174
  go_wp2
  go_ret
  exact ⟨rfl, rfl⟩
theorem eq_adr (s s' : Bool) (h l h' l' : Int) (W : World) : (Op.equalIn 10000 28 (.agg #[.bool s, .int .u64 h, .int .u64 l]) (.agg #[.bool s', .int .u64 h', .int .u64 l'])).run Tryz.prog W = .ok (decide (s = s' ∧ h = h' ∧ l = l')) W := by
 by_cases h1 : s = s'
 ·subst h1
  by_cases h2 : h = h'
  ·subst h2
   by_cases h3 : l = l'
   ·subst h3
    go_simp
   ·have h4 : (l == l') = false := by simpa using h3
    rw [show decide (s = s ∧ h = h ∧ l = l') = false by simp [h3]]
    go_simp
  ·have h4 : (h == h') = false := by simpa using h2
   rw [show decide (s = s ∧ h = h' ∧ l = l') = false by simp [h2]]
   go_simp
 ·have h4 : (s == s') = false := by simpa using h1
  rw [show decide (s = s' ∧ h = h' ∧ l = l') = false by simp [h1]]
  go_simp
theorem eq_adR (x y : AdR) {b : Bool} (hb : decide (x = y) = b) (W : World) : (Op.equalIn 10000 28 (.agg #[.bool x.1, .int .u64 (x.2.1 : Int), .int .u64 (x.2.2 : Int)]) (.agg #[.bool y.1, .int .u64 (y.2.1 : Int), .int .u64 (y.2.2 : Int)])).run Tryz.prog W = .ok b W := by
 rw [eq_adr, ← hb]
 obtain ⟨s, h, l⟩ := x
 obtain ⟨s', h', l'⟩ := y
 congr 2
 simp [Prod.ext_iff]
 intro _
 constructor <;> (rintro ⟨h1, h2⟩; constructor <;> omega)
theorem ahead_any (x y : AdR) (w : World) : Calls Tryz.prog 175 #[adR x, adR y] w fun e w' => e = .returned (.int .i64 (ahdI x y)) ∧ Tch w w' [] := by
 obtain ⟨b, hb⟩ : ∃ b, decide (x = y) = b := ⟨_, rfl⟩
 have HQ := eqA_eql 28 _ _ (eq_adR x y hb)
 obtain ⟨R, hR⟩ : ∃ R, ahdI x y = R := ⟨_, rfl⟩
 rw [hR]
 unfold ahdI at hR
 obtain ⟨s, xh, xl⟩ := x
 obtain ⟨s', yh, yl⟩ := y
 have HQ : ∀ W, (binOp .eql 28 (.agg #[.bool s, .int .u64 (xh : Int), .int .u64 (xl : Int)]) (.agg #[.bool s', .int .u64 (yh : Int), .int .u64 (yl : Int)])).run Tryz.prog W = .ok (.bool b) W := HQ
 have HT : Hid (∀ (o o' : Obj), Tch w ((w.alloc o).alloc o') []) := lH (fun o o' => ((Tch.refl w []).alloc _).alloc _)
 have x0 := ((Blk.new w 28 #[.bool s, .int .u64 (xh : Int), .int .u64 (xl : Int)]).alloc (.cells #[.bool s', .int .u64 (yh : Int), .int .u64 (yl : Int)] 28)).c3
 obtain ⟨x0, x1, x2⟩ := x0
 simp only at hR
 cases b with
 | true =>
  have hR0 : R = 0 := by rw [← hR, if_pos (of_decide_eq_true hb)]
  subst hR0
  clear hR hb
  go_enter Tryz.func175, Tryz.ntmps175
  go_wp2
  go_ret
  exact ⟨rfl, HT.out _ _⟩
 | false =>
  have hne : ¬ ((s, xh, xl) : AdR) = (s', yh, yl) := of_decide_eq_false hb
  rw [if_neg hne] at hR
  by_cases hs : s = s'
  ·subst hs
   have bs : (s != s) = false := by simp
   have be : (s == s) = true := by simp
   by_cases h1 : (xh : Int) < (yh : Int)
   ·have hR1 : R = -1 := by rw [← hR, if_pos (.inr ⟨rfl, .inl (by omega)⟩)]
    subst hR1
    clear hR hb hne
    go_enter Tryz.func175, Tryz.ntmps175
    go_wp2
    go_ret
    exact ⟨rfl, HT.out _ _⟩
   ·by_cases h2 : (xh : Int) = (yh : Int)
    ·have b2 : ((xh : Int) == (yh : Int)) = true := by simpa using h2
     by_cases h3 : (xl : Int) < (yl : Int)
     ·have hR1 : R = -1 := by rw [← hR, if_pos (.inr ⟨rfl, .inr ⟨by omega, by omega⟩⟩)]
      subst hR1
      clear hR hb hne h2
      go_enter Tryz.func175, Tryz.ntmps175
      go_wp2
      go_ret
      exact ⟨rfl, HT.out _ _⟩
     ·have hR1 : R = 1 := by rw [← hR, if_neg (fun z => by rcases z with z | z; exact z.1 rfl; omega)]
      subst hR1
      clear hR hb hne h2
      go_enter Tryz.func175, Tryz.ntmps175
      go_wp2
      go_ret
      exact ⟨rfl, HT.out _ _⟩
    ·have b2 : ((xh : Int) == (yh : Int)) = false := by simpa using h2
     have hR1 : R = 1 := by rw [← hR, if_neg (fun z => by rcases z with z | z; exact z.1 rfl; omega)]
     subst hR1
     clear hR hb hne h2
     go_enter Tryz.func175, Tryz.ntmps175
     go_wp2
     go_ret
     exact ⟨rfl, HT.out _ _⟩
  ·have bs : (s != s') = true := by simpa using hs
   have be : (s == s') = false := by simpa using hs
   cases s' with
   | true =>
    have hR1 : R = -1 := by rw [← hR, if_pos (.inl ⟨hs, rfl⟩)]
    subst hR1
    clear hR hb hne hs
    go_enter Tryz.func175, Tryz.ntmps175
    go_wp2
    go_ret
    exact ⟨rfl, HT.out _ _⟩
   | false =>
    have hR1 : R = 1 := by rw [← hR, if_neg (fun z => by rcases z with z | z; cases z.2; exact hs z.1)]
    subst hR1
    clear hR hb hne hs
    go_enter Tryz.func175, Tryz.ntmps175
    go_wp2
    go_ret
    exact ⟨rfl, HT.out _ _⟩
theorem betterD (x y : PaI) (w : World) : Calls Tryz.prog 133 #[paR x, paR y] w fun e w' => e = .returned (.bool (betI x y)) ∧ Tch w w' [] := by
 obtain ⟨R, hR⟩ : ∃ R, betI x y = R := ⟨_, rfl⟩
 rw [hR]
 have HD1 := lH (fun W => dist_any x.1 W)
 have HD2 := lH (fun W => dist_any y.1 W)
 have HAh := lH (fun W => ahead_any x.2.2.1 y.2.2.1 W)
 unfold betI at hR
 obtain ⟨d1, hd1⟩ : ∃ d, distI x.1 = d := ⟨_, rfl⟩
 obtain ⟨d2, hd2⟩ : ∃ d, distI y.1 = d := ⟨_, rfl⟩
 obtain ⟨c, hc⟩ : ∃ c, ahdI x.2.2.1 y.2.2.1 = c := ⟨_, rfl⟩
 rw [hd1, hd2, hc] at hR
 rw [hd1] at HD1
 rw [hd2] at HD2
 rw [hc] at HAh
 clear hd1 hd2 hc
 obtain ⟨xp, xm, ⟨xs, xh, xl⟩, xo, xa⟩ := x
 obtain ⟨yp, ym, ⟨ys, yh, yl⟩, yo, ya⟩ := y
 simp only at hR
 obtain ⟨xb, hxb⟩ : ∃ xb, w.heap.size = xb := ⟨_, rfl⟩
 obtain ⟨yb, hyb⟩ : ∃ yb, xb + 1 = yb := ⟨_, rfl⟩
 obtain ⟨W2, hW2⟩ : ∃ W2, (w.alloc (.cells #[.int .i64 xp, .int .i64 xm, .bool xs, .int .u64 (xh : Int), .int .u64 (xl : Int), .int .i64 xo, .bool xa] 49)).alloc (.cells #[.int .i64 yp, .int .i64 ym, .bool ys, .int .u64 (yh : Int), .int .u64 (yl : Int), .int .i64 yo, .bool ya] 49) = W2 := ⟨_, rfl⟩
 have HX : Hid (Blk W2 xb 49 #[.int .i64 xp, .int .i64 xm, .bool xs, .int .u64 (xh : Int), .int .u64 (xl : Int), .int .i64 xo, .bool xa]) := lH (hW2 ▸ hxb ▸ (Blk.new w _ _).alloc _)
 have HY : Hid (Blk W2 yb 49 #[.int .i64 yp, .int .i64 ym, .bool ys, .int .u64 (yh : Int), .int .u64 (yl : Int), .int .i64 yo, .bool ya]) := lH (by
  have := Blk.new (w.alloc (.cells #[.int .i64 xp, .int .i64 xm, .bool xs, .int .u64 (xh : Int), .int .u64 (xl : Int), .int .i64 xo, .bool xa] 49)) 49 #[.int .i64 yp, .int .i64 ym, .bool ys, .int .u64 (yh : Int), .int .u64 (yl : Int), .int .i64 yo, .bool ya]
  rw [zA, hxb, hyb, hW2] at this
  exact this)
 have HT2 : Hid (Tch w W2 []) := lH (hW2 ▸ ((Tch.refl w []).alloc _).alloc _)
 have HW2 := lH (And.intro hW2 (And.intro hxb hyb))
 have HC0 : Hid (W2.cell? ⟨xb, 0, none⟩ = some (Value.int .i64 xp) ∧ W2.cell? ⟨yb, 0, none⟩ = some (Value.int .i64 yp)) := lH ⟨(HX.out.cell 0).trans rfl, (HY.out.cell 0).trans rfl⟩
 clear hW2 hxb hyb
 go_enter Tryz.func133, Tryz.ntmps133
 go_wp2
 rw [HW2.out.1, HW2.out.2.1, HW2.out.2.2]
 refine wp_region_held_drew (S := (fun W => W.cell? ⟨xb, 0, none⟩ = some (Value.int .i64 xp) ∧ W.cell? ⟨yb, 0, none⟩ = some (Value.int .i64 yp))) (by kernel_rfl) ?_ (fun hHeld => ?_)
 ·(exact HC0.out)
 refine tkH 0 ?_
 refine tkH 1 ?_
 refine tkH 3 ?_
 refine tkH 4 ?_
 refine wpAnyH_ready (rs := [2]) (by kernel_rfl) (by simp) ?_
 refine AllReadyH.cons (o := { dst := some 8, op := Go.Op.call { callee := Go.Callee.value (Go.Operand.func 174), args := #[Go.Operand.tmp 7], argTypes := #[3] }, type := 3, pos := "ref.go:52", after := #[{ on := 1, ground := Go.Ground.data }], guard := none }) rfl (fun K hK => ?_) AllReadyH.nil
 go_simp
 (go_at_call 174; (with_reducible refine cZm (HD1.out _) ?_); rintro e w' ⟨rfl, rfl⟩)
 go_wp2_with fail
 refine hK.out _ _ ?_ (fun hHeld => ?_)
 ·(exact HC0.out)
 clear hK K
 try simp only [Act.put, List.setIfInBounds_toArray, List.set_cons_zero, List.set_cons_succ]
 refine wpAnyH_ready (rs := [5]) (by kernel_rfl) (by simp) ?_
 refine AllReadyH.cons (o := { dst := some 11, op := Go.Op.call { callee := Go.Callee.value (Go.Operand.func 174), args := #[Go.Operand.tmp 10], argTypes := #[3] }, type := 3, pos := "ref.go:52", after := #[{ on := 4, ground := Go.Ground.data }, { on := 2, ground := Go.Ground.chain }], guard := none }) rfl (fun K hK => ?_) AllReadyH.nil
 go_simp
 (go_at_call 174; (with_reducible refine cZm (HD2.out _) ?_); rintro e w' ⟨rfl, rfl⟩)
 go_wp2_with fail
 refine hK.out _ _ ?_ (fun hHeld => ?_)
 ·(exact HC0.out)
 clear hK K
 try simp only [Act.put, List.setIfInBounds_toArray, List.set_cons_zero, List.set_cons_succ]
 refine tkH 6 ?_
 refine wpAnyH_done (by kernel_rfl) ?_ _
 have x1 : W2.drew.cell? ⟨xb, 1, none⟩ = some (Value.int .i64 xm) := (HX.out.cell 1).trans rfl
 have y1 : W2.drew.cell? ⟨yb, 1, none⟩ = some (Value.int .i64 ym) := (HY.out.cell 1).trans rfl
 have x5 : W2.drew.cell? ⟨xb, 5, none⟩ = some (Value.int .i64 xo) := (HX.out.cell 5).trans rfl
 have y5 : W2.drew.cell? ⟨yb, 5, none⟩ = some (Value.int .i64 yo) := (HY.out.cell 5).trans rfl
 have x2 : W2.drew.cell? ⟨xb, 2, none⟩ = some (Value.bool xs) := (HX.out.cell 2).trans rfl
 have x3 : W2.drew.cell? ⟨xb, 3, none⟩ = some (Value.int .u64 (xh : Int)) := (HX.out.cell 3).trans rfl
 have x4 : W2.drew.cell? ⟨xb, 4, none⟩ = some (Value.int .u64 (xl : Int)) := (HX.out.cell 4).trans rfl
 have y2 : W2.drew.cell? ⟨yb, 2, none⟩ = some (Value.bool ys) := (HY.out.cell 2).trans rfl
 have y3 : W2.drew.cell? ⟨yb, 3, none⟩ = some (Value.int .u64 (yh : Int)) := (HY.out.cell 3).trans rfl
 have y4 : W2.drew.cell? ⟨yb, 4, none⟩ = some (Value.int .u64 (yl : Int)) := (HY.out.cell 4).trans rfl
 by_cases hd : d1 = d2
 ·rw [if_neg (by simpa using hd)] at hR
  have bd : (d1 != d2) = false := by simpa using hd
  clear hd
  by_cases hm : xm = ym
  ·rw [if_neg (by simpa using hm)] at hR
   have bm : (xm != ym) = false := by simpa using hm
   clear hm
   by_cases ho : xo = yo
   ·rw [if_neg (by simpa using ho)] at hR
    have bo : (xo != yo) = false := by simpa using ho
    have HR := lH hR
    clear ho hR
    go_wp2_with fail
    refine cZm (HAh.out _) ?_
    rintro e w5 ⟨rfl, hT5⟩
    have hX5 := hT5.blk (w := W2.drew) (show Blk W2.drew xb _ _ from HX.out) (by simp)
    have hY5 := hT5.blk (w := W2.drew) (show Blk W2.drew yb _ _ from HY.out) (by simp)
    have u6 := (hX5.cell 6).trans (show _ = some (Value.bool xa) by rfl)
    have v6 := (hY5.cell 6).trans (show _ = some (Value.bool ya) by rfl)
    have HT5 := lH (HT2.out.drew.trans hT5)
    clear hT5 hX5 hY5 x1 x2 x3 x4 x5 y1 y2 y3 y4 y5
    by_cases hc0 : c < 0
    ·have HE : Hid (R = true) := lH (by rw [← HR.out, decide_eq_true hc0]; rfl)
     go_wp2
     go_ret
     exact ⟨by rw [HE.out]; rfl, HT5.out⟩
    ·by_cases hc1 : c = 0
     ·have bc : (c == 0) = true := by simpa using hc1
      have HE : Hid (R = (!xa && ya)) := lH (by rw [← HR.out, decide_eq_false hc0, decide_eq_true hc1]; simp)
      clear hc1
      have hdc : decide (c < 0) = false := decide_eq_false hc0
      have HDc := lH hdc
      clear hdc
      cases xa with
      | true =>
       go_wp2
       go_ret
       exact ⟨by rw [HE.out]; show Ending.returned (Value.bool (decide (c < 0))) = _; rw [HDc.out]; rfl, HT5.out⟩
      | false =>
       go_wp2
       go_ret
       exact ⟨by rw [HE.out]; show Ending.returned (Value.bool (decide (c < 0) || ya)) = _; rw [HDc.out]; rfl, HT5.out⟩
     ·have bc : (c == 0) = false := by simpa using hc1
      have HE : Hid (R = false) := lH (by rw [← HR.out, decide_eq_false hc0, decide_eq_false hc1]; rfl)
      have HDc := lH (decide_eq_false hc0)
      clear hc1
      go_wp2
      go_ret
      exact ⟨by rw [HE.out]; show Ending.returned (Value.bool (decide (c < 0))) = _; rw [HDc.out], HT5.out⟩
   ·rw [if_pos ho] at hR
    have bo : (xo != yo) = true := by simpa using ho
    have HR := lH hR
    clear ho hR
    go_wp2
    go_ret
    exact ⟨by rw [← HR.out]; rfl, HT2.out.drew⟩
  ·rw [if_pos hm] at hR
   have bm : (xm != ym) = true := by simpa using hm
   have HR := lH hR
   clear hm hR
   go_wp2
   go_ret
   exact ⟨by rw [← HR.out]; rfl, HT2.out.drew⟩
 ·rw [if_pos hd] at hR
  have bd : (d1 != d2) = true := by simpa using hd
  have HR := lH hR
  have HC1 : Hid (W2.drew.cell? ⟨xb, 0, none⟩ = some (Value.int .i64 xp) ∧ W2.drew.cell? ⟨yb, 0, none⟩ = some (Value.int .i64 yp)) := lH HC0.out
  clear hd hR x1 x2 x3 x4 x5 y1 y2 y3 y4 y5
  go_wp2
  refine wp_region_held_drew (S := (fun W => W.cell? ⟨xb, 0, none⟩ = some (Value.int .i64 xp) ∧ W.cell? ⟨yb, 0, none⟩ = some (Value.int .i64 yp))) (by kernel_rfl) ?_ (fun hHeld => ?_)
  ·(exact HC1.out)
  refine tkH 0 ?_
  refine tkH 1 ?_
  refine tkH 3 ?_
  refine tkH 4 ?_
  refine wpAnyH_ready (rs := [2]) (by kernel_rfl) (by simp) ?_
  refine AllReadyH.cons (o := { dst := some 15, op := Go.Op.call { callee := Go.Callee.value (Go.Operand.func 174), args := #[Go.Operand.tmp 14], argTypes := #[3] }, type := 3, pos := "ref.go:53", after := #[{ on := 1, ground := Go.Ground.data }], guard := none }) rfl (fun K hK => ?_) AllReadyH.nil
  go_simp
  (go_at_call 174; (with_reducible refine cZm (HD1.out _) ?_); rintro e w' ⟨rfl, rfl⟩)
  go_wp2_with fail
  refine hK.out _ _ ?_ (fun hHeld => ?_)
  ·(exact HC1.out)
  clear hK K
  try simp only [Act.put, List.setIfInBounds_toArray, List.set_cons_zero, List.set_cons_succ]
  refine wpAnyH_ready (rs := [5]) (by kernel_rfl) (by simp) ?_
  refine AllReadyH.cons (o := { dst := some 18, op := Go.Op.call { callee := Go.Callee.value (Go.Operand.func 174), args := #[Go.Operand.tmp 17], argTypes := #[3] }, type := 3, pos := "ref.go:53", after := #[{ on := 4, ground := Go.Ground.data }, { on := 2, ground := Go.Ground.chain }], guard := none }) rfl (fun K hK => ?_) AllReadyH.nil
  go_simp
  (go_at_call 174; (with_reducible refine cZm (HD2.out _) ?_); rintro e w' ⟨rfl, rfl⟩)
  go_wp2_with fail
  refine hK.out _ _ ?_ (fun hHeld => ?_)
  ·(exact HC1.out)
  clear hK K
  try simp only [Act.put, List.setIfInBounds_toArray, List.set_cons_zero, List.set_cons_succ]
  refine tkH 6 ?_
  refine tkH 7 ?_
  refine wpAnyH_done (by kernel_rfl) ?_ _
  go_wp2
  go_ret
  exact ⟨by rw [← HR.out]; rfl, HT2.out.drew.drew⟩
end Go.Proofs.YtgfkmgbcajdcdaaGreatDoor

namespace Go.Proofs.YtgfkmgbcajdcdaaGreatDoor
open Go.RowKit

def pfC (p : PfI) : List Value := [.bool p.1.1, .int .u64 (p.1.2.1 : Int), .int .u64 (p.1.2.2 : Int), .int .i64 p.2]
def paC (x : PaI) : List Value := [.int .i64 x.1, .int .i64 x.2.1, .bool x.2.2.1.1, .int .u64 (x.2.2.1.2.1 : Int), .int .u64 (x.2.2.1.2.2 : Int), .int .i64 x.2.2.2.1, .bool x.2.2.2.2]
theorem pf_four (p : PfI) : (pfC p).length = 4 := rfl
theorem pa_seven (x : PaI) : (paC x).length = 7 := rfl
theorem pf_one (p : PfI) : ∀ u ∈ pfC p, u.oneCell' = true := by
 intro u hu; simp [pfC] at hu; rcases hu with rfl | rfl | rfl | rfl <;> rfl
theorem pa_one (x : PaI) : ∀ u ∈ paC x, u.oneCell' = true := by
 intro u hu; simp [paC] at hu; rcases hu with rfl | rfl | rfl | rfl | rfl | rfl | rfl <;> rfl
theorem flat_one {α : Type} {f : α → List Value} (h : ∀ x, ∀ u ∈ f x, u.oneCell' = true) (l : List α) : ∀ u ∈ l.flatMap f, u.oneCell' = true := by
 intro u hu
 obtain ⟨x, -, hx⟩ := List.mem_flatMap.1 hu
 exact h x u hx
theorem eq_pf0 (s s' : Bool) (h l b h' l' b' : Int) (W : World) : (Op.equalIn 10000 30 (.agg #[.bool s, .int .u64 h, .int .u64 l, .int .i64 b]) (.agg #[.bool s', .int .u64 h', .int .u64 l', .int .i64 b'])).run Tryz.prog W = .ok (decide (s = s' ∧ h = h' ∧ l = l' ∧ b = b')) W := by
 by_cases h1 : s = s'
 ·subst h1
  by_cases h2 : h = h'
  ·subst h2
   by_cases h3 : l = l'
   ·subst h3
    by_cases h4 : b = b'
    ·subst h4
     go_simp
    ·have h5 : (b == b') = false := by simpa using h4
     rw [show decide (s = s ∧ h = h ∧ l = l ∧ b = b') = false by simp [h4]]
     go_simp
   ·have h4 : (l == l') = false := by simpa using h3
    rw [show decide (s = s ∧ h = h ∧ l = l' ∧ b = b') = false by simp [h3]]
    go_simp
  ·have h4 : (h == h') = false := by simpa using h2
   rw [show decide (s = s ∧ h = h' ∧ l = l' ∧ b = b') = false by simp [h2]]
   go_simp
 ·have h4 : (s == s') = false := by simpa using h1
  rw [show decide (s = s' ∧ h = h' ∧ l = l' ∧ b = b') = false by simp [h1]]
  go_simp
theorem eq_pfR (p q : PfI) {b : Bool} (hb : decide (p = q) = b) (W : World) : (Op.equalIn 10000 30 (.agg #[.bool p.1.1, .int .u64 (p.1.2.1 : Int), .int .u64 (p.1.2.2 : Int), .int .i64 p.2]) (.agg #[.bool q.1.1, .int .u64 (q.1.2.1 : Int), .int .u64 (q.1.2.2 : Int), .int .i64 q.2])).run Tryz.prog W = .ok b W := by
 rw [eq_pf0, ← hb]
 obtain ⟨⟨s, h, l⟩, n⟩ := p
 obtain ⟨⟨s', h', l'⟩, n'⟩ := q
 congr 2
 simp [Prod.ext_iff]
 constructor
 ·rintro ⟨h1, h2, h3, h4⟩
  exact ⟨⟨h1, by omega, by omega⟩, h4⟩
 ·rintro ⟨⟨h1, h2, h3⟩, h4⟩
  exact ⟨h1, by omega, by omega, h4⟩
theorem eq_pa0 (p m : Int) (s : Bool) (h l o : Int) (a : Bool) (p' m' : Int) (s' : Bool) (h' l' o' : Int) (a' : Bool) (W : World) : (Op.equalIn 10000 49 (.agg #[.int .i64 p, .int .i64 m, .bool s, .int .u64 h, .int .u64 l, .int .i64 o, .bool a]) (.agg #[.int .i64 p', .int .i64 m', .bool s', .int .u64 h', .int .u64 l', .int .i64 o', .bool a'])).run Tryz.prog W = .ok (decide (p = p' ∧ m = m' ∧ s = s' ∧ h = h' ∧ l = l' ∧ o = o' ∧ a = a')) W := by
 by_cases h1 : p = p'
 ·subst h1
  by_cases h2 : m = m'
  ·subst h2
   by_cases h3 : s = s'
   ·subst h3
    by_cases h4 : h = h'
    ·subst h4
     by_cases h5 : l = l'
     ·subst h5
      by_cases h6 : o = o'
      ·subst h6
       by_cases h7 : a = a'
       ·subst h7
        go_simp
       ·have h9 : (a == a') = false := by simpa using h7
        rw [show decide (p = p ∧ m = m ∧ s = s ∧ h = h ∧ l = l ∧ o = o ∧ a = a') = false by simp [h7]]
        go_simp
      ·have h9 : (o == o') = false := by simpa using h6
       rw [show decide (p = p ∧ m = m ∧ s = s ∧ h = h ∧ l = l ∧ o = o' ∧ a = a') = false by simp [h6]]
       go_simp
     ·have h9 : (l == l') = false := by simpa using h5
      rw [show decide (p = p ∧ m = m ∧ s = s ∧ h = h ∧ l = l' ∧ o = o' ∧ a = a') = false by simp [h5]]
      go_simp
    ·have h9 : (h == h') = false := by simpa using h4
     rw [show decide (p = p ∧ m = m ∧ s = s ∧ h = h' ∧ l = l' ∧ o = o' ∧ a = a') = false by simp [h4]]
     go_simp
   ·have h9 : (s == s') = false := by simpa using h3
    rw [show decide (p = p ∧ m = m ∧ s = s' ∧ h = h' ∧ l = l' ∧ o = o' ∧ a = a') = false by simp [h3]]
    go_simp
  ·have h9 : (m == m') = false := by simpa using h2
   rw [show decide (p = p ∧ m = m' ∧ s = s' ∧ h = h' ∧ l = l' ∧ o = o' ∧ a = a') = false by simp [h2]]
   go_simp
 ·have h9 : (p == p') = false := by simpa using h1
  rw [show decide (p = p' ∧ m = m' ∧ s = s' ∧ h = h' ∧ l = l' ∧ o = o' ∧ a = a') = false by simp [h1]]
  go_simp
theorem eq_paR (x y : PaI) {b : Bool} (hb : decide (x = y) = b) (W : World) : (Op.equalIn 10000 49 (.agg (paA x)) (.agg (paA y))).run Tryz.prog W = .ok b W := by
 rw [eq_pa0, ← hb]
 obtain ⟨p, m, ⟨s, h, l⟩, o, a⟩ := x
 obtain ⟨p', m', ⟨s', h', l'⟩, o', a'⟩ := y
 congr 2
 simp [Prod.ext_iff]
 intro _ _
 constructor
 ·rintro ⟨h3, h4, h5, h6, h7⟩
  exact ⟨⟨h3, by omega, by omega⟩, h6, h7⟩
 ·rintro ⟨⟨h3, h4, h5⟩, h6, h7⟩
  exact ⟨h3, by omega, by omega, h6, h7⟩
theorem infoPf : (Tryz.prog.info? 30).map (fun i => (i.zero, i.size, i.bytes)) = some (some (.agg #[.bool false, .int .u64 0, .int .u64 0, .int .i64 0]), 4, 32) := by kernel_rfl
theorem infoPa : (Tryz.prog.info? 49).map (fun i => (i.zero, i.size, i.bytes)) = some (some (.agg #[.int .i64 0, .int .i64 0, .bool false, .int .u64 0, .int .u64 0, .int .i64 0, .bool false]), 7, 56) := by kernel_rfl
def zeroX : PaI := (0, 0, (false, 0, 0), 0, false)
def bestI (L : List TdI) (p : PfI) : Option PaI := (pathsI L p).head?
def bestV (r : Option PaI) : Value := .tuple #[paR (r.getD zeroX), .bool r.isSome]
theorem prefK_sub {L : List TdI} {q : PfI} : ∀ k, q ∈ prefK L k → ∃ t ∈ L, t.1 = q
 | 0, h => by simp [prefK] at h
 | k + 1, h => by
  unfold prefK at h
  split at h
  ·exact prefK_sub k h
  ·rename_i t ht
   split at h
   ·rcases List.mem_append.1 h with h1 | h1
    ·exact prefK_sub k h1
    ·exact ⟨t, List.mem_of_getElem? ht, (List.mem_singleton.1 h1).symm⟩
   ·exact prefK_sub k h
theorem pf_cells {w : World} {base g n c k : Nat} {l : List PfI} (h : w.ownsRow base 30 4 (.slice (some ⟨g, 0, none⟩) n c) n (l.flatMap pfC)) {q : PfI} (hq : l[k]? = some q) :
  w.cell? ⟨g, k * 4, none⟩ = some (.bool q.1.1) ∧ w.cell? ⟨g, k * 4 + 1, none⟩ = some (.int .u64 (q.1.2.1 : Int)) ∧ w.cell? ⟨g, k * 4 + 2, none⟩ = some (.int .u64 (q.1.2.2 : Int)) ∧ w.cell? ⟨g, k * 4 + 3, none⟩ = some (.int .i64 q.2) := by
 refine ⟨?_, ?_, ?_, ?_⟩
 ·exact own_cellN h ((flatk_at (f := pfC) pf_four hq (k := 0) (by decide)).trans rfl)
 ·exact own_cellN h ((flatk_at (f := pfC) pf_four hq (k := 1) (by decide)).trans rfl)
 ·exact own_cellN h ((flatk_at (f := pfC) pf_four hq (k := 2) (by decide)).trans rfl)
 ·exact own_cellN h ((flatk_at (f := pfC) pf_four hq (k := 3) (by decide)).trans rfl)
theorem right_bad {p : PfI} {x : PaI} (h : pvI p = false ∨ x.1 < 0 ∨ 4 < x.1 ∨ x.2.1 < 0 ∨ 65535 < x.2.1) : rightI p x = false := by
 unfold rightI; rw [if_pos h]
theorem right_away {p : PfI} {x : PaI} (h : ¬ (pvI p = false ∨ x.1 < 0 ∨ 4 < x.1 ∨ x.2.1 < 0 ∨ 65535 < x.2.1)) (ha : x.2.2.2.2 = true) : rightI p x = (decide (x.2.2.2.1 = 0) && decide (x.2.2.1 = zeroA)) := by
 unfold rightI; rw [if_neg h, if_pos ha]
theorem right_nb {p : PfI} {x : PaI} (h : ¬ (pvI p = false ∨ x.1 < 0 ∨ 4 < x.1 ∨ x.2.1 < 0 ∨ 65535 < x.2.1)) (ha : x.2.2.2.2 = false) (ho : x.2.2.2.1 = 0) : rightI p x = nbI p x.2.2.1 0 := by
 unfold rightI; rw [if_neg h, if_neg (by rw [ha]; simp), if_pos ho]
theorem right_po {p : PfI} {x : PaI} (h : ¬ (pvI p = false ∨ x.1 < 0 ∨ 4 < x.1 ∨ x.2.1 < 0 ∨ 65535 < x.2.1)) (ha : x.2.2.2.2 = false) (ho : ¬ x.2.2.2.1 = 0) : rightI p x = (decide (1 ≤ x.2.2.2.1) && (decide (x.2.2.2.1 ≤ 8) && (decide (x.2.2.1 = zeroA) || nbI p x.2.2.1 x.2.2.2.1))) := by
 unfold rightI; rw [if_neg h, if_neg (by rw [ha]; simp), if_neg ho]
theorem Goes.trans_ {w w1 w2 : World} {S S1 S2 : List Nat} (h : Goes w w1 S S1) (k : Goes w1 w2 S1 S2) : Goes w w2 S S2 :=
 ⟨h.tch.trans_fre k.tch h.fre, fun s hs => by
  rcases k.fre s hs with a | a
  ·exact h.fre s a
  ·exact .inr (Nat.le_trans h.tch.size a)⟩
theorem beq_int (a b : Int) : (a == b) = decide (a = b) := by by_cases h : a = b <;> simp [h]
theorem beq_bool (a b : Bool) : (a == b) = decide (a = b) := by cases a <;> cases b <;> rfl
theorem sl_cases {w : World} {ty sz n c : Nat} {A : Option Addr} {xs : List Value} (h : w.ownsRow 0 ty sz (.slice A n c) n xs) : (A = none ∧ n = 0 ∧ c = 0) ∨ ∃ g, A = some ⟨g, 0, none⟩ := by
 rcases h.2 with ⟨e, h0⟩ | ⟨g, cap, cur, e, -⟩
 ·injection e with e1 e2 e3
  exact .inl ⟨e1, h0, e3⟩
 ·injection e with e1 e2 e3
  exact .inr ⟨g, e1⟩
theorem pa_cells {w : World} {base g n c k : Nat} {l : List PaI} (h : w.ownsRow base 49 7 (.slice (some ⟨g, 0, none⟩) n c) n (l.flatMap paC)) {x : PaI} (hx : l[k]? = some x) :
  w.cell? ⟨g, k * 7, none⟩ = some (.int .i64 x.1) ∧ w.cell? ⟨g, k * 7 + 1, none⟩ = some (.int .i64 x.2.1) ∧ w.cell? ⟨g, k * 7 + 2, none⟩ = some (.bool x.2.2.1.1) ∧ w.cell? ⟨g, k * 7 + 3, none⟩ = some (.int .u64 (x.2.2.1.2.1 : Int)) ∧ w.cell? ⟨g, k * 7 + 4, none⟩ = some (.int .u64 (x.2.2.1.2.2 : Int)) ∧ w.cell? ⟨g, k * 7 + 5, none⟩ = some (.int .i64 x.2.2.2.1) ∧ w.cell? ⟨g, k * 7 + 6, none⟩ = some (.bool x.2.2.2.2) := by
 refine ⟨?_, ?_, ?_, ?_, ?_, ?_, ?_⟩
 ·exact own_cellN h ((flatk_at (f := paC) pa_seven hx (k := 0) (by decide)).trans rfl)
 ·exact own_cellN h ((flatk_at (f := paC) pa_seven hx (k := 1) (by decide)).trans rfl)
 ·exact own_cellN h ((flatk_at (f := paC) pa_seven hx (k := 2) (by decide)).trans rfl)
 ·exact own_cellN h ((flatk_at (f := paC) pa_seven hx (k := 3) (by decide)).trans rfl)
 ·exact own_cellN h ((flatk_at (f := paC) pa_seven hx (k := 4) (by decide)).trans rfl)
 ·exact own_cellN h ((flatk_at (f := paC) pa_seven hx (k := 5) (by decide)).trans rfl)
 ·exact own_cellN h ((flatk_at (f := paC) pa_seven hx (k := 6) (by decide)).trans rfl)
end Go.Proofs.YtgfkmgbcajdcdaaGreatDoor
