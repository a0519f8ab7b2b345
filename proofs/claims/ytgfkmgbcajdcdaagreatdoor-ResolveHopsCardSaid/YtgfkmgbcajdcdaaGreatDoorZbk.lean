/-
  Several texts in one: RbKc.
-/
import Derived.Test.YtgfkmgbcajdcdaaGreatDoorZad
import Derived.Test.YtgfkmgbcajdcdaaGreatDoorZbi
import Derived.Test.YtgfkmgbcajdcdaaGreatDoorZbh
import Derived.Test.YtgfkmgbcajdcdaaGreatDoorZaa
set_option linter.unusedVariables false
set_option maxRecDepth 100000
set_option maxHeartbeats 16000000
namespace Go.Proofs.YtgfkmgbcajdcdaaGreatDoor
open Go.RowKit

theorem put_first (t : Nat) (S : List Nat) (L : List TdI) (hL : L.length ≤ 1000) (p : PfI) (x : PaI) (hp : N64 p.1.2.1 ∧ N64 p.1.2.2) (hx : N64 x.2.2.1.2.1 ∧ N64 x.2.2.1.2.2) (hr : rightI p x = true) (hw : wayI L p x = 0) (h1 : (pathsI L p).length = 0) (h4 : (prefsI L).length < 90) (w : World) (h : RbD w t S L) :
  Calls Tryz.prog 88 #[.pointer (some ⟨t, 0, none⟩), pfR p, paR x] w fun e w' => e = .returned (.int .i64 0) ∧ ∃ S', RbD w' t S' (insI L (p, x)) ∧ Goes w w' S S' := by
 have HH := lH h
 have HRi := lH (fun W => rightD p x hp hx W)
 rw [hr] at HRi
 have HWay := lH (fun W (hT : Tch w W []) => wayD t S L hL p x W (h.tch hT (by simp)))
 rw [show ((wayI L p x : Nat) : Int) - 1 = (-1 : Int) by omega] at HWay
 have HPa := lH (fun W (hT : Tch w W []) => pathsD t S L hL p W (h.tch hT (by simp)))
 have HLe : Hid (L.length ≤ 1000) := lH hL
 have HPf := lH (fun W (hT : Tch w W []) => prefsD t S L hL W (h.tch hT (by simp)))
 obtain ⟨m, hm⟩ : ∃ m, (prefsI L).length = m := ⟨_, rfl⟩
 rw [hm] at HPf h4
 rw [h1] at HPa
 clear hm h1
 clear hw hr
 have HPn := lH hp
 have HXn := lH hx
 obtain ⟨⟨ps, ph, pl⟩, pb⟩ := p
 obtain ⟨pr, me, ⟨vs, vh, vl⟩, po, aw⟩ := x
 obtain ⟨xb, hxb⟩ : ∃ xb, w.heap.size = xb := ⟨_, rfl⟩
 obtain ⟨yb, hyb⟩ : ∃ yb, xb + 1 = yb := ⟨_, rfl⟩
 obtain ⟨W2, hW2⟩ : ∃ W2, (w.alloc (.cells #[.bool ps, .int .u64 (ph : Int), .int .u64 (pl : Int), .int .i64 pb] 30)).alloc (.cells #[.int .i64 pr, .int .i64 me, .bool vs, .int .u64 (vh : Int), .int .u64 (vl : Int), .int .i64 po, .bool aw] 49) = W2 := ⟨_, rfl⟩
 have HX : Hid (Blk W2 xb 30 #[.bool ps, .int .u64 (ph : Int), .int .u64 (pl : Int), .int .i64 pb]) := lH (hW2 ▸ hxb ▸ (Blk.new w _ _).alloc _)
 have HY : Hid (Blk W2 yb 49 #[.int .i64 pr, .int .i64 me, .bool vs, .int .u64 (vh : Int), .int .u64 (vl : Int), .int .i64 po, .bool aw]) := lH (by
  have := Blk.new (w.alloc (.cells #[.bool ps, .int .u64 (ph : Int), .int .u64 (pl : Int), .int .i64 pb] 30)) 49 #[.int .i64 pr, .int .i64 me, .bool vs, .int .u64 (vh : Int), .int .u64 (vl : Int), .int .i64 po, .bool aw]
  rw [zA, hxb, hyb, hW2] at this
  exact this)
 have HT2 : Hid (Tch w W2 []) := lH (hW2 ▸ ((Tch.refl w []).alloc _).alloc _)
 have HW2 := lH (And.intro hW2 (And.intro hxb hyb))
 have HNx : Hid (∀ s ∈ S, ¬ s = xb ∧ ¬ s = yb) := lH (fun s hs => by have := h.lt s hs; omega)
 clear hW2 hxb hyb h hL hp hx
 go_enter Tryz.func88, Tryz.ntmps88
 go_wp2_with fail
 rw [HW2.out.1]
 refine cZm (HRi.out _) ?_
 rintro e W3 ⟨rfl, hT3⟩
 try rw [HW2.out.2.1]
 try rw [HW2.out.2.2]
 have HX3 := lH (hT3.blk HX.out (by simp))
 have HY3 := lH (hT3.blk HY.out (by simp))
 have HT3 := lH (HT2.out.trans hT3)
 obtain ⟨x0, x1, x2, x3⟩ := HX3.out.c4
 obtain ⟨y0, y1, y2, y3, y4, y5, y6⟩ := HY3.out.c7
 clear hT3
 go_wp2_with fail
 refine cZm (HWay.out _ HT3.out) ?_
 rintro e W4 ⟨rfl, hT4⟩
 have HX4 := lH (hT4.blk HX3.out (by simp))
 have HY4 := lH (hT4.blk HY3.out (by simp))
 have HT4 := lH (HT3.out.trans hT4)
 clear hT4 x0 x1 x2 x3 y0 y1 y2 y3 y4 y5 y6
 obtain ⟨z0, z1, z2, z3⟩ := HX4.out.c4
 go_wp2_with fail
 refine cZm (HPa.out _ HT4.out) ?_
 rintro e W6 ⟨A6, c6, rfl, -, hT6⟩
 have HX6 := lH (hT6.blk HX4.out (by simp))
 have HY6 := lH (hT6.blk HY4.out (by simp))
 have HT6 := lH (HT4.out.trans hT6)
 clear hT6 z0 z1 z2 z3
 go_wp2_with fail
 refine cZm (HPf.out _ HT6.out) ?_
 rintro e W5 ⟨A5, c5, rfl, -, hT5⟩
 have HX5 := lH (hT5.blk HX6.out (by simp))
 have HY5 := lH (hT5.blk HY6.out (by simp))
 have HT5 := lH (HT6.out.trans hT5)
 have m4 : ¬ (90 : Int) ≤ (m : Int) := by omega
 clear hT5 HX6 HY6 HT6
 obtain ⟨L1, hL1⟩ : ∃ L1, L = L1 := ⟨_, rfl⟩
 obtain ⟨S1, hS1⟩ : ∃ S1, S = S1 := ⟨_, rfl⟩
 have HD1 : Hid (RbD W5 t S1 L1) := lH (by rw [← hL1, ← hS1]; exact HH.out.tch HT5.out (by simp))
 have HG1 : Hid (Goes w W5 S S1) := lH (by rw [← hS1]; exact Goes.of_tch (HT5.out.mono (by simp)))
 rw [hL1] at HLe
 have HLq := lH hL1
 have HL1 := HLe
 clear hL1 hS1 HLe HT5
 obtain ⟨A, cA, c0, hrow, htl, -⟩ := HD1.out.head
 obtain ⟨n, hn⟩ : ∃ n, L1.length = n := ⟨_, rfl⟩
 rw [hn] at c0 hrow
 have HNum := lH HD1.out.num
 have HN := lH hn
 have HR := lH hrow
 have HC0 := lH (And.intro c0 htl)
 have HL1n : Hid (n ≤ 1000) := lH (by rw [← hn]; exact HL1.out)
 replace HL1 := HL1n
 clear c0 hrow htl hn HL1n
 go_wp2
 go_loopw [10] (fun kv wr => ∃ k : Nat, kv = .int .i64 (k : Int) ∧ k ≤ n ∧ Hid (∀ (j : Nat) (u : TdI), j < k → L1[j]? = some u → aheadT u (((ps, ph, pl), pb), (pr, me, (vs, vh, vl), po, aw)) = true) ∧ Hid (Tch W5 wr [])) (fun kv _ => n - (intOf kv).toNat)
 case atStart => exact ⟨0, rfl, Nat.zero_le _, lH (fun j u hj => absurd hj (by omega)), lH (Tch.refl W5 [])⟩
 case round =>
  obtain ⟨k, rfl, hk, hA, hT⟩ := hrel
  have c0 := (hT.out.cell (p := ⟨t, 0, none⟩) HC0.out.2 (by simp)).trans HC0.out.1
  have k1 : IntKind.i64.wrap ((k : Int) + 1) = (k : Int) + 1 := by rw [IntKind.wrap_i64]; have := HL1.out; omega
  by_cases hkn : k < n
  ·have kI : (k : Int) < (n : Int) := by omega
   have k0 : (0 : Int) ≤ (k : Int) := by omega
   obtain ⟨u, hu⟩ : ∃ u, L1[k]? = some u := ⟨_, List.getElem?_eq_getElem (by rw [HN.out]; exact hkn)⟩
   have d3 := own_tch HR.out hT.out (by simp)
   obtain ⟨g, rfl⟩ := slice_some d3 (by omega)
   have HUn := lH (HNum.out u (List.mem_of_getElem? hu))
   obtain ⟨b1, hb1⟩ : ∃ b, lessI u.1 ((ps, ph, pl), pb) = b := ⟨_, rfl⟩
   obtain ⟨b2, hb2⟩ : ∃ b, decide (u.1 = ((ps, ph, pl), pb)) = b := ⟨_, rfl⟩
   obtain ⟨b3, hb3⟩ : ∃ b, betI u.2 (pr, me, (vs, vh, vl), po, aw) = b := ⟨_, rfl⟩
   have HAh : Hid (aheadT u (((ps, ph, pl), pb), (pr, me, (vs, vh, vl), po, aw)) = (b1 || (b2 && b3))) := lH (by show (lessI u.1 ((ps, ph, pl), pb) || (decide (u.1 = ((ps, ph, pl), pb)) && betI u.2 (pr, me, (vs, vh, vl), po, aw))) = _; rw [hb1, hb2, hb3])
   have HUp : Hid (aheadT u (((ps, ph, pl), pb), (pr, me, (vs, vh, vl), po, aw)) = true → ∀ (j : Nat) (v : TdI), j < k + 1 → L1[j]? = some v → aheadT v (((ps, ph, pl), pb), (pr, me, (vs, vh, vl), po, aw)) = true) := lH (fun e j v hj hv => by
    rcases Nat.lt_or_ge j k with h1 | h1
    ·exact hA.out j v h1 hv
    ·obtain rfl : j = k := by omega
     rw [hu] at hv
     injection hv with hv
     subst hv
     exact e)
   have HPo : Hid (aheadT u (((ps, ph, pl), pb), (pr, me, (vs, vh, vl), po, aw)) = false → posI L1 (((ps, ph, pl), pb), (pr, me, (vs, vh, vl), po, aw)) = k) := lH (fun e => posI_at hA.out (by rw [HN.out]; exact hk) (fun v hv => by rw [hu] at hv; injection hv with hv; subst hv; exact e))
   have HRdl : Hid (∀ W, Tch W5 W [] → W.cell? ⟨t, 0, none⟩ = some (Value.slice (some ⟨g, 0, none⟩) n cA) ∧ _ ∧ _ ∧ _) := lH (fun W hW => ⟨(hW.cell (p := ⟨t, 0, none⟩) HC0.out.2 (by simp)).trans HC0.out.1, td_grp (own_tch HR.out hW (by simp)) hu, (hW.blk HX5.out (by simp)).c4, (hW.blk HY5.out (by simp)).c7⟩)
   obtain ⟨⟨⟨us, uh, ul⟩, ub⟩, upr, ume, ⟨uvs, uvh, uvl⟩, upo, uaw⟩ := u
   have HLs := lH (fun W => rpless_at us uh ul ub ps ph pl pb HUn.out.1.1 HUn.out.1.2 HPn.out.1 HPn.out.2 (show pls us uh ul ub ps ph pl pb = b1 from hb1) W)
   have HBt : Hid (∀ W, Calls Tryz.prog 133 #[.agg #[.int .i64 upr, .int .i64 ume, .bool uvs, .int .u64 (uvh : Int), .int .u64 (uvl : Int), .int .i64 upo, .bool uaw], .agg #[.int .i64 pr, .int .i64 me, .bool vs, .int .u64 (vh : Int), .int .u64 (vl : Int), .int .i64 po, .bool aw]] W fun e w' => e = .returned (.bool b3) ∧ Tch W w' []) := lH (fun W => by have h9 := betterD (upr, ume, (uvs, uvh, uvl), upo, uaw) (pr, me, (vs, vh, vl), po, aw) W; rw [hb3] at h9; exact h9)
   have HQ : ∀ W, (binOp .eql 30 (.agg #[.bool us, .int .u64 (uh : Int), .int .u64 (ul : Int), .int .i64 ub]) (.agg #[.bool ps, .int .u64 (ph : Int), .int .u64 (pl : Int), .int .i64 pb])).run Tryz.prog W = .ok (.bool b2) W := eqA_eql 30 _ _ (eq_pfR ((us, uh, ul), ub) ((ps, ph, pl), pb) hb2)
   have HCl := lH (HRdl.out wr hT.out)
   have HTd : Hid (Tch W5 wr.drew []) := lH hT.out.drew
   clear d3 hu hA hb1 hb2 hb3
   try go_wp2
   cases b1 with
   | true =>
    have HTr := lH HAh.out
    refine wp_region_held_drew (S := (fun W => W.cell? ⟨t, 0, none⟩ = some (Value.slice (some ⟨g, 0, none⟩) n cA) ∧ (W.cell? ⟨g, k * 11, none⟩ = some (Value.bool us) ∧ W.cell? ⟨g, k * 11 + 1, none⟩ = some (Value.int .u64 (uh : Int)) ∧ W.cell? ⟨g, k * 11 + 2, none⟩ = some (Value.int .u64 (ul : Int)) ∧ W.cell? ⟨g, k * 11 + 3, none⟩ = some (Value.int .i64 ub) ∧ W.cell? ⟨g, k * 11 + 4, none⟩ = some (Value.int .i64 upr) ∧ W.cell? ⟨g, k * 11 + 5, none⟩ = some (Value.int .i64 ume) ∧ W.cell? ⟨g, k * 11 + 6, none⟩ = some (Value.bool uvs) ∧ W.cell? ⟨g, k * 11 + 7, none⟩ = some (Value.int .u64 (uvh : Int)) ∧ W.cell? ⟨g, k * 11 + 8, none⟩ = some (Value.int .u64 (uvl : Int)) ∧ W.cell? ⟨g, k * 11 + 9, none⟩ = some (Value.int .i64 upo) ∧ W.cell? ⟨g, k * 11 + 10, none⟩ = some (Value.bool uaw)) ∧ (W.cell? ⟨xb, 0, none⟩ = some (Value.bool ps) ∧ W.cell? ⟨xb, 1, none⟩ = some (Value.int .u64 (ph : Int)) ∧ W.cell? ⟨xb, 2, none⟩ = some (Value.int .u64 (pl : Int)) ∧ W.cell? ⟨xb, 3, none⟩ = some (Value.int .i64 pb)) ∧ (W.cell? ⟨yb, 0, none⟩ = some (Value.int .i64 pr) ∧ W.cell? ⟨yb, 1, none⟩ = some (Value.int .i64 me) ∧ W.cell? ⟨yb, 2, none⟩ = some (Value.bool vs) ∧ W.cell? ⟨yb, 3, none⟩ = some (Value.int .u64 (vh : Int)) ∧ W.cell? ⟨yb, 4, none⟩ = some (Value.int .u64 (vl : Int)) ∧ W.cell? ⟨yb, 5, none⟩ = some (Value.int .i64 po) ∧ W.cell? ⟨yb, 6, none⟩ = some (Value.bool aw)))) (by kernel_rfl) ?_ (fun hHeld => ?_)
    ·(first | exact HCl.out | exact HRdl.out _ HT6.out | exact HRdl.out _ HT5.out)
    refine tkH 0 ?_
    refine tkH 1 ?_
    refine tkH 2 ?_
    refine tkH 3 ?_
    refine tkH 4 ?_
    refine tkH 5 ?_
    refine tkH 6 ?_
    refine tkH 7 ?_
    refine tkH 8 ?_
    refine tkH 9 ?_
    refine tkH 10 ?_
    refine tkH 11 ?_
    refine tkH 12 ?_
    refine tkH 13 ?_
    refine tkH 14 ?_
    refine tkH 15 ?_
    refine tkH 16 ?_
    refine wpAnyH_ready (rs := [17]) (by kernel_rfl) (by simp) ?_
    refine AllReadyH.cons (o := { dst := some 59, op := Go.Op.call { callee := Go.Callee.value (Go.Operand.func 27), args := #[Go.Operand.tmp 57, Go.Operand.tmp 58], argTypes := #[30, 30] }, type := 4, pos := "ref.go:121", after := #[{ on := 15, ground := Go.Ground.data }, { on := 16, ground := Go.Ground.data }, { on := 7, ground := Go.Ground.chain }, { on := 7, ground := Go.Ground.guard }], guard := some (7, true) }) rfl (fun K hK => ?_) AllReadyH.nil
    go_simp
    (go_at_call 27; (with_reducible refine cZm (HLs.out _) ?_); rintro e w5 ⟨rfl, hb5⟩; have HT5 := lH (HTd.out.trans (Tch.of_below [] hb5)); clear hb5)
    go_wp2_with fail
    refine hK.out _ _ ?_ (fun hHeld => ?_)
    ·(first | exact HCl.out | exact HRdl.out _ HT6.out | exact HRdl.out _ HT5.out)
    clear hK K
    try simp only [Act.put, List.setIfInBounds_toArray, List.set_cons_zero, List.set_cons_succ]
    refine tkH 18 ?_
    refine tkO 19 ?_
    refine tkO 20 ?_
    refine tkO 21 ?_
    refine tkO 22 ?_
    refine tkO 23 ?_
    refine tkO 24 ?_
    refine tkO 25 ?_
    refine tkO 26 ?_
    refine tkO 27 ?_
    refine tkO 28 ?_
    refine tkO 29 ?_
    refine tkO 30 ?_
    refine tkO 31 ?_
    refine tkO 32 ?_
    refine tkO 33 ?_
    refine tkO 34 ?_
    refine tkO 35 ?_
    refine tkO 36 ?_
    refine tkO 37 ?_
    refine tkO 38 ?_
    refine tkO 39 ?_
    refine tkO 40 ?_
    refine tkH 41 ?_
    refine tkH 42 ?_
    refine wpAnyH_done (by kernel_rfl) ?_ _
    have HUp9 := lH (HUp.out HTr.out)
    go_wp2
    go_roundw
    case rel => exact ⟨k + 1, by go_num, hkn, HUp9, HT5⟩
    case measure => simp [intOf]; omega
   | false =>
    cases b2 with
    | false =>
     have HPos := lH (HPo.out HAh.out)
     refine wp_region_held_drew (S := (fun W => W.cell? ⟨t, 0, none⟩ = some (Value.slice (some ⟨g, 0, none⟩) n cA) ∧ (W.cell? ⟨g, k * 11, none⟩ = some (Value.bool us) ∧ W.cell? ⟨g, k * 11 + 1, none⟩ = some (Value.int .u64 (uh : Int)) ∧ W.cell? ⟨g, k * 11 + 2, none⟩ = some (Value.int .u64 (ul : Int)) ∧ W.cell? ⟨g, k * 11 + 3, none⟩ = some (Value.int .i64 ub) ∧ W.cell? ⟨g, k * 11 + 4, none⟩ = some (Value.int .i64 upr) ∧ W.cell? ⟨g, k * 11 + 5, none⟩ = some (Value.int .i64 ume) ∧ W.cell? ⟨g, k * 11 + 6, none⟩ = some (Value.bool uvs) ∧ W.cell? ⟨g, k * 11 + 7, none⟩ = some (Value.int .u64 (uvh : Int)) ∧ W.cell? ⟨g, k * 11 + 8, none⟩ = some (Value.int .u64 (uvl : Int)) ∧ W.cell? ⟨g, k * 11 + 9, none⟩ = some (Value.int .i64 upo) ∧ W.cell? ⟨g, k * 11 + 10, none⟩ = some (Value.bool uaw)) ∧ (W.cell? ⟨xb, 0, none⟩ = some (Value.bool ps) ∧ W.cell? ⟨xb, 1, none⟩ = some (Value.int .u64 (ph : Int)) ∧ W.cell? ⟨xb, 2, none⟩ = some (Value.int .u64 (pl : Int)) ∧ W.cell? ⟨xb, 3, none⟩ = some (Value.int .i64 pb)) ∧ (W.cell? ⟨yb, 0, none⟩ = some (Value.int .i64 pr) ∧ W.cell? ⟨yb, 1, none⟩ = some (Value.int .i64 me) ∧ W.cell? ⟨yb, 2, none⟩ = some (Value.bool vs) ∧ W.cell? ⟨yb, 3, none⟩ = some (Value.int .u64 (vh : Int)) ∧ W.cell? ⟨yb, 4, none⟩ = some (Value.int .u64 (vl : Int)) ∧ W.cell? ⟨yb, 5, none⟩ = some (Value.int .i64 po) ∧ W.cell? ⟨yb, 6, none⟩ = some (Value.bool aw)))) (by kernel_rfl) ?_ (fun hHeld => ?_)
     ·(first | exact HCl.out | exact HRdl.out _ HT6.out | exact HRdl.out _ HT5.out)
     refine tkH 0 ?_
     refine tkH 1 ?_
     refine tkH 2 ?_
     refine tkH 3 ?_
     refine tkH 4 ?_
     refine tkH 5 ?_
     refine tkH 6 ?_
     refine tkH 7 ?_
     refine tkH 8 ?_
     refine tkH 9 ?_
     refine tkH 10 ?_
     refine tkH 11 ?_
     refine tkH 12 ?_
     refine tkH 13 ?_
     refine tkH 14 ?_
     refine tkH 15 ?_
     refine tkH 16 ?_
     refine wpAnyH_ready (rs := [17]) (by kernel_rfl) (by simp) ?_
     refine AllReadyH.cons (o := { dst := some 59, op := Go.Op.call { callee := Go.Callee.value (Go.Operand.func 27), args := #[Go.Operand.tmp 57, Go.Operand.tmp 58], argTypes := #[30, 30] }, type := 4, pos := "ref.go:121", after := #[{ on := 15, ground := Go.Ground.data }, { on := 16, ground := Go.Ground.data }, { on := 7, ground := Go.Ground.chain }, { on := 7, ground := Go.Ground.guard }], guard := some (7, true) }) rfl (fun K hK => ?_) AllReadyH.nil
     go_simp
     (go_at_call 27; (with_reducible refine cZm (HLs.out _) ?_); rintro e w5 ⟨rfl, hb5⟩; have HT5 := lH (HTd.out.trans (Tch.of_below [] hb5)); clear hb5)
     go_wp2_with fail
     refine hK.out _ _ ?_ (fun hHeld => ?_)
     ·(first | exact HCl.out | exact HRdl.out _ HT6.out | exact HRdl.out _ HT5.out)
     clear hK K
     try simp only [Act.put, List.setIfInBounds_toArray, List.set_cons_zero, List.set_cons_succ]
     refine tkH 18 ?_
     refine tkH 19 ?_
     refine tkH 20 ?_
     refine tkH 21 ?_
     refine tkH 22 ?_
     refine tkH 23 ?_
     refine tkH 24 ?_
     refine tkH 25 ?_
     refine tkH 26 ?_
     refine tkH 27 ?_
     refine tkH 28 ?_
     refine tkH 29 ?_
     refine tkO 30 ?_
     refine tkO 31 ?_
     refine tkO 32 ?_
     refine tkO 33 ?_
     refine tkO 34 ?_
     refine tkO 35 ?_
     refine tkO 36 ?_
     refine tkO 37 ?_
     refine tkO 38 ?_
     refine tkO 39 ?_
     refine tkH 40 ?_
     refine tkH 41 ?_
     refine tkH 42 ?_
     refine wpAnyH_done (by kernel_rfl) ?_ _
     obtain ⟨W8, hW8⟩ : ∃ W8, w5 = W8 := ⟨_, rfl⟩
     have HE8 : Hid (Tch W5 W8 []) := lH (hW8 ▸ HT5.out)
     rw [hW8]
     skip
     clear hW8 c0
     have hrow8 := own_tch HR.out HE8.out (by simp)
     obtain ⟨A1, hA1, hcells, hlen⟩ := td_rest (k := k) HR.out HN.out hk
     have hrow1 := own_take hrow8 (k := k) hk
     rw [flatk_take td_eleven] at hrow1
     have HRow1 := lH hrow1
     have HCells := lH hcells
     obtain ⟨d, hd⟩ : ∃ d, n - k = d := ⟨_, rfl⟩
     rw [hd] at hlen
     have HLen := lH hlen
     have hnc : n ≤ cA := by
      obtain ⟨_, _, e, h9, _⟩ := own_sl HR.out
      injection e with e1 e2 e3
      omega
     have hkc : k ≤ cA := by omega
     have hkI : (0 : Int) ≤ (k : Int) ∧ (k : Int) ≤ (n : Int) ∧ (k : Int) ≤ (cA : Int) := by omega
     rw [if_neg (show ¬ cA = k by omega)] at hA1
     obtain rfl := Option.some.inj hA1
     have HEr : Hid ([] ++ (L1.take k).flatMap tdC ++ [.bool ps, .int .u64 (ph : Int), .int .u64 (pl : Int), .int .i64 pb, .int .i64 pr, .int .i64 me, .bool vs, .int .u64 (vh : Int), .int .u64 (vl : Int), .int .i64 po, .bool aw] ++ (L1.drop k).flatMap tdC = (insI L1 (((ps, ph, pl), pb), (pr, me, (vs, vh, vl), po, aw))).flatMap tdC ∧ (insI L1 (((ps, ph, pl), pb), (pr, me, (vs, vh, vl), po, aw))).length = 0 + k + 1 + d) := lH (by
      refine ⟨?_, by rw [insI_len, HN.out]; omega⟩
      unfold insI
      rw [HPos.out, List.flatMap_append, List.flatMap_cons]
      simp [tdC, pfC, paC])
     obtain ⟨B5, hB5⟩ : ∃ B, W5.heap.size = B := ⟨_, rfl⟩
     have HB5 := lH hB5
     have hb8 := HE8.out.size
     rw [hB5] at hb8
     have HSz8 := lH hb8
     have HNil : Hid (W8.ownsRow B5 113 11 (.slice none 0 0) 0 []) := lH ⟨rfl, .inl ⟨rfl, rfl⟩⟩
     have HSz : Hid (0 + k ≤ 1000000 ∧ 0 + k ≤ 1000000 ∧ 0 + k + 1 + d ≤ 1000000) := lH (by have := HL1.out; omega)
     have HNumI : Hid (∀ u ∈ insI L1 (((ps, ph, pl), pb), (pr, me, (vs, vh, vl), po, aw)), NumT u) := lH (fun u hu => by
      rcases (insI_mem L1 _ u).1 hu with rfl | h1
      ·exact ⟨HPn.out, HXn.out⟩
      ·exact HNum.out u h1)
     have c8 := (HE8.out.cell (p := ⟨t, 0, none⟩) HC0.out.2 (by simp)).trans HC0.out.1
     clear hB5 hb8
     have hck : ¬ cA = k := by omega
     clear hrow8 hrow1 hcells hlen
     go_wp2_with (first
      | (at_builtin; (refine wpList_apm 54 113 (.agg #[.bool false, .int .u64 0, .int .u64 0, .int .i64 0, .int .i64 0, .int .i64 0, .bool false, .int .u64 0, .int .u64 0, .int .i64 0, .bool false]) 11 88 Tryz.underlying54 infoTd rfl (by decide) (by decide) _ rfl (.tmp 87) (.tmp 93) rfl B5 (.slice none 0 0) 0 [] rfl HNil.out 0 (.slice (some ⟨g, 0, none⟩) k cA) k ((L1.take k).flatMap tdC) rfl HRow1.out (flat_one td_one _) HSz.out.1 HSz8.out ?_; intro v5 w9 hown hg hv; have hT9 : Tch W5 w9 [] := HE8.out.trans (Tch.of_grown' hg (fun g e => by cases e)); obtain ⟨x0, x1, x2, x3⟩ := (hT9.blk HX5.out (by simp)).c4; obtain ⟨y0, y1, y2, y3, y4, y5, y6⟩ := (hT9.blk HY5.out (by simp)).c7; have HO10 := lH (hown.alloc (.cells #[.bool ps, .int .u64 (ph : Int), .int .u64 (pl : Int), .int .i64 pb, .int .i64 pr, .int .i64 me, .bool vs, .int .u64 (vh : Int), .int .u64 (vl : Int), .int .i64 po, .bool aw] 113)); have HSr := lH (src_new w9 113 [.bool ps, .int .u64 (ph : Int), .int .u64 (pl : Int), .int .i64 pb, .int .i64 pr, .int .i64 me, .bool vs, .int .u64 (vh : Int), .int .u64 (vl : Int), .int .i64 po, .bool aw]); have HT10 := lH (hT9.alloc (.cells #[.bool ps, .int .u64 (ph : Int), .int .u64 (pl : Int), .int .i64 pb, .int .i64 pr, .int .i64 me, .bool vs, .int .u64 (vh : Int), .int .u64 (vl : Int), .int .i64 po, .bool aw] 113)); have HSz10 : Hid (B5 ≤ (w9.alloc (.cells #[.bool ps, .int .u64 (ph : Int), .int .u64 (pl : Int), .int .i64 pb, .int .i64 pr, .int .i64 me, .bool vs, .int .u64 (vh : Int), .int .u64 (vl : Int), .int .i64 po, .bool aw] 113)).heap.size) := lH (by have h1 := HT10.out.size; rw [HB5.out] at h1; exact h1); clear hown hg hv hT9 c8))
      | (at_builtin; (refine wpList_apc 54 113 (.agg #[.bool false, .int .u64 0, .int .u64 0, .int .i64 0, .int .i64 0, .int .i64 0, .bool false, .int .u64 0, .int .u64 0, .int .i64 0, .bool false]) 11 88 Tryz.underlying54 infoTd rfl (by decide) (by decide) _ rfl (.tmp 95) (.tmp 99) rfl B5 v5 (0 + k) _ rfl HO10.out ⟨w9.heap.size, 0, none⟩ 1 [.bool ps, .int .u64 (ph : Int), .int .u64 (pl : Int), .int .i64 pb, .int .i64 pr, .int .i64 me, .bool vs, .int .u64 (vh : Int), .int .u64 (vl : Int), .int .i64 po, .bool aw] rfl rfl (fun j u hj => HSr.out j u hj) (by simp [Value.oneCell']) HSz.out.2.1 HSz10.out ?_; intro v7 w11 hown hg hv; have hT11 : Tch W5 w11 [] := HT10.out.trans_fre (Tch.of_grown' (S := obI v5) hg (fun k e => by rw [obI_some e]; simp)) (fun s hs => .inr (by rw [HB5.out]; exact (own_geI HO10.out s hs).1)); have c11 := (hT11.cell (p := ⟨t, 0, none⟩) HC0.out.2 (by simp)).trans HC0.out.1; have HC11 := lH (HCells.out w11 hT11); have HO11 := lH hown; have HT11 := lH hT11; have HSz11 : Hid (B5 ≤ w11.heap.size) := lH (by have h1 := HT11.out.size; rw [HB5.out] at h1; exact h1); clear hown hg hv hT11 x0 x1 x2 x3 y0 y1 y2 y3 y4 y5 y6))
      | (at_builtin; (refine wpList_apx 54 113 (.agg #[.bool false, .int .u64 0, .int .u64 0, .int .i64 0, .int .i64 0, .int .i64 0, .bool false, .int .u64 0, .int .u64 0, .int .i64 0, .bool false]) 11 88 Tryz.underlying54 infoTd rfl (by decide) (by decide) _ rfl (.tmp 102) (.tmp 108) rfl B5 v7 (0 + k + 1) _ rfl HO11.out ⟨g, k * 11, none⟩ d (cA - k) _ rfl HLen.out HC11.out (flat_one td_one _) HSz.out.2.2 HSz11.out ?_; intro v9 w13 hown hg hv; obtain ⟨A9, c9, e9, -, -⟩ := own_sl hown; subst e9; have hT13 : Tch W5 w13 [] := HT11.out.trans_fre (Tch.of_grown' (S := obI v7) hg (fun k e => by rw [obI_some e]; simp)) (fun s hs => .inr (by rw [HB5.out]; exact (own_geI HO11.out s hs).1)); obtain ⟨⟨u7, k7⟩, f7, S', hD9, hG9⟩ := RbD.set_ HD1.out hT13 (A := A9) (c := c9) (M := insI L1 (((ps, ph, pl), pb), (pr, me, (vs, vh, vl), po, aw))) (by rw [HEr.out.2, ← HEr.out.1, HB5.out]; exact hown) HNumI.out; rw [HEr.out.2, Nat.zero_add] at hD9 hG9; have HD9 := lH hD9; have HG9 := lH (HG1.out.trans_ hG9); clear hown hg hv hT13 hD9 hG9)))
     go_ret
     rw [HLq.out]
     exact ⟨rfl, S', HD9.out, HG9.out⟩
    | true =>
     cases b3 with
     | true =>
      have HTr := lH HAh.out
      refine wp_region_held_drew (S := (fun W => W.cell? ⟨t, 0, none⟩ = some (Value.slice (some ⟨g, 0, none⟩) n cA) ∧ (W.cell? ⟨g, k * 11, none⟩ = some (Value.bool us) ∧ W.cell? ⟨g, k * 11 + 1, none⟩ = some (Value.int .u64 (uh : Int)) ∧ W.cell? ⟨g, k * 11 + 2, none⟩ = some (Value.int .u64 (ul : Int)) ∧ W.cell? ⟨g, k * 11 + 3, none⟩ = some (Value.int .i64 ub) ∧ W.cell? ⟨g, k * 11 + 4, none⟩ = some (Value.int .i64 upr) ∧ W.cell? ⟨g, k * 11 + 5, none⟩ = some (Value.int .i64 ume) ∧ W.cell? ⟨g, k * 11 + 6, none⟩ = some (Value.bool uvs) ∧ W.cell? ⟨g, k * 11 + 7, none⟩ = some (Value.int .u64 (uvh : Int)) ∧ W.cell? ⟨g, k * 11 + 8, none⟩ = some (Value.int .u64 (uvl : Int)) ∧ W.cell? ⟨g, k * 11 + 9, none⟩ = some (Value.int .i64 upo) ∧ W.cell? ⟨g, k * 11 + 10, none⟩ = some (Value.bool uaw)) ∧ (W.cell? ⟨xb, 0, none⟩ = some (Value.bool ps) ∧ W.cell? ⟨xb, 1, none⟩ = some (Value.int .u64 (ph : Int)) ∧ W.cell? ⟨xb, 2, none⟩ = some (Value.int .u64 (pl : Int)) ∧ W.cell? ⟨xb, 3, none⟩ = some (Value.int .i64 pb)) ∧ (W.cell? ⟨yb, 0, none⟩ = some (Value.int .i64 pr) ∧ W.cell? ⟨yb, 1, none⟩ = some (Value.int .i64 me) ∧ W.cell? ⟨yb, 2, none⟩ = some (Value.bool vs) ∧ W.cell? ⟨yb, 3, none⟩ = some (Value.int .u64 (vh : Int)) ∧ W.cell? ⟨yb, 4, none⟩ = some (Value.int .u64 (vl : Int)) ∧ W.cell? ⟨yb, 5, none⟩ = some (Value.int .i64 po) ∧ W.cell? ⟨yb, 6, none⟩ = some (Value.bool aw)))) (by kernel_rfl) ?_ (fun hHeld => ?_)
      ·(first | exact HCl.out | exact HRdl.out _ HT6.out | exact HRdl.out _ HT5.out)
      refine tkH 0 ?_
      refine tkH 1 ?_
      refine tkH 2 ?_
      refine tkH 3 ?_
      refine tkH 4 ?_
      refine tkH 5 ?_
      refine tkH 6 ?_
      refine tkH 7 ?_
      refine tkH 8 ?_
      refine tkH 9 ?_
      refine tkH 10 ?_
      refine tkH 11 ?_
      refine tkH 12 ?_
      refine tkH 13 ?_
      refine tkH 14 ?_
      refine tkH 15 ?_
      refine tkH 16 ?_
      refine wpAnyH_ready (rs := [17]) (by kernel_rfl) (by simp) ?_
      refine AllReadyH.cons (o := { dst := some 59, op := Go.Op.call { callee := Go.Callee.value (Go.Operand.func 27), args := #[Go.Operand.tmp 57, Go.Operand.tmp 58], argTypes := #[30, 30] }, type := 4, pos := "ref.go:121", after := #[{ on := 15, ground := Go.Ground.data }, { on := 16, ground := Go.Ground.data }, { on := 7, ground := Go.Ground.chain }, { on := 7, ground := Go.Ground.guard }], guard := some (7, true) }) rfl (fun K hK => ?_) AllReadyH.nil
      go_simp
      (go_at_call 27; (with_reducible refine cZm (HLs.out _) ?_); rintro e w5 ⟨rfl, hb5⟩; have HT5 := lH (HTd.out.trans (Tch.of_below [] hb5)); clear hb5)
      go_wp2_with fail
      refine hK.out _ _ ?_ (fun hHeld => ?_)
      ·(first | exact HCl.out | exact HRdl.out _ HT6.out | exact HRdl.out _ HT5.out)
      clear hK K
      try simp only [Act.put, List.setIfInBounds_toArray, List.set_cons_zero, List.set_cons_succ]
      refine tkH 18 ?_
      refine tkH 19 ?_
      refine tkH 20 ?_
      refine tkH 21 ?_
      refine tkH 22 ?_
      refine tkH 23 ?_
      refine tkH 24 ?_
      refine tkH 25 ?_
      refine tkH 26 ?_
      refine tkH 27 ?_
      refine tkH 28 ?_
      refine tkH 29 ?_
      refine tkH 30 ?_
      refine tkH 31 ?_
      refine tkH 32 ?_
      refine tkH 33 ?_
      refine tkH 34 ?_
      refine tkH 35 ?_
      refine tkH 36 ?_
      refine tkH 37 ?_
      refine tkH 38 ?_
      refine wpAnyH_ready (rs := [39]) (by kernel_rfl) (by simp) ?_
      refine AllReadyH.cons (o := { dst := some 81, op := Go.Op.call { callee := Go.Callee.value (Go.Operand.func 133), args := #[Go.Operand.tmp 79, Go.Operand.tmp 80], argTypes := #[49, 49] }, type := 4, pos := "ref.go:121", after := #[{ on := 37, ground := Go.Ground.data }, { on := 38, ground := Go.Ground.data }, { on := 29, ground := Go.Ground.chain }, { on := 29, ground := Go.Ground.guard }], guard := some (29, true) }) rfl (fun K hK => ?_) AllReadyH.nil
      go_simp
      (go_at_call 133; (with_reducible refine cZm (HBt.out _) ?_); rintro e w6 ⟨rfl, hT6⟩; have HT6 := lH (HT5.out.trans hT6); clear hT6)
      go_wp2_with fail
      refine hK.out _ _ ?_ (fun hHeld => ?_)
      ·(first | exact HCl.out | exact HRdl.out _ HT6.out | exact HRdl.out _ HT5.out)
      clear hK K
      try simp only [Act.put, List.setIfInBounds_toArray, List.set_cons_zero, List.set_cons_succ]
      refine tkH 40 ?_
      refine tkH 41 ?_
      refine tkH 42 ?_
      refine wpAnyH_done (by kernel_rfl) ?_ _
      have HUp9 := lH (HUp.out HTr.out)
      go_wp2
      go_roundw
      case rel => exact ⟨k + 1, by go_num, hkn, HUp9, HT6⟩
      case measure => simp [intOf]; omega
     | false =>
      have HPos := lH (HPo.out HAh.out)
      refine wp_region_held_drew (S := (fun W => W.cell? ⟨t, 0, none⟩ = some (Value.slice (some ⟨g, 0, none⟩) n cA) ∧ (W.cell? ⟨g, k * 11, none⟩ = some (Value.bool us) ∧ W.cell? ⟨g, k * 11 + 1, none⟩ = some (Value.int .u64 (uh : Int)) ∧ W.cell? ⟨g, k * 11 + 2, none⟩ = some (Value.int .u64 (ul : Int)) ∧ W.cell? ⟨g, k * 11 + 3, none⟩ = some (Value.int .i64 ub) ∧ W.cell? ⟨g, k * 11 + 4, none⟩ = some (Value.int .i64 upr) ∧ W.cell? ⟨g, k * 11 + 5, none⟩ = some (Value.int .i64 ume) ∧ W.cell? ⟨g, k * 11 + 6, none⟩ = some (Value.bool uvs) ∧ W.cell? ⟨g, k * 11 + 7, none⟩ = some (Value.int .u64 (uvh : Int)) ∧ W.cell? ⟨g, k * 11 + 8, none⟩ = some (Value.int .u64 (uvl : Int)) ∧ W.cell? ⟨g, k * 11 + 9, none⟩ = some (Value.int .i64 upo) ∧ W.cell? ⟨g, k * 11 + 10, none⟩ = some (Value.bool uaw)) ∧ (W.cell? ⟨xb, 0, none⟩ = some (Value.bool ps) ∧ W.cell? ⟨xb, 1, none⟩ = some (Value.int .u64 (ph : Int)) ∧ W.cell? ⟨xb, 2, none⟩ = some (Value.int .u64 (pl : Int)) ∧ W.cell? ⟨xb, 3, none⟩ = some (Value.int .i64 pb)) ∧ (W.cell? ⟨yb, 0, none⟩ = some (Value.int .i64 pr) ∧ W.cell? ⟨yb, 1, none⟩ = some (Value.int .i64 me) ∧ W.cell? ⟨yb, 2, none⟩ = some (Value.bool vs) ∧ W.cell? ⟨yb, 3, none⟩ = some (Value.int .u64 (vh : Int)) ∧ W.cell? ⟨yb, 4, none⟩ = some (Value.int .u64 (vl : Int)) ∧ W.cell? ⟨yb, 5, none⟩ = some (Value.int .i64 po) ∧ W.cell? ⟨yb, 6, none⟩ = some (Value.bool aw)))) (by kernel_rfl) ?_ (fun hHeld => ?_)
      ·(first | exact HCl.out | exact HRdl.out _ HT6.out | exact HRdl.out _ HT5.out)
      refine tkH 0 ?_
      refine tkH 1 ?_
      refine tkH 2 ?_
      refine tkH 3 ?_
      refine tkH 4 ?_
      refine tkH 5 ?_
      refine tkH 6 ?_
      refine tkH 7 ?_
      refine tkH 8 ?_
      refine tkH 9 ?_
      refine tkH 10 ?_
      refine tkH 11 ?_
      refine tkH 12 ?_
      refine tkH 13 ?_
      refine tkH 14 ?_
      refine tkH 15 ?_
      refine tkH 16 ?_
      refine wpAnyH_ready (rs := [17]) (by kernel_rfl) (by simp) ?_
      refine AllReadyH.cons (o := { dst := some 59, op := Go.Op.call { callee := Go.Callee.value (Go.Operand.func 27), args := #[Go.Operand.tmp 57, Go.Operand.tmp 58], argTypes := #[30, 30] }, type := 4, pos := "ref.go:121", after := #[{ on := 15, ground := Go.Ground.data }, { on := 16, ground := Go.Ground.data }, { on := 7, ground := Go.Ground.chain }, { on := 7, ground := Go.Ground.guard }], guard := some (7, true) }) rfl (fun K hK => ?_) AllReadyH.nil
      go_simp
      (go_at_call 27; (with_reducible refine cZm (HLs.out _) ?_); rintro e w5 ⟨rfl, hb5⟩; have HT5 := lH (HTd.out.trans (Tch.of_below [] hb5)); clear hb5)
      go_wp2_with fail
      refine hK.out _ _ ?_ (fun hHeld => ?_)
      ·(first | exact HCl.out | exact HRdl.out _ HT6.out | exact HRdl.out _ HT5.out)
      clear hK K
      try simp only [Act.put, List.setIfInBounds_toArray, List.set_cons_zero, List.set_cons_succ]
      refine tkH 18 ?_
      refine tkH 19 ?_
      refine tkH 20 ?_
      refine tkH 21 ?_
      refine tkH 22 ?_
      refine tkH 23 ?_
      refine tkH 24 ?_
      refine tkH 25 ?_
      refine tkH 26 ?_
      refine tkH 27 ?_
      refine tkH 28 ?_
      refine tkH 29 ?_
      refine tkH 30 ?_
      refine tkH 31 ?_
      refine tkH 32 ?_
      refine tkH 33 ?_
      refine tkH 34 ?_
      refine tkH 35 ?_
      refine tkH 36 ?_
      refine tkH 37 ?_
      refine tkH 38 ?_
      refine wpAnyH_ready (rs := [39]) (by kernel_rfl) (by simp) ?_
      refine AllReadyH.cons (o := { dst := some 81, op := Go.Op.call { callee := Go.Callee.value (Go.Operand.func 133), args := #[Go.Operand.tmp 79, Go.Operand.tmp 80], argTypes := #[49, 49] }, type := 4, pos := "ref.go:121", after := #[{ on := 37, ground := Go.Ground.data }, { on := 38, ground := Go.Ground.data }, { on := 29, ground := Go.Ground.chain }, { on := 29, ground := Go.Ground.guard }], guard := some (29, true) }) rfl (fun K hK => ?_) AllReadyH.nil
      go_simp
      (go_at_call 133; (with_reducible refine cZm (HBt.out _) ?_); rintro e w6 ⟨rfl, hT6⟩; have HT6 := lH (HT5.out.trans hT6); clear hT6)
      go_wp2_with fail
      refine hK.out _ _ ?_ (fun hHeld => ?_)
      ·(first | exact HCl.out | exact HRdl.out _ HT6.out | exact HRdl.out _ HT5.out)
      clear hK K
      try simp only [Act.put, List.setIfInBounds_toArray, List.set_cons_zero, List.set_cons_succ]
      refine tkH 40 ?_
      refine tkH 41 ?_
      refine tkH 42 ?_
      refine wpAnyH_done (by kernel_rfl) ?_ _
      obtain ⟨W8, hW8⟩ : ∃ W8, w6 = W8 := ⟨_, rfl⟩
      have HE8 : Hid (Tch W5 W8 []) := lH (hW8 ▸ HT6.out)
      rw [hW8]
      skip
      clear hW8 c0
      have hrow8 := own_tch HR.out HE8.out (by simp)
      obtain ⟨A1, hA1, hcells, hlen⟩ := td_rest (k := k) HR.out HN.out hk
      have hrow1 := own_take hrow8 (k := k) hk
      rw [flatk_take td_eleven] at hrow1
      have HRow1 := lH hrow1
      have HCells := lH hcells
      obtain ⟨d, hd⟩ : ∃ d, n - k = d := ⟨_, rfl⟩
      rw [hd] at hlen
      have HLen := lH hlen
      have hnc : n ≤ cA := by
       obtain ⟨_, _, e, h9, _⟩ := own_sl HR.out
       injection e with e1 e2 e3
       omega
      have hkc : k ≤ cA := by omega
      have hkI : (0 : Int) ≤ (k : Int) ∧ (k : Int) ≤ (n : Int) ∧ (k : Int) ≤ (cA : Int) := by omega
      rw [if_neg (show ¬ cA = k by omega)] at hA1
      obtain rfl := Option.some.inj hA1
      have HEr : Hid ([] ++ (L1.take k).flatMap tdC ++ [.bool ps, .int .u64 (ph : Int), .int .u64 (pl : Int), .int .i64 pb, .int .i64 pr, .int .i64 me, .bool vs, .int .u64 (vh : Int), .int .u64 (vl : Int), .int .i64 po, .bool aw] ++ (L1.drop k).flatMap tdC = (insI L1 (((ps, ph, pl), pb), (pr, me, (vs, vh, vl), po, aw))).flatMap tdC ∧ (insI L1 (((ps, ph, pl), pb), (pr, me, (vs, vh, vl), po, aw))).length = 0 + k + 1 + d) := lH (by
       refine ⟨?_, by rw [insI_len, HN.out]; omega⟩
       unfold insI
       rw [HPos.out, List.flatMap_append, List.flatMap_cons]
       simp [tdC, pfC, paC])
      obtain ⟨B5, hB5⟩ : ∃ B, W5.heap.size = B := ⟨_, rfl⟩
      have HB5 := lH hB5
      have hb8 := HE8.out.size
      rw [hB5] at hb8
      have HSz8 := lH hb8
      have HNil : Hid (W8.ownsRow B5 113 11 (.slice none 0 0) 0 []) := lH ⟨rfl, .inl ⟨rfl, rfl⟩⟩
      have HSz : Hid (0 + k ≤ 1000000 ∧ 0 + k ≤ 1000000 ∧ 0 + k + 1 + d ≤ 1000000) := lH (by have := HL1.out; omega)
      have HNumI : Hid (∀ u ∈ insI L1 (((ps, ph, pl), pb), (pr, me, (vs, vh, vl), po, aw)), NumT u) := lH (fun u hu => by
       rcases (insI_mem L1 _ u).1 hu with rfl | h1
       ·exact ⟨HPn.out, HXn.out⟩
       ·exact HNum.out u h1)
      have c8 := (HE8.out.cell (p := ⟨t, 0, none⟩) HC0.out.2 (by simp)).trans HC0.out.1
      clear hB5 hb8
      have hck : ¬ cA = k := by omega
      clear hrow8 hrow1 hcells hlen
      go_wp2_with (first
       | (at_builtin; (refine wpList_apm 54 113 (.agg #[.bool false, .int .u64 0, .int .u64 0, .int .i64 0, .int .i64 0, .int .i64 0, .bool false, .int .u64 0, .int .u64 0, .int .i64 0, .bool false]) 11 88 Tryz.underlying54 infoTd rfl (by decide) (by decide) _ rfl (.tmp 87) (.tmp 93) rfl B5 (.slice none 0 0) 0 [] rfl HNil.out 0 (.slice (some ⟨g, 0, none⟩) k cA) k ((L1.take k).flatMap tdC) rfl HRow1.out (flat_one td_one _) HSz.out.1 HSz8.out ?_; intro v5 w9 hown hg hv; have hT9 : Tch W5 w9 [] := HE8.out.trans (Tch.of_grown' hg (fun g e => by cases e)); obtain ⟨x0, x1, x2, x3⟩ := (hT9.blk HX5.out (by simp)).c4; obtain ⟨y0, y1, y2, y3, y4, y5, y6⟩ := (hT9.blk HY5.out (by simp)).c7; have HO10 := lH (hown.alloc (.cells #[.bool ps, .int .u64 (ph : Int), .int .u64 (pl : Int), .int .i64 pb, .int .i64 pr, .int .i64 me, .bool vs, .int .u64 (vh : Int), .int .u64 (vl : Int), .int .i64 po, .bool aw] 113)); have HSr := lH (src_new w9 113 [.bool ps, .int .u64 (ph : Int), .int .u64 (pl : Int), .int .i64 pb, .int .i64 pr, .int .i64 me, .bool vs, .int .u64 (vh : Int), .int .u64 (vl : Int), .int .i64 po, .bool aw]); have HT10 := lH (hT9.alloc (.cells #[.bool ps, .int .u64 (ph : Int), .int .u64 (pl : Int), .int .i64 pb, .int .i64 pr, .int .i64 me, .bool vs, .int .u64 (vh : Int), .int .u64 (vl : Int), .int .i64 po, .bool aw] 113)); have HSz10 : Hid (B5 ≤ (w9.alloc (.cells #[.bool ps, .int .u64 (ph : Int), .int .u64 (pl : Int), .int .i64 pb, .int .i64 pr, .int .i64 me, .bool vs, .int .u64 (vh : Int), .int .u64 (vl : Int), .int .i64 po, .bool aw] 113)).heap.size) := lH (by have h1 := HT10.out.size; rw [HB5.out] at h1; exact h1); clear hown hg hv hT9 c8))
       | (at_builtin; (refine wpList_apc 54 113 (.agg #[.bool false, .int .u64 0, .int .u64 0, .int .i64 0, .int .i64 0, .int .i64 0, .bool false, .int .u64 0, .int .u64 0, .int .i64 0, .bool false]) 11 88 Tryz.underlying54 infoTd rfl (by decide) (by decide) _ rfl (.tmp 95) (.tmp 99) rfl B5 v5 (0 + k) _ rfl HO10.out ⟨w9.heap.size, 0, none⟩ 1 [.bool ps, .int .u64 (ph : Int), .int .u64 (pl : Int), .int .i64 pb, .int .i64 pr, .int .i64 me, .bool vs, .int .u64 (vh : Int), .int .u64 (vl : Int), .int .i64 po, .bool aw] rfl rfl (fun j u hj => HSr.out j u hj) (by simp [Value.oneCell']) HSz.out.2.1 HSz10.out ?_; intro v7 w11 hown hg hv; have hT11 : Tch W5 w11 [] := HT10.out.trans_fre (Tch.of_grown' (S := obI v5) hg (fun k e => by rw [obI_some e]; simp)) (fun s hs => .inr (by rw [HB5.out]; exact (own_geI HO10.out s hs).1)); have c11 := (hT11.cell (p := ⟨t, 0, none⟩) HC0.out.2 (by simp)).trans HC0.out.1; have HC11 := lH (HCells.out w11 hT11); have HO11 := lH hown; have HT11 := lH hT11; have HSz11 : Hid (B5 ≤ w11.heap.size) := lH (by have h1 := HT11.out.size; rw [HB5.out] at h1; exact h1); clear hown hg hv hT11 x0 x1 x2 x3 y0 y1 y2 y3 y4 y5 y6))
       | (at_builtin; (refine wpList_apx 54 113 (.agg #[.bool false, .int .u64 0, .int .u64 0, .int .i64 0, .int .i64 0, .int .i64 0, .bool false, .int .u64 0, .int .u64 0, .int .i64 0, .bool false]) 11 88 Tryz.underlying54 infoTd rfl (by decide) (by decide) _ rfl (.tmp 102) (.tmp 108) rfl B5 v7 (0 + k + 1) _ rfl HO11.out ⟨g, k * 11, none⟩ d (cA - k) _ rfl HLen.out HC11.out (flat_one td_one _) HSz.out.2.2 HSz11.out ?_; intro v9 w13 hown hg hv; obtain ⟨A9, c9, e9, -, -⟩ := own_sl hown; subst e9; have hT13 : Tch W5 w13 [] := HT11.out.trans_fre (Tch.of_grown' (S := obI v7) hg (fun k e => by rw [obI_some e]; simp)) (fun s hs => .inr (by rw [HB5.out]; exact (own_geI HO11.out s hs).1)); obtain ⟨⟨u7, k7⟩, f7, S', hD9, hG9⟩ := RbD.set_ HD1.out hT13 (A := A9) (c := c9) (M := insI L1 (((ps, ph, pl), pb), (pr, me, (vs, vh, vl), po, aw))) (by rw [HEr.out.2, ← HEr.out.1, HB5.out]; exact hown) HNumI.out; rw [HEr.out.2, Nat.zero_add] at hD9 hG9; have HD9 := lH hD9; have HG9 := lH (HG1.out.trans_ hG9); clear hown hg hv hT13 hD9 hG9)))
      go_ret
      rw [HLq.out]
      exact ⟨rfl, S', HD9.out, HG9.out⟩
  ·obtain rfl : k = n := by omega
   have kI : ¬ (k : Int) < (k : Int) := by omega
   have HPos : Hid (posI L1 (((ps, ph, pl), pb), (pr, me, (vs, vh, vl), po, aw)) = k) := lH (posI_at hA.out (by rw [HN.out]; exact Nat.le_refl _) (fun v hv => by have := (List.getElem?_eq_some_iff.1 hv).1; have := HN.out; omega))
   have HTd : Hid (Tch W5 wr.drew []) := lH hT.out.drew
   have HCe := lH c0
   clear hkn hA
   try go_wp2
   refine wp_region_held_drew (S := (fun W => W.cell? ⟨t, 0, none⟩ = some (Value.slice A k cA))) (by kernel_rfl) ?_ (fun hHeld => ?_)
   ·(exact HCe.out)
   refine tkH 0 ?_
   refine tkH 1 ?_
   refine tkH 2 ?_
   refine tkH 3 ?_
   refine tkH 4 ?_
   refine tkH 5 ?_
   refine tkH 6 ?_
   refine tkH 7 ?_
   refine tkO 8 ?_
   refine tkO 9 ?_
   refine tkO 10 ?_
   refine tkO 11 ?_
   refine tkO 12 ?_
   refine tkO 13 ?_
   refine tkO 14 ?_
   refine tkO 15 ?_
   refine tkO 16 ?_
   refine tkO 17 ?_
   refine tkO 18 ?_
   refine tkO 19 ?_
   refine tkO 20 ?_
   refine tkO 21 ?_
   refine tkO 22 ?_
   refine tkO 23 ?_
   refine tkO 24 ?_
   refine tkO 25 ?_
   refine tkO 26 ?_
   refine tkO 27 ?_
   refine tkO 28 ?_
   refine tkO 29 ?_
   refine tkO 30 ?_
   refine tkO 31 ?_
   refine tkO 32 ?_
   refine tkO 33 ?_
   refine tkO 34 ?_
   refine tkO 35 ?_
   refine tkO 36 ?_
   refine tkO 37 ?_
   refine tkO 38 ?_
   refine tkO 39 ?_
   refine tkO 40 ?_
   refine tkO 41 ?_
   refine tkH 42 ?_
   refine wpAnyH_done (by kernel_rfl) ?_ _
   rcases sl_cases HR.out with ⟨rfl, rfl, rfl⟩ | ⟨g, rfl⟩
   ·skip
    obtain ⟨W8, hW8⟩ : ∃ W8, wr.drew = W8 := ⟨_, rfl⟩
    have HE8 : Hid (Tch W5 W8 []) := lH (hW8 ▸ HTd.out)
    rw [hW8]
    skip
    clear hW8 c0
    have HRow1 : Hid (W8.ownsRow 0 113 11 (.slice none 0 0) 0 []) := lH ⟨rfl, .inl ⟨rfl, rfl⟩⟩
    have HRow2 : Hid (∀ W : World, W.ownsRow 0 113 11 (.slice none 0 0) 0 []) := lH (fun W => ⟨rfl, .inl ⟨rfl, rfl⟩⟩)
    have HEr : Hid ([] ++ [] ++ [.bool ps, .int .u64 (ph : Int), .int .u64 (pl : Int), .int .i64 pb, .int .i64 pr, .int .i64 me, .bool vs, .int .u64 (vh : Int), .int .u64 (vl : Int), .int .i64 po, .bool aw] ++ [] = (insI L1 (((ps, ph, pl), pb), (pr, me, (vs, vh, vl), po, aw))).flatMap tdC ∧ (insI L1 (((ps, ph, pl), pb), (pr, me, (vs, vh, vl), po, aw))).length = 0 + 0 + 1 + 0) := lH (by
     obtain rfl : L1 = [] := List.length_eq_zero_iff.1 HN.out
     exact ⟨rfl, rfl⟩)
    obtain ⟨B5, hB5⟩ : ∃ B, W5.heap.size = B := ⟨_, rfl⟩
    have HB5 := lH hB5
    have hb8 := HE8.out.size
    rw [hB5] at hb8
    have HSz8 := lH hb8
    have HNil : Hid (W8.ownsRow B5 113 11 (.slice none 0 0) 0 []) := lH ⟨rfl, .inl ⟨rfl, rfl⟩⟩
    have HSz : Hid (0 + 0 ≤ 1000000 ∧ 0 + 0 ≤ 1000000 ∧ 0 + 0 + 1 + 0 ≤ 1000000) := lH (by have := HL1.out; omega)
    have HNumI : Hid (∀ u ∈ insI L1 (((ps, ph, pl), pb), (pr, me, (vs, vh, vl), po, aw)), NumT u) := lH (fun u hu => by
     rcases (insI_mem L1 _ u).1 hu with rfl | h1
     ·exact ⟨HPn.out, HXn.out⟩
     ·exact HNum.out u h1)
    have c8 := (HE8.out.cell (p := ⟨t, 0, none⟩) HC0.out.2 (by simp)).trans HC0.out.1
    clear hB5 hb8
    skip
    go_wp2_with (first
     | (at_builtin; (refine wpList_apm 54 113 (.agg #[.bool false, .int .u64 0, .int .u64 0, .int .i64 0, .int .i64 0, .int .i64 0, .bool false, .int .u64 0, .int .u64 0, .int .i64 0, .bool false]) 11 88 Tryz.underlying54 infoTd rfl (by decide) (by decide) _ rfl (.tmp 87) (.tmp 93) rfl B5 (.slice none 0 0) 0 [] rfl HNil.out 0 (.slice none 0 0) 0 [] rfl HRow1.out (by simp) HSz.out.1 HSz8.out ?_; intro v5 w9 hown hg hv; have hT9 : Tch W5 w9 [] := HE8.out.trans (Tch.of_grown' hg (fun g e => by cases e)); obtain ⟨x0, x1, x2, x3⟩ := (hT9.blk HX5.out (by simp)).c4; obtain ⟨y0, y1, y2, y3, y4, y5, y6⟩ := (hT9.blk HY5.out (by simp)).c7; have HO10 := lH (hown.alloc (.cells #[.bool ps, .int .u64 (ph : Int), .int .u64 (pl : Int), .int .i64 pb, .int .i64 pr, .int .i64 me, .bool vs, .int .u64 (vh : Int), .int .u64 (vl : Int), .int .i64 po, .bool aw] 113)); have HSr := lH (src_new w9 113 [.bool ps, .int .u64 (ph : Int), .int .u64 (pl : Int), .int .i64 pb, .int .i64 pr, .int .i64 me, .bool vs, .int .u64 (vh : Int), .int .u64 (vl : Int), .int .i64 po, .bool aw]); have HT10 := lH (hT9.alloc (.cells #[.bool ps, .int .u64 (ph : Int), .int .u64 (pl : Int), .int .i64 pb, .int .i64 pr, .int .i64 me, .bool vs, .int .u64 (vh : Int), .int .u64 (vl : Int), .int .i64 po, .bool aw] 113)); have HSz10 : Hid (B5 ≤ (w9.alloc (.cells #[.bool ps, .int .u64 (ph : Int), .int .u64 (pl : Int), .int .i64 pb, .int .i64 pr, .int .i64 me, .bool vs, .int .u64 (vh : Int), .int .u64 (vl : Int), .int .i64 po, .bool aw] 113)).heap.size) := lH (by have h1 := HT10.out.size; rw [HB5.out] at h1; exact h1); clear hown hg hv hT9 c8))
     | (at_builtin; (refine wpList_apc 54 113 (.agg #[.bool false, .int .u64 0, .int .u64 0, .int .i64 0, .int .i64 0, .int .i64 0, .bool false, .int .u64 0, .int .u64 0, .int .i64 0, .bool false]) 11 88 Tryz.underlying54 infoTd rfl (by decide) (by decide) _ rfl (.tmp 95) (.tmp 99) rfl B5 v5 (0 + 0) _ rfl HO10.out ⟨w9.heap.size, 0, none⟩ 1 [.bool ps, .int .u64 (ph : Int), .int .u64 (pl : Int), .int .i64 pb, .int .i64 pr, .int .i64 me, .bool vs, .int .u64 (vh : Int), .int .u64 (vl : Int), .int .i64 po, .bool aw] rfl rfl (fun j u hj => HSr.out j u hj) (by simp [Value.oneCell']) HSz.out.2.1 HSz10.out ?_; intro v7 w11 hown hg hv; have hT11 : Tch W5 w11 [] := HT10.out.trans_fre (Tch.of_grown' (S := obI v5) hg (fun k e => by rw [obI_some e]; simp)) (fun s hs => .inr (by rw [HB5.out]; exact (own_geI HO10.out s hs).1)); have c11 := (hT11.cell (p := ⟨t, 0, none⟩) HC0.out.2 (by simp)).trans HC0.out.1; have HO11 := lH hown; have HT11 := lH hT11; have HSz11 : Hid (B5 ≤ w11.heap.size) := lH (by have h1 := HT11.out.size; rw [HB5.out] at h1; exact h1); clear hown hg hv hT11 x0 x1 x2 x3 y0 y1 y2 y3 y4 y5 y6))
     | (at_builtin; (refine wpList_apm 54 113 (.agg #[.bool false, .int .u64 0, .int .u64 0, .int .i64 0, .int .i64 0, .int .i64 0, .bool false, .int .u64 0, .int .u64 0, .int .i64 0, .bool false]) 11 88 Tryz.underlying54 infoTd rfl (by decide) (by decide) _ rfl (.tmp 102) (.tmp 108) rfl B5 v7 (0 + 0 + 1) _ rfl HO11.out 0 (.slice none 0 0) 0 [] rfl (HRow2.out _) (by simp) HSz.out.2.2 HSz11.out ?_; intro v9 w13 hown hg hv; obtain ⟨A9, c9, e9, -, -⟩ := own_sl hown; subst e9; have hT13 : Tch W5 w13 [] := HT11.out.trans_fre (Tch.of_grown' (S := obI v7) hg (fun k e => by rw [obI_some e]; simp)) (fun s hs => .inr (by rw [HB5.out]; exact (own_geI HO11.out s hs).1)); obtain ⟨⟨u7, k7⟩, f7, S', hD9, hG9⟩ := RbD.set_ HD1.out hT13 (A := A9) (c := c9) (M := insI L1 (((ps, ph, pl), pb), (pr, me, (vs, vh, vl), po, aw))) (by rw [HEr.out.2, ← HEr.out.1, HB5.out]; exact hown) HNumI.out; rw [HEr.out.2] at hD9 hG9; have HD9 := lH hD9; have HG9 := lH (HG1.out.trans_ hG9); clear hown hg hv hT13 hD9 hG9)))
    go_ret
    rw [HLq.out]
    exact ⟨rfl, S', HD9.out, HG9.out⟩
   ·skip
    obtain ⟨W8, hW8⟩ : ∃ W8, wr.drew = W8 := ⟨_, rfl⟩
    have HE8 : Hid (Tch W5 W8 []) := lH (hW8 ▸ HTd.out)
    rw [hW8]
    skip
    clear hW8 c0
    have hrow8 := own_tch HR.out HE8.out (by simp)
    obtain ⟨A1, hA1, hcells, hlen⟩ := td_rest (k := k) HR.out HN.out hk
    have hrow1 := own_take hrow8 (k := k) hk
    rw [flatk_take td_eleven] at hrow1
    have HRow1 := lH hrow1
    have HCells := lH hcells
    obtain ⟨d, hd⟩ : ∃ d, k - k = d := ⟨_, rfl⟩
    rw [hd] at hlen
    have HLen := lH hlen
    have hnc : k ≤ cA := by
     obtain ⟨_, _, e, h9, _⟩ := own_sl HR.out
     injection e with e1 e2 e3
     omega
    have hkc : k ≤ cA := by omega
    have hkI : (0 : Int) ≤ (k : Int) ∧ (k : Int) ≤ (k : Int) ∧ (k : Int) ≤ (cA : Int) := by omega
    have HEr : Hid ([] ++ (L1.take k).flatMap tdC ++ [.bool ps, .int .u64 (ph : Int), .int .u64 (pl : Int), .int .i64 pb, .int .i64 pr, .int .i64 me, .bool vs, .int .u64 (vh : Int), .int .u64 (vl : Int), .int .i64 po, .bool aw] ++ (L1.drop k).flatMap tdC = (insI L1 (((ps, ph, pl), pb), (pr, me, (vs, vh, vl), po, aw))).flatMap tdC ∧ (insI L1 (((ps, ph, pl), pb), (pr, me, (vs, vh, vl), po, aw))).length = 0 + k + 1 + d) := lH (by
     refine ⟨?_, by rw [insI_len, HN.out]; omega⟩
     unfold insI
     rw [HPos.out, List.flatMap_append, List.flatMap_cons]
     simp [tdC, pfC, paC])
    obtain ⟨B5, hB5⟩ : ∃ B, W5.heap.size = B := ⟨_, rfl⟩
    have HB5 := lH hB5
    have hb8 := HE8.out.size
    rw [hB5] at hb8
    have HSz8 := lH hb8
    have HNil : Hid (W8.ownsRow B5 113 11 (.slice none 0 0) 0 []) := lH ⟨rfl, .inl ⟨rfl, rfl⟩⟩
    have HSz : Hid (0 + k ≤ 1000000 ∧ 0 + k ≤ 1000000 ∧ 0 + k + 1 + 0 ≤ 1000000) := lH (by have := HL1.out; omega)
    have HNumI : Hid (∀ u ∈ insI L1 (((ps, ph, pl), pb), (pr, me, (vs, vh, vl), po, aw)), NumT u) := lH (fun u hu => by
     rcases (insI_mem L1 _ u).1 hu with rfl | h1
     ·exact ⟨HPn.out, HXn.out⟩
     ·exact HNum.out u h1)
    have c8 := (HE8.out.cell (p := ⟨t, 0, none⟩) HC0.out.2 (by simp)).trans HC0.out.1
    clear hB5 hb8
    obtain rfl : d = 0 := by omega
    clear hrow8 hrow1 hcells hlen hd
    go_wp2_with (first
     | (at_builtin; (refine wpList_apm 54 113 (.agg #[.bool false, .int .u64 0, .int .u64 0, .int .i64 0, .int .i64 0, .int .i64 0, .bool false, .int .u64 0, .int .u64 0, .int .i64 0, .bool false]) 11 88 Tryz.underlying54 infoTd rfl (by decide) (by decide) _ rfl (.tmp 87) (.tmp 93) rfl B5 (.slice none 0 0) 0 [] rfl HNil.out 0 (.slice (some ⟨g, 0, none⟩) k cA) k ((L1.take k).flatMap tdC) rfl HRow1.out (flat_one td_one _) HSz.out.1 HSz8.out ?_; intro v5 w9 hown hg hv; have hT9 : Tch W5 w9 [] := HE8.out.trans (Tch.of_grown' hg (fun g e => by cases e)); obtain ⟨x0, x1, x2, x3⟩ := (hT9.blk HX5.out (by simp)).c4; obtain ⟨y0, y1, y2, y3, y4, y5, y6⟩ := (hT9.blk HY5.out (by simp)).c7; have HO10 := lH (hown.alloc (.cells #[.bool ps, .int .u64 (ph : Int), .int .u64 (pl : Int), .int .i64 pb, .int .i64 pr, .int .i64 me, .bool vs, .int .u64 (vh : Int), .int .u64 (vl : Int), .int .i64 po, .bool aw] 113)); have HSr := lH (src_new w9 113 [.bool ps, .int .u64 (ph : Int), .int .u64 (pl : Int), .int .i64 pb, .int .i64 pr, .int .i64 me, .bool vs, .int .u64 (vh : Int), .int .u64 (vl : Int), .int .i64 po, .bool aw]); have HT10 := lH (hT9.alloc (.cells #[.bool ps, .int .u64 (ph : Int), .int .u64 (pl : Int), .int .i64 pb, .int .i64 pr, .int .i64 me, .bool vs, .int .u64 (vh : Int), .int .u64 (vl : Int), .int .i64 po, .bool aw] 113)); have HSz10 : Hid (B5 ≤ (w9.alloc (.cells #[.bool ps, .int .u64 (ph : Int), .int .u64 (pl : Int), .int .i64 pb, .int .i64 pr, .int .i64 me, .bool vs, .int .u64 (vh : Int), .int .u64 (vl : Int), .int .i64 po, .bool aw] 113)).heap.size) := lH (by have h1 := HT10.out.size; rw [HB5.out] at h1; exact h1); clear hown hg hv hT9 c8))
     | (at_builtin; (refine wpList_apc 54 113 (.agg #[.bool false, .int .u64 0, .int .u64 0, .int .i64 0, .int .i64 0, .int .i64 0, .bool false, .int .u64 0, .int .u64 0, .int .i64 0, .bool false]) 11 88 Tryz.underlying54 infoTd rfl (by decide) (by decide) _ rfl (.tmp 95) (.tmp 99) rfl B5 v5 (0 + k) _ rfl HO10.out ⟨w9.heap.size, 0, none⟩ 1 [.bool ps, .int .u64 (ph : Int), .int .u64 (pl : Int), .int .i64 pb, .int .i64 pr, .int .i64 me, .bool vs, .int .u64 (vh : Int), .int .u64 (vl : Int), .int .i64 po, .bool aw] rfl rfl (fun j u hj => HSr.out j u hj) (by simp [Value.oneCell']) HSz.out.2.1 HSz10.out ?_; intro v7 w11 hown hg hv; have hT11 : Tch W5 w11 [] := HT10.out.trans_fre (Tch.of_grown' (S := obI v5) hg (fun k e => by rw [obI_some e]; simp)) (fun s hs => .inr (by rw [HB5.out]; exact (own_geI HO10.out s hs).1)); have c11 := (hT11.cell (p := ⟨t, 0, none⟩) HC0.out.2 (by simp)).trans HC0.out.1; have HC11 := lH (HCells.out w11 hT11); have HO11 := lH hown; have HT11 := lH hT11; have HSz11 : Hid (B5 ≤ w11.heap.size) := lH (by have h1 := HT11.out.size; rw [HB5.out] at h1; exact h1); clear hown hg hv hT11 x0 x1 x2 x3 y0 y1 y2 y3 y4 y5 y6))
     | (at_builtin; (refine wpList_apx 54 113 (.agg #[.bool false, .int .u64 0, .int .u64 0, .int .i64 0, .int .i64 0, .int .i64 0, .bool false, .int .u64 0, .int .u64 0, .int .i64 0, .bool false]) 11 88 Tryz.underlying54 infoTd rfl (by decide) (by decide) _ rfl (.tmp 102) (.tmp 108) rfl B5 v7 (0 + k + 1) _ rfl HO11.out A1 0 (cA - k) _ rfl HLen.out HC11.out (flat_one td_one _) HSz.out.2.2 HSz11.out ?_; intro v9 w13 hown hg hv; obtain ⟨A9, c9, e9, -, -⟩ := own_sl hown; subst e9; have hT13 : Tch W5 w13 [] := HT11.out.trans_fre (Tch.of_grown' (S := obI v7) hg (fun k e => by rw [obI_some e]; simp)) (fun s hs => .inr (by rw [HB5.out]; exact (own_geI HO11.out s hs).1)); obtain ⟨⟨u7, k7⟩, f7, S', hD9, hG9⟩ := RbD.set_ HD1.out hT13 (A := A9) (c := c9) (M := insI L1 (((ps, ph, pl), pb), (pr, me, (vs, vh, vl), po, aw))) (by rw [HEr.out.2, ← HEr.out.1, HB5.out]; exact hown) HNumI.out; rw [HEr.out.2, Nat.add_zero, Nat.zero_add] at hD9 hG9; have HD9 := lH hD9; have HG9 := lH (HG1.out.trans_ hG9); clear hown hg hv hT13 hD9 hG9)))
    go_ret
    rw [HLq.out]
    exact ⟨rfl, S', HD9.out, HG9.out⟩
end Go.Proofs.YtgfkmgbcajdcdaaGreatDoor
