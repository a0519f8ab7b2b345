/-
  Several texts in one: RxB, RxC, RxD.
-/
import Derived.Test.YtgfkmgbcajdcdaaGreatDoorYba
import Derived.Test.YtgfkmgbcajdcdaaGreatDoorYao
import Derived.Test.YtgfkmgbcajdcdaaGreatDoorYaa
set_option linter.unusedVariables false
set_option maxRecDepth 100000
set_option maxHeartbeats 16000000
namespace Go.Proofs.YtgfkmgbcajdcdaaGreatDoor
open Go.RowKit Ifs

def HopC (t p : Nat) (S T : List Nat) (L : List TdI) (st : StI) (f : Nat) : Prop := ∀ (x : PaI) (r : Nat), r + f = 9 → okX x → (N64 x.2.2.1.2.1 ∧ N64 x.2.2.1.2.2) → ∀ w, RbD w t S L → IfD w p T st →
  Calls Tryz.prog 51 #[ptrV t, ptrV p, paR x, .int .i64 (r : Int)] w fun e w' => e = .returned (.tuple #[hpR (hopF L st f x).1, .int .i64 (hopF L st f x).2]) ∧ Tch w w' []
theorem folX_yes {x y : PaI} (h : ¬ y.2.2.2.1 = 0) (k : y.2.2.1 = zeroA) : folX x y = (y.1, y.2.1, x.2.2.1, y.2.2.2.1, y.2.2.2.2) := by unfold folX; rw [if_pos ⟨h, k⟩]
theorem folX_no {x y : PaI} (h : ¬ (¬ y.2.2.2.1 = 0 ∧ y.2.2.1 = zeroA)) : folX x y = y := by unfold folX; rw [if_neg h]
theorem prefsD_le (L : List TdI) : (prefsI L).length ≤ L.length := prefK_le L _
theorem dhop_step (t p : Nat) (S T : List Nat) (L : List TdI) (st : StI) (hL : L.length ≤ 1000) (hI : InvR L) (f : Nat) (ih : ∀ f', f = f' + 1 → HopC t p S T L st f') : HopC t p S T L st f := by
 intro x r hrf hx hxn w h k
 have HOv := lH (fun W (hT : Tch w W []) => overD t S L hL x.2.2.1 hxn W (h.tch hT (by simp)))
 have HPa := lH (fun q W (hT : Tch w W []) => dpath_any t p S T L st q hL hI W (h.tch hT (by simp)) (k.tch hT (by simp)))
 have HIh : Hid (∀ f', f = f' + 1 → ∀ (y : PaI), okX y → (N64 y.2.2.1.2.1 ∧ N64 y.2.2.1.2.2) → ∀ W, Tch w W [] → Calls Tryz.prog 51 #[ptrV t, ptrV p, paR y, .int .i64 (((r + 1 : Nat) : Int))] W fun e w' => e = .returned (.tuple #[hpR (hopF L st f' y).1, .int .i64 (hopF L st f' y).2]) ∧ Tch W w' []) :=
  lH (fun f' e y hy hyn W hW => ih f' e y (r + 1) (by omega) hy hyn W (h.tch hW (by simp)) (k.tch hW (by simp)))
 have HYo : Hid (∀ z y, pathI L st z = some y → okX y ∧ (N64 y.2.2.1.2.1 ∧ N64 y.2.2.1.2.2)) := lH (fun z y hy => by
  have h1 := (pathI_some hI hy).2
  exact ⟨hI.okX _ h1, (h.num _ h1).2⟩)
 have HRf := lH hrf
 have HLn := lH hL
 obtain ⟨D, hD⟩ : ∃ D, hopF L st f x = D := ⟨_, rfl⟩
 have HD := lH hD
 rw [hD]
 have HOx := lH hx
 obtain ⟨pr, me, ⟨vs, vh, vl⟩, po, aw⟩ := x
 obtain ⟨xb, hxb⟩ : ∃ xb, w.heap.size = xb := ⟨_, rfl⟩
 obtain ⟨W1, hW1⟩ : ∃ W, w.alloc (.cells #[.int .i64 pr, .int .i64 me, .bool vs, .int .u64 (vh : Int), .int .u64 (vl : Int), .int .i64 po, .bool aw] 49) = W := ⟨_, rfl⟩
 obtain ⟨rb, hrb⟩ : ∃ rb, xb + 1 = rb := ⟨_, rfl⟩
 obtain ⟨W0, hW0⟩ : ∃ W, W1.alloc (.cells #[.int .i64 0, .bool false, .int .u64 0, .int .u64 0, .bool false] 43) = W := ⟨_, rfl⟩
 have z1 : W1.heap.size = rb := by rw [← hW1, zA, hxb, hrb]
 have hT0 : Tch w W0 [] := hW0 ▸ hW1 ▸ (((Tch.refl w []).alloc _).alloc _)
 have hX : Blk W0 xb 49 #[.int .i64 pr, .int .i64 me, .bool vs, .int .u64 (vh : Int), .int .u64 (vl : Int), .int .i64 po, .bool aw] := hW0 ▸ hW1 ▸ hxb ▸ ((Blk.new w _ _).alloc _)
 have hR : Blk W0 rb 43 #[.int .i64 0, .bool false, .int .u64 0, .int .u64 0, .bool false] := hW0 ▸ z1 ▸ (Blk.new W1 _ _)
 have HR := lH (fun W (hT : Tch W0 W []) => hT.blk hR (by simp))
 have HXb := lH (fun W (hT : Tch W0 W []) => (hT.blk hX (by simp)).p7)
 have HT0 := lH hT0
 have HW0 : Hid ((w.alloc (.cells #[.int .i64 pr, .int .i64 me, .bool vs, .int .u64 (vh : Int), .int .u64 (vl : Int), .int .i64 po, .bool aw] 49)).alloc (.cells #[.int .i64 0, .bool false, .int .u64 0, .int .u64 0, .bool false] 43) = W0) := lH (by rw [hW1, hW0])
 have HSz : Hid (w.heap.size = xb ∧ xb + 1 = rb) := lH (by omega)
 obtain ⟨x0, x1, x2, x3, x4, x5, x6⟩ := hX.p7
 have HR0 := lH (HR.out W0 (Tch.refl _ _))
 have hx' := hx.1
 have hx2 := hx.2
 simp only at hx' hx2
 clear h k hrf hL hI ih hD hxb hrb hW1 z1 hT0 hX hR hxn hx
 cases aw with
 | true =>
  obtain ⟨e1, e2⟩ := hx' rfl
  simp only [zeroA, Prod.mk.injEq] at e2
  obtain ⟨rfl, rfl, rfl⟩ := e2
  subst e1
  have HDe : Hid (D = ((0, (false, 0, 0), true), 0)) := lH (by rw [← HD.out]; cases f <;> rfl)
  clear hW0 hx' hx2
  go_enter Tryz.func51, Tryz.ntmps51
  go_wp2_with (first | (rw [HW0.out, HSz.out.1, HSz.out.2]) | (refine wpList_sta rfl 43 (.tmp 8) (.tmp 16) rfl rb 0 #[.int .i64 0, .bool false, .int .u64 0, .int .u64 0, .bool true] rfl rfl 43 _ HR0.out 5 hpSz rfl (show 0 + 5 ≤ 5 from by decide) (by simp [Value.oneCell']) ?_; intro w6 hs6; have HS6 := lH hs6; clear hs6))
  obtain ⟨z0, z1, z2, z3, z4⟩ := (sta_whole HS6.out rfl).h5
  exact bodyPost_ret (v := .tuple #[.agg #[.int .i64 0, .bool false, .int .u64 0, .int .u64 0, .bool true], .int .i64 0]) (by simp [results, Tryz.results51, go_sem, z0, z1, z2, z3, z4]) rfl ⟨by rw [HDe.out]; rfl, HT0.out.trans_fre HS6.out.tch (by simp; have := HSz.out; omega)⟩
 | false =>
  by_cases hp0 : po = 0
  ·subst hp0
   have hnb : nbX (pr, me, (vs, vh, vl), 0, false) = true := rfl
   cases f with
   | zero =>
    have HDe : Hid (D = (zeroH, 151)) := lH (by rw [← HD.out, hopF_deep hnb])
    obtain rfl : r = 9 := HRf.out
    clear hW0 hx' hx2 hnb
    go_enter Tryz.func51, Tryz.ntmps51
    go_wp2_with (first | (rw [HW0.out, HSz.out.1, HSz.out.2]) | (refine wpList_sta rfl 43 (.tmp 8) (.tmp 27) rfl rb 0 #[.int .i64 0, .bool false, .int .u64 0, .int .u64 0, .bool false] rfl rfl 43 _ HR0.out 5 hpSz rfl (show 0 + 5 ≤ 5 from by decide) (by simp [Value.oneCell']) ?_; intro w6 hs6; have HS6 := lH hs6; clear hs6))
    obtain ⟨z0, z1, z2, z3, z4⟩ := (sta_whole HS6.out rfl).h5
    exact bodyPost_ret (v := .tuple #[.agg #[.int .i64 0, .bool false, .int .u64 0, .int .u64 0, .bool false], .int .i64 151]) (by simp [results, Tryz.results51, go_sem, z0, z1, z2, z3, z4]) rfl ⟨by rw [HDe.out]; rfl, HT0.out.trans_fre HS6.out.tch (by simp; have := HSz.out; omega)⟩
   | succ f =>
    have r8 : ¬ (8 : Int) < (r : Int) := by have := HRf.out; omega
    have HNx : Hid (nxtI L st (vs, vh, vl) = (overI L (vs, vh, vl)).findSome? (pathI L st)) := lH rfl
    have hol : (overI L (vs, vh, vl)).length ≤ 1000 := by
     unfold overI overL
     rw [List.length_reverse]
     exact Nat.le_trans (List.length_filter_le _ _) (Nat.le_trans (prefsD_le L) HLn.out)
    simp only at HOv
    obtain ⟨l, hl⟩ : ∃ l, overI L (vs, vh, vl) = l := ⟨_, rfl⟩
    rw [hl] at HOv HNx hol
    obtain ⟨n, hnl⟩ : ∃ n, l.length = n := ⟨_, rfl⟩
    rw [hnl] at HOv hol
    have HNl := lH (And.intro hnl hol)
    have HNb := lH hnb
    clear hW0 hx' hx2 hnb hl hnl hol
    go_enter Tryz.func51, Tryz.ntmps51
    go_wp2_with fail
    rw [HW0.out, HSz.out.1, HSz.out.2]
    go_wp2_with fail
    refine cZm (HOv.out W0 HT0.out) ?_
    rintro e w1 ⟨A, c, rfl, ho, hT1⟩
    have HOw := lH (own_mono ho (Nat.zero_le _))
    have HT1 := lH hT1
    clear ho hT1 x0 x1 x2 x3 x4 x5 x6
    go_wp2
    go_loopw [11] (fun iv wr => ∃ i : Nat, iv = .int .i64 (i : Int) ∧ i ≤ n ∧ Hid (∀ z ∈ l.take i, pathI L st z = none) ∧ Hid (Tch w1 wr [])) (fun iv _ => n - (intOf iv).toNat)
    case atStart => exact ⟨0, rfl, Nat.zero_le _, lH (by simp), lH (Tch.refl _ _)⟩
    case round =>
     obtain ⟨i, rfl, hi, hno, hT⟩ := hrel
     by_cases hin : i < n
     ·have iI : (i : Int) < (n : Int) := by omega
      have i0 : (0 : Int) ≤ (i : Int) := by omega
      have i1 : IntKind.i64.wrap ((i : Int) + 1) = (i : Int) + 1 := by have := HNl.out; rw [IntKind.wrap_i64]; omega
      have rI : IntKind.i64.wrap ((r : Int) + 1) = ((r + 1 : Nat) : Int) := by have := HRf.out; rw [IntKind.wrap_i64]; omega
      obtain ⟨r1, hr1⟩ : ∃ r1 : Int, ((r + 1 : Nat) : Int) = r1 := ⟨_, rfl⟩
      rw [hr1] at rI
      have HR1 := lH hr1
      obtain ⟨z, hz⟩ : ∃ z, l[i]? = some z := ⟨_, List.getElem?_eq_getElem (by rw [HNl.out.1]; exact hin)⟩
      have HZ := lH hz
      have ho2 := own_tch HOw.out hT.out (by simp)
      obtain ⟨g, rfl⟩ := slice_some ho2 (by omega)
      obtain ⟨c0, c1, c2, c3⟩ := pf_cells ho2 hz
      have HTw := lH (HT0.out.trans (HT1.out.trans hT.out))
      have HPz := lH (HPa.out z wr HTw.out)
      obtain ⟨o, ho⟩ : ∃ o, pathI L st z = o := ⟨_, rfl⟩
      rw [ho] at HPz
      have HOo := lH ho
      obtain ⟨⟨zs, zh, zl⟩, zb⟩ := z
      clear hz ho2 ho hr1
      go_wp2_with fail
      refine cZm HPz.out ?_
      rintro e w4 ⟨rfl, hT4⟩
      cases o with
      | none =>
       have HTr : Hid (∀ o, Tch w1 (w4.alloc o) []) := lH (fun o => (hT.out.trans hT4).alloc o)
       simp only [bestV, zeroX, Option.getD_none, Option.isSome_none]
       clear hT4 c0 c1 c2 c3
       go_wp2
       go_roundw
       case rel => exact ⟨i + 1, by go_num, hin, lH (take_more HZ.out hno.out HOo.out), HTr.out _⟩
       case measure => simp [intOf]; omega
      | some y =>
       obtain ⟨oy, ny⟩ := HYo.out _ y HOo.out
       have HNy : Hid (nxtI L st (vs, vh, vl) = some y) := lH (by rw [HNx.out]; exact some_at HZ.out HOo.out hno.out)
       have HDy : Hid (D = hopF L st f (folX (pr, me, (vs, vh, vl), 0, false) y)) := lH (by rw [← HD.out]; exact hopF_some HNb.out HNy.out)
       have HIy := lH (HIh.out f rfl y oy ny)
       rw [HR1.out] at HIy
       have hya := oy.1
       have hyo := oy.2
       simp only [bestV, Option.getD_some, Option.isSome_some]
       obtain ⟨yr, ym, ⟨ys, yh, yl⟩, yo, ya⟩ := y
       simp only at hya hyo
       obtain ⟨vb, hvb⟩ : ∃ vb, w4.heap.size = vb := ⟨_, rfl⟩
       obtain ⟨W3, hW3⟩ : ∃ W, w4.alloc (.cells #[.int .i64 yr, .int .i64 ym, .bool ys, .int .u64 (yh : Int), .int .u64 (yl : Int), .int .i64 yo, .bool ya] 49) = W := ⟨_, rfl⟩
       have hP3 : Blk W3 vb 49 #[.int .i64 yr, .int .i64 ym, .bool ys, .int .u64 (yh : Int), .int .u64 (yl : Int), .int .i64 yo, .bool ya] := hW3 ▸ hvb ▸ Blk.new w4 _ _
       have HT3 : Hid (Tch w W3 []) := lH (HTw.out.trans (hT4.trans (hW3 ▸ (Tch.refl w4 []).alloc _)))
       have HT03 : Hid (Tch W0 W3 []) := lH (HT1.out.trans (hT.out.trans (hT4.trans (hW3 ▸ (Tch.refl w4 []).alloc _))))
       have HR3 := lH (HR.out W3 HT03.out)
       obtain ⟨x0, x1, x2, x3, x4, x5, x6⟩ := HXb.out W3 HT03.out
       obtain ⟨y0, y1, y2, y3, y4, y5, y6⟩ := hP3.p7
       have HW3 := lH (And.intro hW3 hvb)
       clear hT4 c0 c1 c2 c3 hP3 hW3 hvb oy ny
       by_cases hyp : yo = 0
       ·subst hyp
        have HDr : Hid (D = hopF L st f (yr, ym, (ys, yh, yl), 0, ya)) := lH (by rw [HDy.out, folX_no (by simp)])
        clear hya hyo
        rw [← HDr.out] at HIy
        obtain ⟨⟨hp, ⟨hs, hh, hl⟩, hw⟩, he⟩ := D
        go_wp2_with (rw [HW3.out.1, HW3.out.2])
        refine cZm (HIy.out W3 HT3.out) ?_
        rintro e w7 ⟨rfl, hT7⟩
        have HR7 := lH (hT7.blk HR3.out (by simp))
        have HT7 := lH (HT3.out.trans hT7)
        clear hT7 x0 x1 x2 x3 x4 x5 x6 y0 y1 y2 y3 y4 y5 y6
        go_wp2_with (refine wpList_sta rfl 43 (.tmp 8) (.tmp 70) rfl rb 0 #[.int .i64 hp, .bool hs, .int .u64 (hh : Int), .int .u64 (hl : Int), .bool hw] rfl rfl 43 _ HR7.out 5 hpSz rfl (show 0 + 5 ≤ 5 from by decide) (by simp [Value.oneCell']) ?_; intro w6 hs6; have HS6 := lH hs6; clear hs6)
        obtain ⟨z0, z1, z2, z3, z4⟩ := (sta_whole HS6.out rfl).h5
        exact bodyPost_ret (v := .tuple #[.agg #[.int .i64 hp, .bool hs, .int .u64 (hh : Int), .int .u64 (hl : Int), .bool hw], .int .i64 he]) (by simp [results, Tryz.results51, go_sem, z0, z1, z2, z3, z4]) rfl ⟨rfl, HT7.out.trans_fre HS6.out.tch (by simp; have := HSz.out; omega)⟩
       ·have hyp2 : (0 : Int) < yo := by omega
        have hya2 : ya = false := by cases ya with
         | false => rfl
         | true => exact absurd (hya rfl).1 hyp
        subst hya2
        obtain ⟨b, hb⟩ : ∃ b, decide ((ys, yh, yl) = zeroA) = b := ⟨_, rfl⟩
        have EQ := eqA_eql 28 _ _ (eq_adR (ys, yh, yl) zeroA hb)
        simp only [zeroA, Int.natCast_zero] at EQ
        cases b with
        | true =>
         have hvz : (ys, yh, yl) = zeroA := of_decide_eq_true hb
         have HDe : Hid (D = ((yo, (vs, vh, vl), false), 0)) := lH (by
          rw [HDy.out, folX_yes (y := (yr, ym, (ys, yh, yl), yo, false)) hyp hvz, hopF_end (by unfold nbX; simp [hyp])]; rfl)
         clear hya hyo hyp hb hvz
         go_wp2_with (first | (rw [HW3.out.1, HW3.out.2]) | (refine wpList_sta rfl 43 (.tmp 8) (.tmp 63) rfl rb 0 #[.int .i64 yo, .bool vs, .int .u64 (vh : Int), .int .u64 (vl : Int), .bool false] rfl rfl 43 _ HR3.out 5 hpSz rfl (show 0 + 5 ≤ 5 from by decide) (by simp [Value.oneCell']) ?_; intro w6 hs6; have HS6 := lH hs6; clear hs6))
         obtain ⟨z0, z1, z2, z3, z4⟩ := (sta_whole HS6.out rfl).h5
         exact bodyPost_ret (v := .tuple #[.agg #[.int .i64 yo, .bool vs, .int .u64 (vh : Int), .int .u64 (vl : Int), .bool false], .int .i64 0]) (by simp [results, Tryz.results51, go_sem, z0, z1, z2, z3, z4]) rfl ⟨by rw [HDe.out], HT3.out.trans_fre HS6.out.tch (by simp; have := HSz.out; omega)⟩
        | false =>
         have hvz : ¬ (ys, yh, yl) = zeroA := of_decide_eq_false hb
         have HDr : Hid (D = hopF L st f (yr, ym, (ys, yh, yl), yo, false)) := lH (by rw [HDy.out, folX_no (fun e => hvz e.2)])
         clear hya hyo hyp hb hvz
         rw [← HDr.out] at HIy
         obtain ⟨⟨hp, ⟨hs, hh, hl⟩, hw⟩, he⟩ := D
         go_wp2_with (rw [HW3.out.1, HW3.out.2])
         refine cZm (HIy.out W3 HT3.out) ?_
         rintro e w7 ⟨rfl, hT7⟩
         have HR7 := lH (hT7.blk HR3.out (by simp))
         have HT7 := lH (HT3.out.trans hT7)
         clear hT7 x0 x1 x2 x3 x4 x5 x6 y0 y1 y2 y3 y4 y5 y6
         go_wp2_with (refine wpList_sta rfl 43 (.tmp 8) (.tmp 70) rfl rb 0 #[.int .i64 hp, .bool hs, .int .u64 (hh : Int), .int .u64 (hl : Int), .bool hw] rfl rfl 43 _ HR7.out 5 hpSz rfl (show 0 + 5 ≤ 5 from by decide) (by simp [Value.oneCell']) ?_; intro w6 hs6; have HS6 := lH hs6; clear hs6)
         obtain ⟨z0, z1, z2, z3, z4⟩ := (sta_whole HS6.out rfl).h5
         exact bodyPost_ret (v := .tuple #[.agg #[.int .i64 hp, .bool hs, .int .u64 (hh : Int), .int .u64 (hl : Int), .bool hw], .int .i64 he]) (by simp [results, Tryz.results51, go_sem, z0, z1, z2, z3, z4]) rfl ⟨rfl, HT7.out.trans_fre HS6.out.tch (by simp; have := HSz.out; omega)⟩
     ·have iI : ¬ (i : Int) < (n : Int) := by omega
      have HNn : Hid (nxtI L st (vs, vh, vl) = none) := lH (by
       rw [HNx.out, List.findSome?_eq_none_iff]
       intro z hz
       refine hno.out z ?_
       rw [List.take_of_length_le (by rw [HNl.out.1]; omega)]
       exact hz)
      have HDe : Hid (D = (zeroH, 150)) := lH (by rw [← HD.out]; exact hopF_none HNb.out HNn.out)
      have HT03 : Hid (Tch W0 wr []) := lH (HT1.out.trans hT.out)
      have HR3 := lH (HR.out wr HT03.out)
      have HT3 := lH (HT0.out.trans HT03.out)
      go_wp2_with (refine wpList_sta rfl 43 (.tmp 8) (.tmp 72) rfl rb 0 #[.int .i64 0, .bool false, .int .u64 0, .int .u64 0, .bool false] rfl rfl 43 _ HR3.out 5 hpSz rfl (show 0 + 5 ≤ 5 from by decide) (by simp [Value.oneCell']) ?_; intro w6 hs6; have HS6 := lH hs6; clear hs6)
      obtain ⟨z0, z1, z2, z3, z4⟩ := (sta_whole HS6.out rfl).h5
      exact bodyPost_ret (v := .tuple #[.agg #[.int .i64 0, .bool false, .int .u64 0, .int .u64 0, .bool false], .int .i64 150]) (by simp [results, Tryz.results51, go_sem, z0, z1, z2, z3, z4]) rfl ⟨by rw [HDe.out]; rfl, HT3.out.trans_fre HS6.out.tch (by simp; have := HSz.out; omega)⟩
  ·have hpp : (0 : Int) < po := by omega
   have HDe : Hid (D = ((po, (vs, vh, vl), false), 0)) := lH (by rw [← HD.out, hopF_end (by unfold nbX; simp [hp0])]; rfl)
   clear hW0 hx' hx2 hp0
   go_enter Tryz.func51, Tryz.ntmps51
   go_wp2_with (first | (rw [HW0.out, HSz.out.1, HSz.out.2]) | (refine wpList_sta rfl 43 (.tmp 8) (.tmp 24) rfl rb 0 #[.int .i64 po, .bool vs, .int .u64 (vh : Int), .int .u64 (vl : Int), .bool false] rfl rfl 43 _ HR0.out 5 hpSz rfl (show 0 + 5 ≤ 5 from by decide) (by simp [Value.oneCell']) ?_; intro w6 hs6; have HS6 := lH hs6; clear hs6))
   obtain ⟨z0, z1, z2, z3, z4⟩ := (sta_whole HS6.out rfl).h5
   exact bodyPost_ret (v := .tuple #[.agg #[.int .i64 po, .bool vs, .int .u64 (vh : Int), .int .u64 (vl : Int), .bool false], .int .i64 0]) (by simp [results, Tryz.results51, go_sem, z0, z1, z2, z3, z4]) rfl ⟨by rw [HDe.out], HT0.out.trans_fre HS6.out.tch (by simp; have := HSz.out; omega)⟩
theorem dhop_any (t p : Nat) (S T : List Nat) (L : List TdI) (st : StI) (hL : L.length ≤ 1000) (hI : InvR L) : ∀ f, HopC t p S T L st f
 | 0 => dhop_step t p S T L st hL hI 0 (fun f' e => by omega)
 | f + 1 => dhop_step t p S T L st hL hI (f + 1) (fun f' e => by
  obtain rfl : f' = f := by omega
  exact dhop_any t p S T L st hL hI f')
end Go.Proofs.YtgfkmgbcajdcdaaGreatDoor

namespace Go.Proofs.YtgfkmgbcajdcdaaGreatDoor
open Go.RowKit Ifs
theorem dHop_any (t p : Nat) (S T : List Nat) (L : List TdI) (st : StI) (q : PfI) (hL : L.length ≤ 1000) (hI : InvR L) (w : World) (h : RbD w t S L) (k : IfD w p T st) :
  Calls Tryz.prog 13 #[ptrV t, ptrV p, pfR q] w fun e w' => e = .returned (.tuple #[hpR (hopI L st q).1, .int .i64 (hopI L st q).2]) ∧ Tch w w' [] := by
 have HPa := lH (fun W (hT : Tch w W []) => dpath_any t p S T L st q hL hI W (h.tch hT (by simp)) (k.tch hT (by simp)))
 obtain ⟨o, ho⟩ : ∃ o, pathI L st q = o := ⟨_, rfl⟩
 obtain ⟨D, hD⟩ : ∃ D, hopI L st q = D := ⟨_, rfl⟩
 have HD : Hid ((o = none → D = (zeroH, 150)) ∧ ∀ x, o = some x → D = hopF L st 8 x) := lH (by
  rw [← hD]
  unfold hopI
  rw [ho]
  exact ⟨fun e => (by rw [e]), fun x e => (by rw [e])⟩)
 have HX : Hid (∀ x, o = some x → ∀ W, Tch w W [] → Calls Tryz.prog 51 #[ptrV t, ptrV p, paR x, .int .i64 1] W fun e w' => e = .returned (.tuple #[hpR (hopF L st 8 x).1, .int .i64 (hopF L st 8 x).2]) ∧ Tch W w' []) := lH (fun x e W hW => by
  have h1 := (pathI_some hI (ho.trans e)).2
  exact dhop_any t p S T L st hL hI 8 x 1 rfl (hI.okX _ h1) (h.num _ h1).2 W (h.tch hW (by simp)) (k.tch hW (by simp)))
 rw [hD]
 rw [ho] at HPa
 obtain ⟨⟨qs, qh, ql⟩, qb⟩ := q
 obtain ⟨xb, hxb⟩ : ∃ xb, w.heap.size = xb := ⟨_, rfl⟩
 obtain ⟨W1, hW1⟩ : ∃ W, w.alloc (.cells #[.bool qs, .int .u64 (qh : Int), .int .u64 (ql : Int), .int .i64 qb] 30) = W := ⟨_, rfl⟩
 obtain ⟨rb, hrb⟩ : ∃ rb, xb + 1 = rb := ⟨_, rfl⟩
 obtain ⟨W0, hW0⟩ : ∃ W, W1.alloc (.cells #[.int .i64 0, .bool false, .int .u64 0, .int .u64 0, .bool false] 43) = W := ⟨_, rfl⟩
 have z1 : W1.heap.size = rb := by rw [← hW1, zA, hxb, hrb]
 have hT0 : Tch w W0 [] := hW0 ▸ hW1 ▸ (((Tch.refl w []).alloc _).alloc _)
 have hX : Blk W0 xb 30 #[.bool qs, .int .u64 (qh : Int), .int .u64 (ql : Int), .int .i64 qb] := hW0 ▸ hW1 ▸ hxb ▸ ((Blk.new w _ _).alloc _)
 have hR : Blk W0 rb 43 #[.int .i64 0, .bool false, .int .u64 0, .int .u64 0, .bool false] := hW0 ▸ z1 ▸ (Blk.new W1 _ _)
 have HR := lH (fun W (hT : Tch W0 W []) => hT.blk hR (by simp))
 have HT0 := lH hT0
 have HW0 : Hid ((w.alloc (.cells #[.bool qs, .int .u64 (qh : Int), .int .u64 (ql : Int), .int .i64 qb] 30)).alloc (.cells #[.int .i64 0, .bool false, .int .u64 0, .int .u64 0, .bool false] 43) = W0) := lH (by rw [hW1, hW0])
 have HSz : Hid (w.heap.size = xb ∧ xb + 1 = rb) := lH (by omega)
 obtain ⟨x0, x1, x2, x3⟩ := hX.c4
 clear h k hL hI hD ho hxb hrb hW1 hW0 z1 hT0 hX hR
 go_enter Tryz.func13, Tryz.ntmps13
 go_wp2_with fail
 rw [HW0.out, HSz.out.1, HSz.out.2]
 go_wp2_with fail
 refine cZm (HPa.out W0 HT0.out) ?_
 rintro e w1 ⟨rfl, hT1⟩
 clear x0 x1 x2 x3
 cases o with
 | none =>
  obtain rfl := HD.out.1 rfl
  have HA : Hid (∀ o, Tch w (w1.alloc o) []) := lH (fun o => (HT0.out.trans hT1).alloc o)
  have HRa : Hid (∀ o, Blk (w1.alloc o) rb 43 #[.int .i64 0, .bool false, .int .u64 0, .int .u64 0, .bool false]) := lH (fun o => HR.out _ (hT1.alloc o))
  simp only [bestV, zeroX, Option.getD_none, Option.isSome_none]
  clear hT1
  go_wp2_with (refine wpList_sta rfl 43 (.tmp 6) (.tmp 19) rfl rb 0 #[.int .i64 0, .bool false, .int .u64 0, .int .u64 0, .bool false] rfl rfl 43 _ (HRa.out _) 5 hpSz rfl (show 0 + 5 ≤ 5 from by decide) (by simp [Value.oneCell']) ?_; intro w6 hs6; have HS6 := lH hs6; clear hs6)
  obtain ⟨z0, z1, z2, z3, z4⟩ := (sta_whole HS6.out rfl).h5
  exact bodyPost_ret (v := .tuple #[.agg #[.int .i64 0, .bool false, .int .u64 0, .int .u64 0, .bool false], .int .i64 150]) (by simp [results, Tryz.results13, go_sem, z0, z1, z2, z3, z4]) rfl ⟨rfl, (HA.out _).trans_fre HS6.out.tch (by simp; have := HSz.out; omega)⟩
 | some x =>
  have HDe := lH (HD.out.2 x rfl)
  have HXx := lH (HX.out x rfl)
  rw [← HDe.out] at HXx
  simp only [bestV, Option.getD_some, Option.isSome_some]
  obtain ⟨⟨hp, ⟨hs, hh, hl⟩, hw⟩, he⟩ := D
  obtain ⟨yr, ym, ⟨ys, yh, yl⟩, yo, ya⟩ := x
  obtain ⟨vb, hvb⟩ : ∃ vb, w1.heap.size = vb := ⟨_, rfl⟩
  obtain ⟨W3, hW3⟩ : ∃ W, w1.alloc (.cells #[.int .i64 yr, .int .i64 ym, .bool ys, .int .u64 (yh : Int), .int .u64 (yl : Int), .int .i64 yo, .bool ya] 49) = W := ⟨_, rfl⟩
  have hP3 : Blk W3 vb 49 #[.int .i64 yr, .int .i64 ym, .bool ys, .int .u64 (yh : Int), .int .u64 (yl : Int), .int .i64 yo, .bool ya] := hW3 ▸ hvb ▸ Blk.new w1 _ _
  have HT03 : Hid (Tch W0 W3 []) := lH (hT1.trans (hW3 ▸ (Tch.refl w1 []).alloc _))
  have HT3 := lH (HT0.out.trans HT03.out)
  have HR3 := lH (HR.out W3 HT03.out)
  obtain ⟨y0, y1, y2, y3, y4, y5, y6⟩ := hP3.p7
  have HW3 := lH (And.intro hW3 hvb)
  clear hT1 hP3 hW3 hvb
  go_wp2_with (rw [HW3.out.1, HW3.out.2])
  refine cZm (HXx.out W3 HT3.out) ?_
  rintro e w7 ⟨rfl, hT7⟩
  have HR7 := lH (hT7.blk HR3.out (by simp))
  have HT7 := lH (HT3.out.trans hT7)
  clear hT7 y0 y1 y2 y3 y4 y5 y6
  go_wp2_with (refine wpList_sta rfl 43 (.tmp 6) (.tmp 24) rfl rb 0 #[.int .i64 hp, .bool hs, .int .u64 (hh : Int), .int .u64 (hl : Int), .bool hw] rfl rfl 43 _ HR7.out 5 hpSz rfl (show 0 + 5 ≤ 5 from by decide) (by simp [Value.oneCell']) ?_; intro w6 hs6; have HS6 := lH hs6; clear hs6)
  obtain ⟨z0, z1, z2, z3, z4⟩ := (sta_whole HS6.out rfl).h5
  exact bodyPost_ret (v := .tuple #[.agg #[.int .i64 hp, .bool hs, .int .u64 (hh : Int), .int .u64 (hl : Int), .bool hw], .int .i64 he]) (by simp [results, Tryz.results13, go_sem, z0, z1, z2, z3, z4]) rfl ⟨rfl, HT7.out.trans_fre HS6.out.tch (by simp; have := HSz.out; omega)⟩
end Go.Proofs.YtgfkmgbcajdcdaaGreatDoor

namespace Go.Proofs.YtgfkmgbcajdcdaaGreatDoor
open Go.RowKit Ifs
theorem dtable_any (t p : Nat) (S T : List Nat) (L : List TdI) (st : StI) (hL : L.length ≤ 1000) (hI : InvB L) (w : World) (h : RbD w t S L) (k : IfD w p T st) :
  Calls Tryz.prog 20 #[ptrV t, ptrV p] w fun e w' => ∃ A c, e = .returned (.slice A (tabI L st).length c) ∧ RowE w' w.heap.size A (tabI L st).length c (tabI L st) ∧ Tch w w' [] := by
 have HPr := lH (prefsD t S L hL w h)
 have HHo := lH (fun q W (hT : Tch w W []) => dHop_any t p S T L st q hL hI.inv W (h.tch hT (by simp)) (k.tch hT (by simp)))
 have hn90 := hI.ninety
 have HTk := lH (fun i => tabK_le L st i)
 have HTs := lH (fun i z (hz : (prefsI L)[i]? = some z) => tabK_succ (st := st) hz)
 have HTa := lH (fun i (hi : (prefsI L).length ≤ i) => tabK_all (L := L) (st := st) hi)
 obtain ⟨l, hl⟩ : ∃ l, prefsI L = l := ⟨_, rfl⟩
 rw [hl] at HPr hn90 HTk HTs HTa
 obtain ⟨n, hn⟩ : ∃ n, l.length = n := ⟨_, rfl⟩
 rw [hn] at HPr hn90 HTk HTa
 have HN := lH hn
 clear h k hl hn hI hL
 go_enter Tryz.func20, Tryz.ntmps20
 go_wp2_with fail
 refine cZm HPr.out ?_
 rintro e w1 ⟨A, c, rfl, ho, hT1⟩
 have HOw := lH (own_mono ho (Nat.zero_le _))
 have HT1 := lH hT1
 have HS1 : Hid (w.heap.size ≤ w1.heap.size) := lH hT1.size
 clear ho hT1
 go_wp2
 go_loopw [5, 7] (fun lv iv wr => ∃ (i f : Nat) (A1 : Option Addr) (cc : Nat), lv = .slice A1 f cc ∧ iv = .int .i64 (i : Int) ∧ i ≤ n ∧ Hid ((tabK L st i).length = f) ∧ Hid (RowE wr w1.heap.size A1 f cc (tabK L st i)) ∧ Hid (Tch w1 wr [])) (fun _ iv _ => n - (intOf iv).toNat)
 case atStart => exact ⟨0, 0, none, 0, rfl, rfl, Nat.zero_le _, lH (by rw [tabK_zero]; rfl), lH (by rw [tabK_zero]; exact ⟨rfl, .inl ⟨rfl, rfl⟩⟩), lH (Tch.refl _ _)⟩
 case round =>
  obtain ⟨i, f, A1, cc, rfl, rfl, hi, hf, hO, hT⟩ := hrel
  by_cases hin : i < n
  ·have iI : (i : Int) < (n : Int) := by omega
   have i0 : (0 : Int) ≤ (i : Int) := by omega
   have i1 : IntKind.i64.wrap ((i : Int) + 1) = (i : Int) + 1 := by rw [IntKind.wrap_i64]; omega
   obtain ⟨z, hz⟩ : ∃ z, l[i]? = some z := ⟨_, List.getElem?_eq_getElem (by rw [HN.out]; exact hin)⟩
   have HSu := lH (HTs.out i z hz)
   have ho2 := own_tch HOw.out hT.out (by simp)
   obtain ⟨g, rfl⟩ := slice_some ho2 (by omega)
   obtain ⟨c0, c1, c2, c3⟩ := pf_cells ho2 hz
   have HTw := lH (HT1.out.trans hT.out)
   have HC := lH (fun W (hW : Tch w W []) => HHo.out z W hW)
   have HEn : Hid (entI L st z = if (hopI L st z).2 = 0 then some (z, (hopI L st z).1) else none) := lH rfl
   obtain ⟨⟨⟨ho, ⟨hs, hh, hl⟩, ha⟩, he⟩, hD⟩ : ∃ D, hopI L st z = D := ⟨_, rfl⟩
   rw [hD] at HC HEn
   obtain ⟨⟨zs, zh, zl⟩, zb⟩ := z
   have HCc := lH (fun W (hW : Tch wr W []) => pf_cells (own_tch ho2 hW (by simp)) hz)
   clear hD
   go_wp2_with fail
   refine cZm (HC.out wr HTw.out) ?_
   rintro e w7 ⟨rfl, hT7⟩
   have HT7 := lH hT7
   clear hT7 c0 c1 c2 c3 ho2 hz
   by_cases h0 : he = 0
   ·subst h0
    have HSu2 : Hid (tabK L st (i + 1) = tabK L st i ++ [(((zs, zh, zl), zb), (ho, (hs, hh, hl), ha))]) := lH (by rw [HSu.out, HEn.out]; rfl)
    have HT8 : Hid (Tch wr (w7.alloc (.cells #[.int .i64 ho, .bool hs, .int .u64 (hh : Int), .int .u64 (hl : Int), .bool ha] 43)) []) := lH (HT7.out.alloc _)
    obtain ⟨kb, hkb⟩ : ∃ kb, w7.heap.size = kb := ⟨_, rfl⟩
    obtain ⟨W8, hW8⟩ : ∃ W, (w7.alloc (.cells #[.int .i64 ho, .bool hs, .int .u64 (hh : Int), .int .u64 (hl : Int), .bool ha] 43)) = W := ⟨_, rfl⟩
    have hB8 : Blk W8 kb 43 #[.int .i64 ho, .bool hs, .int .u64 (hh : Int), .int .u64 (hl : Int), .bool ha] := hW8 ▸ hkb ▸ Blk.new w7 _ _
    rw [hW8] at HT8
    obtain ⟨k0, k1, k2, k3⟩ := HCc.out W8.drew (HT8.out.drew)
    obtain ⟨m0, m1, m2, m3, m4⟩ := ((Tch.refl W8 []).drew.blk hB8 (by simp)).h5
    have HT9 := lH (HT8.out.drew.alloc (.cells (enC (((zs, zh, zl), zb), (ho, (hs, hh, hl), ha))).toArray 70))
    have HSr := lH (src_new W8.drew 70 (enC (((zs, zh, zl), zb), (ho, (hs, hh, hl), ha))))
    have HO9 := lH (own_tch hO.out HT9.out (by simp))
    have HSf : Hid (f ≤ 1000000) := lH (by have h1 := HTk.out i; rw [hf.out] at h1; omega)
    have HSz9 : Hid (w1.heap.size ≤ (W8.drew.alloc (.cells (enC (((zs, zh, zl), zb), (ho, (hs, hh, hl), ha))).toArray 70)).heap.size) := lH (Nat.le_trans hT.out.size HT9.out.size)
    have HW8 := lH (And.intro hW8 hkb)
    clear hW8 hkb hB8
    go_wp2_with fail
    rw [HW8.out.1, HW8.out.2]
    go_region_law (refine step_apc 59 70 (.agg #[.bool false, .int .u64 0, .int .u64 0, .int .i64 0, .int .i64 0, .bool false, .int .u64 0, .int .u64 0, .bool false]) 9 72 Tryz.underlying59 infoEn rfl (by decide) (by decide) rfl (.tmp 30) (.tmp 37) rfl w1.heap.size (.slice A1 f cc) f ((tabK L st i).flatMap enC) (by simp [Act.eval]) HO9.out ⟨W8.heap.size, 0, none⟩ 1 (enC (((zs, zh, zl), zb), (ho, (hs, hh, hl), ha))) (by simp [Act.eval]) rfl (fun j u hj => HSr.out j u hj) (en_one _) HSf.out HSz9.out ?_; intro v7 wX hown hg hv; obtain ⟨A7, c7, e7, -, -⟩ := own_sl hown; subst e7; have HOX := lH hown; have HTX := lH ((hT.out.trans HT9.out).trans_fre (Tch.of_grown' (S := obI (.slice A1 f cc)) hg (fun k e => by rw [obI_some e]; simp)) (fun s hs => .inr (own_geI hO.out s hs).1)); clear hown hg hv)
    all_goals
     (try simp only [Act.put, List.setIfInBounds_toArray])
     clear k0 k1 k2 k3 m0 m1 m2 m3 m4
     go_wp2
     go_roundw
     case rel => exact ⟨i + 1, f + 1, A7, c7, rfl, by go_num, hin, lH (by rw [HSu2.out, List.length_append, hf.out]; rfl), lH (by rw [HSu2.out]; unfold RowE; rw [List.flatMap_append]; exact HOX.out), HTX⟩
     case measure => simp [intOf]; omega
   ·have b0 : (he == 0) = false := by simpa using h0
    have HSu2 : Hid (tabK L st (i + 1) = tabK L st i) := lH (by rw [HSu.out, HEn.out, if_neg h0]; simp)
    have HT8 : Hid (Tch wr (w7.alloc (.cells #[.int .i64 ho, .bool hs, .int .u64 (hh : Int), .int .u64 (hl : Int), .bool ha] 43)) []) := lH (HT7.out.alloc _)
    go_wp2
    go_roundw
    case rel => exact ⟨i + 1, f, A1, cc, rfl, by go_num, hin, lH (by rw [HSu2.out]; exact hf.out), lH (by rw [HSu2.out]; exact own_tch hO.out HT8.out (by simp)), lH (hT.out.trans HT8.out)⟩
    case measure => simp [intOf]; omega
  ·have iI : ¬ (i : Int) < (n : Int) := by omega
   have HAl := lH (HTa.out i (by omega))
   obtain rfl : f = (tabI L st).length := by rw [← HAl.out]; exact hf.out.symm
   have HO9 : Hid (RowE wr w.heap.size A1 (tabI L st).length cc (tabI L st)) := lH (by have := own_mono hO.out HS1.out; rw [HAl.out] at this; exact this)
   have HT9 := lH (HT1.out.trans hT.out)
   clear hO hf
   go_wp2
   go_ret
   exact ⟨A1, cc, rfl, HO9.out, HT9.out⟩
end Go.Proofs.YtgfkmgbcajdcdaaGreatDoor
