/-
  Several texts in one: RvD, RvE, RvM, RvQ.
-/
import Derived.Test.YtgfkmgbcajdcdaaGreatDoorZal
import Derived.Test.YtgfkmgbcajdcdaaGreatDoorZan
import Derived.Test.YtgfkmgbcajdcdaaGreatDoorZad
import Derived.Test.YtgfkmgbcajdcdaaGreatDoorZaf
import Derived.Test.YtgfkmgbcajdcdaaGreatDoorZaa
set_option linter.unusedVariables false
set_option maxRecDepth 100000
set_option maxHeartbeats 16000000
namespace Go.Proofs.YtgfkmgbcajdcdaaGreatDoor
open Go.RowKit Ifs

abbrev hpA (h : HpI) : Array Value := #[.int .i64 h.1, .bool h.2.1.1, .int .u64 (h.2.1.2.1 : Int), .int .u64 (h.2.1.2.2 : Int), .bool h.2.2]
abbrev hpR (h : HpI) : Value := .agg (hpA h)
theorem hpSz : (Tryz.prog.info? 43).map (·.size) = some 5 := by kernel_rfl
theorem Blk.h5 {w : World} {g : Nat} {t : TypeId} {a b c d e : Value} (h : Blk w g t #[a, b, c, d, e]) : w.cell? ⟨g, 0, none⟩ = some a ∧ w.cell? ⟨g, 1, none⟩ = some b ∧ w.cell? ⟨g, 2, none⟩ = some c ∧ w.cell? ⟨g, 3, none⟩ = some d ∧ w.cell? ⟨g, 4, none⟩ = some e :=
 ⟨(h.cell 0).trans rfl, (h.cell 1).trans rfl, (h.cell 2).trans rfl, (h.cell 3).trans rfl, (h.cell 4).trans rfl⟩
theorem some_at {α β : Type} {f : α → Option β} {l : List α} {i : Nat} {x : α} {y : β} (hx : l[i]? = some x) (hf : f x = some y) (h : ∀ z ∈ l.take i, f z = none) : l.findSome? f = some y := by
 rw [← List.take_append_drop i l, List.findSome?_append]
 have h1 : (l.take i).findSome? f = none := List.findSome?_eq_none_iff.2 h
 obtain ⟨hi, he⟩ := List.getElem?_eq_some_iff.1 hx
 rw [h1, List.drop_eq_getElem_cons hi, he, List.findSome?_cons, hf]
 rfl
theorem over_pref {L : List TdI} {a : AdR} {q : PfI} (h : q ∈ overI L a) : q ∈ prefsI L := by
 unfold overI overL at h
 rw [List.mem_reverse] at h
 exact (List.mem_filter.1 h).1
theorem hopF_end {L : List TdI} {st : StI} {f : Nat} {x : PaI} (h : nbX x = false) : hopF L st f x = (hpX x, 0) := by
 cases f <;> simp [hopF, h]
theorem hopF_deep {L : List TdI} {st : StI} {x : PaI} (h : nbX x = true) : hopF L st 0 x = (zeroH, 151) := by simp [hopF, h]
theorem hopF_none {L : List TdI} {st : StI} {f : Nat} {x : PaI} (h : nbX x = true) (k : nxtI L st x.2.2.1 = none) : hopF L st (f + 1) x = (zeroH, 150) := by simp [hopF, h, k]
theorem hopF_some {L : List TdI} {st : StI} {f : Nat} {x y : PaI} (h : nbX x = true) (k : nxtI L st x.2.2.1 = some y) : hopF L st (f + 1) x = hopF L st f (folX x y) := by simp [hopF, h, k]
theorem folX_ok {x y : PaI} (hx : N64 x.2.2.1.2.1 ∧ N64 x.2.2.1.2.2) (hy : N64 y.2.2.1.2.1 ∧ N64 y.2.2.1.2.2) : N64 (folX x y).2.2.1.2.1 ∧ N64 (folX x y).2.2.1.2.2 := by
 unfold folX
 split
 ·exact hx
 ·exact hy
theorem rhop_any (t p : Nat) (S T : List Nat) (L : List TdI) (st : StI) (q : PfI) (hq : PfOk q) (w : World) (h : RbP w t S L) (k : IfP w p T st) :
  Calls Tryz.prog 12 #[ptrV t, ptrV p, pfR q] w fun e w' => e = .returned (.tuple #[hpR (hopI L st q).1, .int .i64 (hopI L st q).2]) ∧ Tch w w' [] := by
 have HPa := lH (fun q (hq : PfOk q) W (hT : Tch w W []) => rpath_any t p S T L st q hq W (h.tch hT (by simp)) (k.tch hT (by simp)))
 have HOv := lH (fun a (ha : N64 a.2.1 ∧ N64 a.2.2) W (hT : Tch w W []) => overP0 t S L a ha W (h.tch hT (by simp)))
 have HNb := lH (fun x W => bynb_any x W)
 have HFo := lH (fun x y W => follow_any x y W)
 have HOk := lH h.ok
 have HI := lH h.inv
 have HP1 := HPa.out q hq
 obtain ⟨o, ho⟩ : ∃ o, pathI L st q = o := ⟨_, rfl⟩
 obtain ⟨D, hD⟩ : ∃ D, hopI L st q = D := ⟨_, rfl⟩
 have HD : Hid ((o = none → D = (zeroH, 150)) ∧ ∀ x, o = some x → D = hopF L st 8 x) := lH (by
  rw [← hD]
  unfold hopI
  rw [ho]
  exact ⟨fun e => (by rw [e]), fun x e => (by rw [e])⟩)
 have HX : Hid (∀ x, o = some x → N64 x.2.2.1.2.1 ∧ N64 x.2.2.1.2.2) := lH (fun x e => (h.ok _ (pathI_some h.inv.inv (ho.trans e)).2).2.2.2.1)
 rw [hD]
 rw [ho] at HP1
 obtain ⟨⟨qs, qh, ql⟩, qb⟩ := q
 obtain ⟨xb, hxb⟩ : ∃ xb, w.heap.size = xb := ⟨_, rfl⟩
 obtain ⟨W1, hW1⟩ : ∃ W, w.alloc (.cells #[.bool qs, .int .u64 (qh : Int), .int .u64 (ql : Int), .int .i64 qb] 30) = W := ⟨_, rfl⟩
 obtain ⟨rb, hrb⟩ : ∃ rb, xb + 1 = rb := ⟨_, rfl⟩
 obtain ⟨W0, hW0⟩ : ∃ W, W1.alloc (.cells #[.int .i64 0, .bool false, .int .u64 0, .int .u64 0, .bool false] 43) = W := ⟨_, rfl⟩
 have z1 : W1.heap.size = rb := by rw [← hW1, zA, hxb, hrb]
 have hT0 : Tch w W0 [] := hW0 ▸ hW1 ▸ (((Tch.refl w []).alloc _).alloc _)
 have hX : Blk W0 xb 30 #[.bool qs, .int .u64 (qh : Int), .int .u64 (ql : Int), .int .i64 qb] := hW0 ▸ hW1 ▸ hxb ▸ ((Blk.new w _ _).alloc _)
 have hR : Blk W0 rb 43 #[.int .i64 0, .bool false, .int .u64 0, .int .u64 0, .bool false] := hW0 ▸ z1 ▸ (Blk.new W1 _ _)
 have HT0 := lH hT0
 have HC := lH (HP1 W0 hT0)
 have HW0 : Hid ((w.alloc (.cells #[.bool qs, .int .u64 (qh : Int), .int .u64 (ql : Int), .int .i64 qb] 30)).alloc (.cells #[.int .i64 0, .bool false, .int .u64 0, .int .u64 0, .bool false] 43) = W0) := lH (by rw [hW1, hW0])
 have HSz : Hid (w.heap.size = xb ∧ xb + 1 = rb) := lH (by omega)
 have HR0 := lH hR
 obtain ⟨x0, x1, x2, x3⟩ := hX.c4
 clear h k hq hD ho hxb hrb hW1 hW0 z1 hT0 hX hR HP1
 go_enter Tryz.func12, Tryz.ntmps12
 go_wp2_with fail
 rw [HW0.out, HSz.out.1, HSz.out.2]
 go_step3
 go_wp2_with fail
 refine cZm HC.out ?_
 rintro e w1 ⟨rfl, hT1⟩
 have HR1 := lH (hT1.blk HR0.out (by simp))
 have HT1 := lH (HT0.out.trans hT1)
 clear hT1 x0 x1 x2 x3
 cases o with
 | none =>
  obtain rfl := HD.out.1 rfl
  have HA : Hid (∀ o, Tch w (w1.alloc o) []) := lH (fun o => HT1.out.alloc o)
  have HRa : Hid (∀ o, Blk (w1.alloc o) rb 43 #[.int .i64 0, .bool false, .int .u64 0, .int .u64 0, .bool false]) := lH (fun o => HR1.out.alloc o)
  simp only [bestV, zeroX, Option.getD_none, Option.isSome_none]
  go_wp2_with (refine wpList_sta rfl 43 (.tmp 6) (.tmp 24) rfl rb 0 #[.int .i64 0, .bool false, .int .u64 0, .int .u64 0, .bool false] rfl rfl 43 _ (HRa.out _) 5 hpSz rfl (show 0 + 5 ≤ 5 from by decide) (by simp [Value.oneCell']) ?_; intro w6 hs6; have HS6 := lH hs6; clear hs6)
  obtain ⟨z0, z1, z2, z3, z4⟩ := (sta_whole HS6.out rfl).h5
  exact bodyPost_ret (v := .tuple #[.agg #[.int .i64 0, .bool false, .int .u64 0, .int .u64 0, .bool false], .int .i64 150]) (by simp [results, Tryz.results12, go_sem, z0, z1, z2, z3, z4]) rfl ⟨rfl, (HA.out _).trans_fre HS6.out.tch (by simp; have := HSz.out; omega)⟩
 | some x =>
  have HN := lH (HX.out x rfl)
  have HD2 : Hid (D = hopF L st 8 x) := lH (HD.out.2 x rfl)
  clear HD HX
  obtain ⟨pr, me, ⟨vs, vh, vl⟩, po, aw⟩ := x
  obtain ⟨vb, hvb⟩ : ∃ vb, w1.heap.size = vb := ⟨_, rfl⟩
  obtain ⟨W3, hW3⟩ : ∃ W, w1.alloc (.cells #[.int .i64 pr, .int .i64 me, .bool vs, .int .u64 (vh : Int), .int .u64 (vl : Int), .int .i64 po, .bool aw] 49) = W := ⟨_, rfl⟩
  have HV3 : Hid (Blk W3 vb 49 #[.int .i64 pr, .int .i64 me, .bool vs, .int .u64 (vh : Int), .int .u64 (vl : Int), .int .i64 po, .bool aw]) := lH (hW3 ▸ hvb ▸ Blk.new w1 _ _)
  have HR3 : Hid (Blk W3 rb 43 _) := lH (hW3 ▸ HR1.out.alloc _)
  have HT3 : Hid (Tch w W3 []) := lH (hW3 ▸ HT1.out.alloc _)
  have HVb : Hid (w.heap.size ≤ vb ∧ rb ≠ vb) := lH (by have h1 := HT1.out.size; have h2 := HR1.out.lt; omega)
  have HW3 := lH (And.intro hW3 hvb)
  clear hW3 hvb
  simp only [bestV, Option.getD_some, Option.isSome_some]
  go_wp2_with fail
  rw [HW3.out.1, HW3.out.2]
  go_wp2
  go_step3
  go_wp2
  go_loopw [10] (fun rv wr => ∃ (r f : Nat) (x : PaI), rv = .int .i64 (r : Int) ∧ r + f = 9 ∧ Hid (D = hopF L st f x) ∧ Hid (N64 x.2.2.1.2.1 ∧ N64 x.2.2.1.2.2) ∧ Hid (Blk wr vb 49 (paA x)) ∧ Hid (Tch W3 wr [vb])) (fun rv _ => 10 - (intOf rv).toNat)
  case atStart => exact ⟨1, 8, (pr, me, (vs, vh, vl), po, aw), rfl, rfl, HD2, HN, HV3, lH (Tch.refl _ _)⟩
  case round =>
   obtain ⟨r, f, x, rfl, hrf, hd, hn, hv, hT⟩ := hrel
   clear HN HD2 HV3
   obtain ⟨nb, hnb⟩ : ∃ nb, nbX x = nb := ⟨_, rfl⟩
   have HC1 := HNb.out x
   rw [hnb] at HC1
   have HC1' := lH HC1
   have HNB := lH hnb
   have HTw : Hid (Tch w wr []) := lH (HT3.out.trans_fre hT.out (by simp; exact HVb.out.1))
   clear hnb HC1
   obtain ⟨pr, me, ⟨vs, vh, vl⟩, po, aw⟩ := x
   obtain ⟨y0, y1, y2, y3, y4, y5, y6⟩ := hv.out.p7
   go_wp2_with fail
   refine cZm (HC1'.out wr) ?_
   rintro e w4 ⟨rfl, hT4⟩
   have HB4 : Hid (Blk w4 vb 49 _) := lH (hT4.blk hv.out (by simp))
   have HR4 : Hid (Blk w4 rb 43 _) := lH (hT4.blk (hT.out.blk HR3.out (by simp; exact HVb.out.2)) (by simp))
   have HT4 : Hid (Tch w w4 []) := lH (HTw.out.trans hT4)
   have HT34 : Hid (Tch W3 w4 [vb]) := lH (hT.out.trans (hT4.mono (by simp)))
   clear hT4 y0 y1 y2 y3 y4 y5 y6
   obtain ⟨y0, y1, y2, y3, y4, y5, y6⟩ := HB4.out.p7
   have HS := lH HSz.out
   cases nb with
   | false =>
    have HDe : Hid (D = ((po, (vs, vh, vl), aw), 0)) := lH (by rw [hd.out, hopF_end HNB.out]; rfl)
    go_wp2_with (refine wpList_sta rfl 43 (.tmp 6) (.tmp 60) rfl rb 0 #[.int .i64 po, .bool vs, .int .u64 (vh : Int), .int .u64 (vl : Int), .bool aw] rfl rfl 43 _ HR4.out 5 hpSz rfl (show 0 + 5 ≤ 5 from by decide) (by simp [Value.oneCell']) ?_; intro w6 hs6; have HS6 := lH hs6; clear hs6)
    obtain ⟨z0, z1, z2, z3, z4⟩ := (sta_whole HS6.out rfl).h5
    rw [Exit.noGoto_ret]
    exact bodyPost_ret (v := .tuple #[.agg #[.int .i64 po, .bool vs, .int .u64 (vh : Int), .int .u64 (vl : Int), .bool aw], .int .i64 0]) (by simp [results, Tryz.results12, go_sem, z0, z1, z2, z3, z4]) rfl ⟨by rw [HDe.out], HT4.out.trans_fre HS6.out.tch (by simp; have := HS.out; omega)⟩
   | true =>
    cases f with
    | zero =>
     obtain rfl : r = 9 := by omega
     have HDe : Hid (D = (zeroH, 151)) := lH (by rw [hd.out, hopF_deep HNB.out])
     go_wp2_with (refine wpList_sta rfl 43 (.tmp 6) (.tmp 31) rfl rb 0 #[.int .i64 0, .bool false, .int .u64 0, .int .u64 0, .bool false] rfl rfl 43 _ HR4.out 5 hpSz rfl (show 0 + 5 ≤ 5 from by decide) (by simp [Value.oneCell']) ?_; intro w6 hs6; have HS6 := lH hs6; clear hs6)
     obtain ⟨z0, z1, z2, z3, z4⟩ := (sta_whole HS6.out rfl).h5
     rw [Exit.noGoto_ret]
     exact bodyPost_ret (v := .tuple #[.agg #[.int .i64 0, .bool false, .int .u64 0, .int .u64 0, .bool false], .int .i64 151]) (by simp [results, Tryz.results12, go_sem, z0, z1, z2, z3, z4]) rfl ⟨by rw [HDe.out]; rfl, HT4.out.trans_fre HS6.out.tch (by simp; have := HS.out; omega)⟩
    | succ f =>
     have r8 : ¬ (8 : Int) < (r : Int) := by omega
     have HO4 := lH (HOv.out (vs, vh, vl) hn.out w4 HT4.out)
     go_wp2_with fail
     refine cZm HO4.out ?_
     rintro e w5 ⟨A, c, rfl, ho, hT5⟩
     have hol : (overI L (vs, vh, vl)).length ≤ 90 := by
      have h1 := HI.out.ninety
      unfold overI overL
      rw [List.length_reverse]
      exact Nat.le_trans (List.length_filter_le _ _) h1
     have HOq : Hid (∀ z ∈ overI L (vs, vh, vl), PfOk z) := lH (fun z hz => by
      obtain ⟨u, hu, e⟩ := (prefsI_mem HI.out.inv).1 (over_pref hz)
      rw [← e]; exact (HOk.out u hu).1)
     have HNx : Hid (nxtI L st (vs, vh, vl) = (overI L (vs, vh, vl)).findSome? (pathI L st)) := lH rfl
     obtain ⟨l, hl⟩ : ∃ l, overI L (vs, vh, vl) = l := ⟨_, rfl⟩
     rw [hl] at ho hol HOq HNx ⊢
     obtain ⟨n, hnl⟩ : ∃ n, l.length = n := ⟨_, rfl⟩
     rw [hnl] at ho hol ⊢
     have HNl := lH hnl
     have HOw := lH (own_mono ho (Nat.zero_le _))
     have HT5 := lH hT5
     have HB5 : Hid (Blk w5 vb 49 _) := lH (hT5.blk HB4.out (by simp))
     have HR5 : Hid (Blk w5 rb 43 _) := lH (hT5.blk HR4.out (by simp))
     have HTw5 := lH (HT4.out.trans hT5)
     have HT35 := lH (HT34.out.trans (hT5.mono (by simp)))
     have HRf := lH hrf
     have i1r : IntKind.i64.wrap ((r : Int) + 1) = (r : Int) + 1 := by rw [IntKind.wrap_i64]; omega
     have HI1 := lH i1r
     clear ho hT5 hl hnl y0 y1 y2 y3 y4 y5 y6 hrf i1r r8
     go_wp2
     go_loopw [37] (fun iv wr => ∃ i : Nat, iv = .int .i64 (i : Int) ∧ i ≤ n ∧ Hid (∀ z ∈ l.take i, pathI L st z = none) ∧ Hid (Tch w5 wr [])) (fun iv _ => n - (intOf iv).toNat)
     case atStart => exact ⟨0, rfl, Nat.zero_le _, lH (by simp), lH (Tch.refl _ _)⟩
     case round =>
      obtain ⟨i, rfl, hi, hno, hTi⟩ := hrel
      by_cases hin : i < n
      ·have iI : (i : Int) < (n : Int) := by omega
       have i0 : (0 : Int) ≤ (i : Int) := by omega
       have i1 : IntKind.i64.wrap ((i : Int) + 1) = (i : Int) + 1 := by rw [IntKind.wrap_i64]; omega
       obtain ⟨z, hz⟩ : ∃ z, l[i]? = some z := ⟨_, List.getElem?_eq_getElem (by rw [HNl.out]; exact hin)⟩
       have HZ := lH hz
       have ho2 := own_tch HOw.out hTi.out (by simp)
       obtain ⟨g, rfl⟩ := slice_some ho2 (by omega)
       obtain ⟨c0, c1, c2, c3⟩ := pf_cells ho2 hz
       have HPz := lH (fun W (hW : Tch w W []) => HPa.out z (HOq.out z (List.mem_of_getElem? hz)) W hW)
       obtain ⟨o, ho⟩ : ∃ o, pathI L st z = o := ⟨_, rfl⟩
       rw [ho] at HPz
       have HOo := lH ho
       obtain ⟨⟨zs, zh, zl⟩, zb⟩ := z
       obtain ⟨kb, hkb⟩ : ∃ kb, wr.heap.size = kb := ⟨_, rfl⟩
       obtain ⟨W6, hW6⟩ : ∃ W, wr.alloc (.cells #[.bool zs, .int .u64 (zh : Int), .int .u64 (zl : Int), .int .i64 zb] 30) = W := ⟨_, rfl⟩
       have HK6 : Hid (Blk W6 kb 30 #[.bool zs, .int .u64 (zh : Int), .int .u64 (zl : Int), .int .i64 zb]) := lH (hW6 ▸ hkb ▸ Blk.new wr _ _)
       have HT6 : Hid (Tch w5 W6 []) := lH (hW6 ▸ hTi.out.alloc _)
       have HW6 := lH (And.intro hW6 hkb)
       clear hz ho ho2 hW6 hkb
       go_wp2_with fail
       rw [HW6.out.1, HW6.out.2]
       refine cZm (HPz.out W6 (HTw5.out.trans HT6.out)) ?_
       rintro e w7 ⟨rfl, hT7⟩
       have HT7 := lH (HT6.out.trans hT7)
       clear hT7 c0 c1 c2 c3
       cases o with
       | none =>
        have HA : Hid (∀ o, Tch w5 (w7.alloc o) []) := lH (fun o => HT7.out.alloc o)
        simp only [bestV, zeroX, Option.getD_none, Option.isSome_none]
        go_wp2
        go_roundw
        case rel => exact ⟨i + 1, by go_num, hin, lH (take_more HZ.out hno.out HOo.out), HA.out _⟩
        case measure => simp [intOf]; omega
       | some y =>
        have HNs : Hid (nxtI L st (vs, vh, vl) = some y) := lH (by rw [HNx.out]; exact some_at HZ.out HOo.out hno.out)
        have HYn : Hid (N64 y.2.2.1.2.1 ∧ N64 y.2.2.1.2.2) := lH (HOk.out _ (pathI_some HI.out.inv HOo.out).2).2.2.2.1
        have HDn : Hid (D = hopF L st f (folX (pr, me, (vs, vh, vl), po, aw) y)) := lH (by rw [hd.out, hopF_some HNB.out HNs.out])
        have HNn := lH (folX_ok (x := (pr, me, (vs, vh, vl), po, aw)) hn.out HYn.out)
        have HF := lH (HFo.out (pr, me, (vs, vh, vl), po, aw) y)
        obtain ⟨x', hx'⟩ : ∃ x', folX (pr, me, (vs, vh, vl), po, aw) y = x' := ⟨_, rfl⟩
        rw [hx'] at HDn HNn HF
        obtain ⟨ur, ue, ⟨us, uh, ul⟩, uo, uw⟩ := y
        have hT8 : Tch w5 (w7.alloc (.cells #[.int .i64 ur, .int .i64 ue, .bool us, .int .u64 (uh : Int), .int .u64 (ul : Int), .int .i64 uo, .bool uw] 49)) [] := HT7.out.alloc _
        have HT8 := lH hT8
        obtain ⟨c0, c1, c2, c3, c4, c5, c6⟩ := (Blk.new w7 49 #[.int .i64 ur, .int .i64 ue, .bool us, .int .u64 (uh : Int), .int .u64 (ul : Int), .int .i64 uo, .bool uw]).p7
        obtain ⟨y0, y1, y2, y3, y4, y5, y6⟩ := (hT8.blk HB5.out (by simp)).p7
        clear hx' hT8
        simp only [bestV, Option.getD_some, Option.isSome_some]
        go_wp2_with fail
        refine cZm (HF.out _) ?_
        rintro e w9 ⟨rfl, hT9⟩
        have HT9 := lH (HT8.out.trans hT9)
        clear hT9 c0 c1 c2 c3 c4 c5 c6 y0 y1 y2 y3 y4 y5 y6
        have HB9 : Hid (Blk w9 vb 49 _) := lH (HT9.out.blk HB5.out (by simp))
        have i1r := HI1.out
        go_wp2_with (refine wpList_sta rfl 49 (.tmp 8) (.tmp 51) rfl vb 0 (paA x') rfl rfl 49 _ HB9.out 7 paSz rfl (show 0 + 7 ≤ 7 from by decide) (by simp [Value.oneCell']) ?_; intro wX hsX; have HSX := lH hsX; clear hsX)
        go_roundw
        case rel => exact ⟨r + 1, f, x', by go_num, by have := HRf.out; omega, HDn, HNn, lH (sta_whole HSX.out rfl), lH ((HT35.out.trans (HT9.out.mono (by simp))).trans HSX.out.tch)⟩
        case measure => simp [intOf]; have := HRf.out; omega
      ·have iI : ¬ (i : Int) < (n : Int) := by omega
       have HNs : Hid (nxtI L st (vs, vh, vl) = none) := lH (by
        rw [HNx.out]
        refine List.findSome?_eq_none_iff.2 fun z hz => hno.out z ?_
        rw [List.take_of_length_le (by rw [HNl.out]; omega)]
        exact hz)
       have HDe : Hid (D = (zeroH, 150)) := lH (by rw [hd.out, hopF_none HNB.out HNs.out])
       have HRi : Hid (Blk wr rb 43 _) := lH (hTi.out.blk HR5.out (by simp))
       have HTi := lH (HTw5.out.trans hTi.out)
       go_wp2_with (refine wpList_sta rfl 43 (.tmp 6) (.tmp 53) rfl rb 0 #[.int .i64 0, .bool false, .int .u64 0, .int .u64 0, .bool false] rfl rfl 43 _ HRi.out 5 hpSz rfl (show 0 + 5 ≤ 5 from by decide) (by simp [Value.oneCell']) ?_; intro w6 hs6; have HS6 := lH hs6; clear hs6)
       obtain ⟨z0, z1, z2, z3, z4⟩ := (sta_whole HS6.out rfl).h5
       exact bodyPost_ret (v := .tuple #[.agg #[.int .i64 0, .bool false, .int .u64 0, .int .u64 0, .bool false], .int .i64 150]) (by simp [results, Tryz.results12, go_sem, z0, z1, z2, z3, z4]) rfl ⟨by rw [HDe.out]; rfl, HTi.out.trans_fre HS6.out.tch (by simp; have := HS.out; omega)⟩
end Go.Proofs.YtgfkmgbcajdcdaaGreatDoor

namespace Go.Proofs.YtgfkmgbcajdcdaaGreatDoor
open Go.RowKit Ifs

def hpC (h : HpI) : List Value := [.int .i64 h.1, .bool h.2.1.1, .int .u64 (h.2.1.2.1 : Int), .int .u64 (h.2.1.2.2 : Int), .bool h.2.2]
def enC (e : EnI) : List Value := [.bool e.1.1.1, .int .u64 (e.1.1.2.1 : Int), .int .u64 (e.1.1.2.2 : Int), .int .i64 e.1.2, .int .i64 e.2.1, .bool e.2.2.1.1, .int .u64 (e.2.2.1.2.1 : Int), .int .u64 (e.2.2.1.2.2 : Int), .bool e.2.2.2]
theorem en_nine (e : EnI) : (enC e).length = 9 := rfl
theorem en_one (e : EnI) : ∀ u ∈ enC e, u.oneCell' = true := by
 intro u hu; simp [enC] at hu; rcases hu with rfl | rfl | rfl | rfl | rfl | rfl | rfl | rfl | rfl <;> rfl
theorem hp_one (h : HpI) : ∀ u ∈ hpC h, u.oneCell' = true := by
 intro u hu; simp [hpC] at hu; rcases hu with rfl | rfl | rfl | rfl | rfl <;> rfl
theorem infoEn : (Tryz.prog.info? 70).map (fun i => (i.zero, i.size, i.bytes)) = some (some (.agg #[.bool false, .int .u64 0, .int .u64 0, .int .i64 0, .int .i64 0, .bool false, .int .u64 0, .int .u64 0, .bool false]), 9, 72) := by kernel_rfl
theorem infoHp : (Tryz.prog.info? 43).map (fun i => (i.zero, i.size, i.bytes)) = some (some (.agg #[.int .i64 0, .bool false, .int .u64 0, .int .u64 0, .bool false]), 5, 40) := by kernel_rfl
abbrev RowE (w : World) (base : Nat) (A : Option Addr) (n c : Nat) (l : List EnI) : Prop := w.ownsRow base 70 9 (.slice A n c) n (l.flatMap enC)
theorem en_cells {w : World} {base g n c k : Nat} {l : List EnI} (h : RowE w base (some ⟨g, 0, none⟩) n c l) {e : EnI} (he : l[k]? = some e) :
  w.cell? ⟨g, k * 9, none⟩ = some (.bool e.1.1.1) ∧ w.cell? ⟨g, k * 9 + 1, none⟩ = some (.int .u64 (e.1.1.2.1 : Int)) ∧ w.cell? ⟨g, k * 9 + 2, none⟩ = some (.int .u64 (e.1.1.2.2 : Int)) ∧ w.cell? ⟨g, k * 9 + 3, none⟩ = some (.int .i64 e.1.2) ∧
  w.cell? ⟨g, k * 9 + 4, none⟩ = some (.int .i64 e.2.1) ∧ w.cell? ⟨g, k * 9 + 5, none⟩ = some (.bool e.2.2.1.1) ∧ w.cell? ⟨g, k * 9 + 6, none⟩ = some (.int .u64 (e.2.2.1.2.1 : Int)) ∧ w.cell? ⟨g, k * 9 + 7, none⟩ = some (.int .u64 (e.2.2.1.2.2 : Int)) ∧ w.cell? ⟨g, k * 9 + 8, none⟩ = some (.bool e.2.2.2) := by
 have hat := fun q hq => flatk_at (n := 9) en_nine he (k := q) hq
 exact ⟨own_cellN h (hat 0 (by decide)), own_cellN h (hat 1 (by decide)), own_cellN h (hat 2 (by decide)), own_cellN h (hat 3 (by decide)), own_cellN h (hat 4 (by decide)), own_cellN h (hat 5 (by decide)), own_cellN h (hat 6 (by decide)), own_cellN h (hat 7 (by decide)), own_cellN h (hat 8 (by decide))⟩
theorem rtable_any (t p : Nat) (S T : List Nat) (L : List TdI) (st : StI) (w : World) (h : RbP w t S L) (k : IfP w p T st) :
  Calls Tryz.prog 19 #[ptrV t, ptrV p] w fun e w' => ∃ A c, e = .returned (.slice A (tabI L st).length c) ∧ RowE w' w.heap.size A (tabI L st).length c (tabI L st) ∧ Tch w w' [] := by
 have HPr := lH (prefsP0 t S L w h)
 have HHo := lH (fun q (hq : PfOk q) W (hT : Tch w W []) => rhop_any t p S T L st q hq W (h.tch hT (by simp)) (k.tch hT (by simp)))
 have HOq : Hid (∀ z ∈ prefsI L, PfOk z) := lH (fun z hz => by
  obtain ⟨u, hu, e⟩ := (prefsI_mem h.inv.inv).1 hz
  rw [← e]; exact (h.ok u hu).1)
 have hn90 := h.inv.ninety
 have HTk := lH (fun i => tabK_le L st i)
 have HTs := lH (fun i z (hz : (prefsI L)[i]? = some z) => tabK_succ (st := st) hz)
 have HTa := lH (fun i (hi : (prefsI L).length ≤ i) => tabK_all (L := L) (st := st) hi)
 obtain ⟨l, hl⟩ : ∃ l, prefsI L = l := ⟨_, rfl⟩
 rw [hl] at HPr HOq hn90 HTk HTs HTa
 obtain ⟨n, hn⟩ : ∃ n, l.length = n := ⟨_, rfl⟩
 rw [hn] at HPr hn90 HTk HTa
 have HN := lH hn
 clear h k hl hn
 go_enter Tryz.func19, Tryz.ntmps19
 go_wp2_with fail
 refine cZm HPr.out ?_
 rintro e w1 ⟨A, c, rfl, ho, hT1⟩
 have HOw := lH (own_mono ho (Nat.zero_le _))
 have HT1 := lH hT1
 have HS1 : Hid (w.heap.size ≤ w1.heap.size) := lH hT1.size
 clear ho hT1
 go_wp2
 go_loopw [5, 15] (fun lv iv wr => ∃ (i f : Nat) (A1 : Option Addr) (cc : Nat), lv = .slice A1 f cc ∧ iv = .int .i64 (i : Int) ∧ i ≤ n ∧ Hid ((tabK L st i).length = f) ∧ Hid (RowE wr w1.heap.size A1 f cc (tabK L st i)) ∧ Hid (Tch w1 wr [])) (fun _ iv _ => n - (intOf iv).toNat)
 case atStart => exact ⟨0, 0, none, 0, rfl, rfl, Nat.zero_le _, lH (by rw [tabK_zero]; rfl), lH (by rw [tabK_zero]; exact ⟨rfl, .inl ⟨rfl, rfl⟩⟩), lH (Tch.refl _ _)⟩
 case round =>
  obtain ⟨i, f, A1, cc, rfl, rfl, hi, hf, hO, hT⟩ := hrel
  by_cases hin : i < n
  ·have iI : (i : Int) < (n : Int) := by omega
   have i0 : (0 : Int) ≤ (i : Int) := by omega
   have i1 : IntKind.i64.wrap ((i : Int) + 1) = (i : Int) + 1 := by rw [IntKind.wrap_i64]; omega
   obtain ⟨z, hz⟩ : ∃ z, l[i]? = some z := ⟨_, List.getElem?_eq_getElem (by rw [HN.out]; exact hin)⟩
   have HSu := lH (HTs.out i z hz)
   have ho2 := own_tch HOw.out hT.out (by simp)
   obtain ⟨g, rfl⟩ := slice_some ho2 (by omega)
   obtain ⟨c0, c1, c2, c3⟩ := pf_cells ho2 hz
   have HTw := lH (HT1.out.trans hT.out)
   have HC := lH (fun W (hW : Tch w W []) => HHo.out z (HOq.out z (List.mem_of_getElem? hz)) W hW)
   have HEn : Hid (entI L st z = if (hopI L st z).2 = 0 then some (z, (hopI L st z).1) else none) := lH rfl
   obtain ⟨⟨⟨ho, ⟨hs, hh, hl⟩, ha⟩, he⟩, hD⟩ : ∃ D, hopI L st z = D := ⟨_, rfl⟩
   rw [hD] at HC HEn
   obtain ⟨⟨zs, zh, zl⟩, zb⟩ := z
   obtain ⟨kb, hkb⟩ : ∃ kb, wr.heap.size = kb := ⟨_, rfl⟩
   obtain ⟨W6, hW6⟩ : ∃ W, wr.alloc (.cells #[.bool zs, .int .u64 (zh : Int), .int .u64 (zl : Int), .int .i64 zb] 30) = W := ⟨_, rfl⟩
   have HK6 : Hid (Blk W6 kb 30 #[.bool zs, .int .u64 (zh : Int), .int .u64 (zl : Int), .int .i64 zb]) := lH (hW6 ▸ hkb ▸ Blk.new wr _ _)
   have HT6 : Hid (Tch wr W6 []) := lH (hW6 ▸ (Tch.refl wr []).alloc _)
   have HW6 := lH (And.intro hW6 hkb)
   clear hz ho2 hD hW6 hkb
   go_wp2_with fail
   rw [HW6.out.1, HW6.out.2]
   refine cZm (HC.out W6 (HTw.out.trans HT6.out)) ?_
   rintro e w7 ⟨rfl, hT7⟩
   have HT7 := lH (HT6.out.trans hT7)
   have HK7 : Hid (Blk w7 kb 30 _) := lH (hT7.blk HK6.out (by simp))
   clear hT7 c0 c1 c2 c3
   by_cases h0 : he = 0
   ·subst h0
    have HSu2 : Hid (tabK L st (i + 1) = tabK L st i ++ [(((zs, zh, zl), zb), (ho, (hs, hh, hl), ha))]) := lH (by rw [HSu.out, HEn.out]; rfl)
    have HT8 : Hid (Tch wr (w7.alloc (.cells #[.int .i64 ho, .bool hs, .int .u64 (hh : Int), .int .u64 (hl : Int), .bool ha] 43)) []) := lH (HT7.out.alloc _)
    obtain ⟨k0, k1, k2, k3⟩ := (HK7.out.alloc (.cells #[.int .i64 ho, .bool hs, .int .u64 (hh : Int), .int .u64 (hl : Int), .bool ha] 43)).c4
    obtain ⟨m0, m1, m2, m3, m4⟩ := (Blk.new w7 43 #[.int .i64 ho, .bool hs, .int .u64 (hh : Int), .int .u64 (hl : Int), .bool ha]).h5
    have HSr := lH (src_new (w7.alloc (.cells #[.int .i64 ho, .bool hs, .int .u64 (hh : Int), .int .u64 (hl : Int), .bool ha] 43)) 70 (enC (((zs, zh, zl), zb), (ho, (hs, hh, hl), ha))))
    rw [zA] at HSr
    have HT9 := lH (HT8.out.alloc (.cells (enC (((zs, zh, zl), zb), (ho, (hs, hh, hl), ha))).toArray 70))
    have HO9 := lH (own_tch hO.out HT9.out (by simp))
    have HSf : Hid (f ≤ 1000000) := lH (by have h1 := HTk.out i; rw [hf.out] at h1; omega)
    have HSz9 : Hid (w1.heap.size ≤ ((w7.alloc (.cells #[.int .i64 ho, .bool hs, .int .u64 (hh : Int), .int .u64 (hl : Int), .bool ha] 43)).alloc (.cells (enC (((zs, zh, zl), zb), (ho, (hs, hh, hl), ha))).toArray 70)).heap.size) := lH (Nat.le_trans hT.out.size HT9.out.size)
    go_wp2_with (at_builtin; (refine wpList_apc 59 70 (.agg #[.bool false, .int .u64 0, .int .u64 0, .int .i64 0, .int .i64 0, .bool false, .int .u64 0, .int .u64 0, .bool false]) 9 72 Tryz.underlying59 infoEn rfl (by decide) (by decide) _ rfl (.tmp 28) (.tmp 32) rfl w1.heap.size (.slice A1 f cc) f ((tabK L st i).flatMap enC) rfl HO9.out ⟨w7.heap.size + 1, 0, none⟩ 1 (enC (((zs, zh, zl), zb), (ho, (hs, hh, hl), ha))) rfl rfl (fun j u hj => HSr.out j u hj) (en_one _) HSf.out HSz9.out ?_; intro v7 wX hown hg hv; obtain ⟨A7, c7, e7, -, -⟩ := own_sl hown; subst e7; have HOX := lH hown; have HTX := lH ((hT.out.trans HT9.out).trans_fre (Tch.of_grown' (S := obI (.slice A1 f cc)) hg (fun k e => by rw [obI_some e]; simp)) (fun s hs => .inr (own_geI hO.out s hs).1)); clear hown hg hv))
    go_roundw
    case rel => exact ⟨i + 1, f + 1, A7, c7, rfl, by go_num, hin, lH (by rw [HSu2.out, List.length_append, hf.out]; rfl), lH (by rw [HSu2.out]; unfold RowE; rw [List.flatMap_append]; exact HOX.out), HTX⟩
    case measure => simp [intOf]; omega
   ·have b0 : (he == 0) = false := by simpa using h0
    have HSu2 : Hid (tabK L st (i + 1) = tabK L st i) := lH (by rw [HSu.out, HEn.out, if_neg h0]; simp)
    have HT8 : Hid (Tch wr (w7.alloc (.cells #[.int .i64 ho, .bool hs, .int .u64 (hh : Int), .int .u64 (hl : Int), .bool ha] 43)) []) := lH (HT7.out.alloc _)
    go_wp2
    go_roundw
    case rel => exact ⟨i + 1, f, A1, cc, rfl, by go_num, hin, lH (by rw [HSu2.out]; exact hf.out), lH (by rw [HSu2.out]; exact own_tch hO.out HT8.out (by simp)), lH (hT.out.trans HT8.out)⟩
    case measure => simp [intOf]; omega
  ·have iI : ¬ (i : Int) < (n : Int) := by omega
   have HAl := lH (HTa.out i (by omega))
   obtain rfl : f = (tabI L st).length := by rw [← HAl.out]; exact hf.out.symm
   have HO9 : Hid (RowE wr w.heap.size A1 (tabI L st).length cc (tabI L st)) := lH (by have := own_mono hO.out HS1.out; rw [HAl.out] at this; exact this)
   have HT9 := lH (HT1.out.trans hT.out)
   clear hO hf
   go_wp2
   go_ret
   exact ⟨A1, cc, rfl, HO9.out, HT9.out⟩
end Go.Proofs.YtgfkmgbcajdcdaaGreatDoor

namespace Go.Proofs.YtgfkmgbcajdcdaaGreatDoor
open Ifs

abbrev RtI := PfI × Int
def hpAt (hs : List HpI) (h : HpI) : Nat := Go.Proofs.YtgfkmgbcajdcdaaGreatDoor.fndI (fun x => decide (x = h)) hs
def numS (s : List RtI × List HpI) (e : EnI) : List RtI × List HpI :=
 if hpAt s.2 e.2 = 0 then (s.1 ++ [(e.1, ((s.2.length + 1 : Nat) : Int))], s.2 ++ [e.2]) else (s.1 ++ [(e.1, ((hpAt s.2 e.2 : Nat) : Int))], s.2)
def numK (l : List EnI) (k : Nat) : List RtI × List HpI := (l.take k).foldl numS ([], [])
def numI (l : List EnI) : List RtI × List HpI := l.foldl numS ([], [])
theorem numK_zero (l : List EnI) : numK l 0 = ([], []) := by simp [numK]
theorem numK_succ {l : List EnI} {k : Nat} {e : EnI} (h : l[k]? = some e) : numK l (k + 1) = numS (numK l k) e := by
 unfold numK
 rw [List.take_add_one, h, List.foldl_append]
 rfl
theorem numK_all {l : List EnI} {k : Nat} (h : l.length ≤ k) : numK l k = numI l := by unfold numK numI; rw [List.take_of_length_le h]
theorem numS_len (s : List RtI × List HpI) (e : EnI) : (numS s e).1.length = s.1.length + 1 ∧ s.2.length ≤ (numS s e).2.length ∧ (numS s e).2.length ≤ s.2.length + 1 := by
 unfold numS
 split <;> simp
theorem numK_len (l : List EnI) : ∀ k, k ≤ l.length → (numK l k).1.length = k ∧ (numK l k).2.length ≤ k
 | 0, _ => by rw [numK_zero]; simp
 | k + 1, h => by
  obtain ⟨e, he⟩ : ∃ e, l[k]? = some e := ⟨_, List.getElem?_eq_getElem (by omega)⟩
  have ih := numK_len l k (by omega)
  have h1 := numS_len (numK l k) e
  rw [numK_succ he]
  omega
theorem hpAt_app (hs : List HpI) (x h : HpI) : hpAt (hs ++ [x]) h = if hpAt hs h = 0 then (if x = h then hs.length + 1 else 0) else hpAt hs h := by
 unfold hpAt
 rw [Go.Proofs.YtgfkmgbcajdcdaaGreatDoor.fndI_app]
 simp only [decide_eq_true_eq]
def bitsE (l : List EnI) (i : Nat) : Int := ((l[i]?).map (·.1.2)).getD 0
def bstK (l : List EnI) (a : AdR) : Nat → Option Nat
 | 0 => none
 | k + 1 => match l[k]? with
  | none => bstK l a k
  | some e => if (hldP e.1 a && (match bstK l a k with | none => true | some b => decide (bitsE l b < e.1.2))) = true then some k else bstK l a k
def lookI (l : List EnI) (a : AdR) : Option HpI := match bstK l a l.length with
 | none => none
 | some i => (l[i]?).map (·.2)
def IsBst (l : List EnI) (a : AdR) (k i : Nat) (e : EnI) : Prop := l[i]? = some e ∧ i < k ∧ hldP e.1 a = true ∧ (∀ j f, j < k → l[j]? = some f → hldP f.1 a = true → f.1.2 ≤ e.1.2) ∧ (∀ j f, j < i → l[j]? = some f → hldP f.1 a = true → f.1.2 < e.1.2)
theorem bstK_spec (l : List EnI) (a : AdR) : ∀ k, k ≤ l.length → match bstK l a k with
  | none => ∀ j f, j < k → l[j]? = some f → hldP f.1 a = false
  | some i => ∃ e, IsBst l a k i e
 | 0, _ => fun j f hj => absurd hj (Nat.not_lt_zero _)
 | k + 1, h => by
  have ih := bstK_spec l a k (by omega)
  obtain ⟨e, he⟩ : ∃ e, l[k]? = some e := ⟨_, List.getElem?_eq_getElem (by omega)⟩
  have hst : bstK l a (k + 1) = if (hldP e.1 a && (match bstK l a k with | none => true | some b => decide (bitsE l b < e.1.2))) = true then some k else bstK l a k := by
   rw [bstK, he]
  rw [hst]
  clear hst
  cases hb : bstK l a k with
  | none =>
   rw [hb] at ih
   simp only at ih ⊢
   by_cases hh : hldP e.1 a = true
   ·rw [if_pos (by simp [hh])]
    simp only
    refine ⟨e, he, Nat.lt_succ_self k, hh, fun j f hj hf hfa => ?_, fun j f hj hf hfa => ?_⟩
    ·rcases Nat.lt_or_ge j k with h1 | h1
     ·rw [ih j f h1 hf] at hfa; cases hfa
     ·obtain rfl : k = j := by omega
      rw [he] at hf; injection hf with hf; rw [hf]; exact Int.le_refl _
    ·rw [ih j f hj hf] at hfa; cases hfa
   ·rw [if_neg (by simp [hh])]
    simp only
    intro j f hj hf
    rcases Nat.lt_or_ge j k with h1 | h1
    ·exact ih j f h1 hf
    ·obtain rfl : k = j := by omega
     rw [he] at hf; injection hf with hf; rw [← hf]; simpa using hh
  | some b =>
   rw [hb] at ih
   simp only at ih
   obtain ⟨x, hx, hbk, hxa, hx1, hx2⟩ := ih
   have hbx : bitsE l b = x.1.2 := by unfold bitsE; rw [hx]; rfl
   simp only [hbx]
   by_cases hh : hldP e.1 a = true ∧ x.1.2 < e.1.2
   ·rw [if_pos (by simp [hh.1, hh.2])]
    simp only
    refine ⟨e, he, Nat.lt_succ_self k, hh.1, fun j f hj hf hfa => ?_, fun j f hj hf hfa => ?_⟩
    ·rcases Nat.lt_or_ge j k with h1 | h1
     ·have := hx1 j f h1 hf hfa; omega
     ·obtain rfl : k = j := by omega
      rw [he] at hf; injection hf with hf; rw [hf]; exact Int.le_refl _
    ·have := hx1 j f hj hf hfa; omega
   ·rw [if_neg (by simpa using hh)]
    simp only
    refine ⟨x, hx, by omega, hxa, fun j f hj hf hfa => ?_, hx2⟩
    rcases Nat.lt_or_ge j k with h1 | h1
    ·exact hx1 j f h1 hf hfa
    ·obtain rfl : k = j := by omega
     rw [he] at hf; injection hf with hf
     rw [← hf]
     rw [← hf] at hfa
     by_cases h2 : x.1.2 < e.1.2
     ·exact absurd ⟨hfa, h2⟩ hh
     ·omega
end Go.Proofs.YtgfkmgbcajdcdaaGreatDoor

namespace Go.Proofs.YtgfkmgbcajdcdaaGreatDoor
open Go.RowKit Ifs

theorem eq_hp0 (x0 : Int) (x1 : Bool) (x2 : Int) (x3 : Int) (x4 : Bool) (y0 : Int) (y1 : Bool) (y2 : Int) (y3 : Int) (y4 : Bool) (W : World) : (Op.equalIn 10000 43 (.agg #[.int .i64 x0, .bool x1, .int .u64 x2, .int .u64 x3, .bool x4]) (.agg #[.int .i64 y0, .bool y1, .int .u64 y2, .int .u64 y3, .bool y4])).run Tryz.prog W = .ok (decide (x0 = y0 ∧ x1 = y1 ∧ x2 = y2 ∧ x3 = y3 ∧ x4 = y4)) W := by
 by_cases h0 : x0 = y0
 ·subst h0
  by_cases h1 : x1 = y1
  ·subst h1
   by_cases h2 : x2 = y2
   ·subst h2
    by_cases h3 : x3 = y3
    ·subst h3
     by_cases h4 : x4 = y4
     ·subst h4
      go_simp
     ·have g : (x4 == y4) = false := by simpa using h4
      rw [show decide (x0 = x0 ∧ x1 = x1 ∧ x2 = x2 ∧ x3 = x3 ∧ x4 = y4) = false by simp [h4]]
      go_simp
    ·have g : (x3 == y3) = false := by simpa using h3
     rw [show decide (x0 = x0 ∧ x1 = x1 ∧ x2 = x2 ∧ x3 = y3 ∧ x4 = y4) = false by simp [h3]]
     go_simp
   ·have g : (x2 == y2) = false := by simpa using h2
    rw [show decide (x0 = x0 ∧ x1 = x1 ∧ x2 = y2 ∧ x3 = y3 ∧ x4 = y4) = false by simp [h2]]
    go_simp
  ·have g : (x1 == y1) = false := by simpa using h1
   rw [show decide (x0 = x0 ∧ x1 = y1 ∧ x2 = y2 ∧ x3 = y3 ∧ x4 = y4) = false by simp [h1]]
   go_simp
 ·have g : (x0 == y0) = false := by simpa using h0
  rw [show decide (x0 = y0 ∧ x1 = y1 ∧ x2 = y2 ∧ x3 = y3 ∧ x4 = y4) = false by simp [h0]]
  go_simp

theorem eq_hpR (x y : HpI) {b : Bool} (hb : decide (x = y) = b) (W : World) : (Op.equalIn 10000 43 (.agg (hpA x)) (.agg (hpA y))).run Tryz.prog W = .ok b W := by
 rw [eq_hp0, ← hb]
 obtain ⟨p, ⟨s, h, l⟩, a⟩ := x
 obtain ⟨p', ⟨s', h', l'⟩, a'⟩ := y
 congr 2
 apply propext
 simp only [Prod.mk.injEq]
 constructor
 ·rintro ⟨h1, h2, h3, h4, h5⟩
  exact ⟨h1, ⟨h2, by omega, by omega⟩, h5⟩
 ·rintro ⟨h1, ⟨h2, h3, h4⟩, h5⟩
  exact ⟨h1, h2, by omega, by omega, h5⟩
theorem chkH0 (b : Bool) (n : Nat) (p : Int) (s : Bool) (h l : Int) (a : Bool) (W : World) : (Instr.checkKey b (n + 3) 43 (.agg #[.int .i64 p, .bool s, .int .u64 h, .int .u64 l, .bool a])).run Tryz.prog W = .ok () W := by
 have u0 := fun W => run_underlying Tryz.underlying43 W
 have u1 := fun W => run_underlying Tryz.underlying3 W
 have u2 := fun W => run_underlying Tryz.underlying4 W
 have hA := fun W => chkA b n s h l W
 unfold Instr.checkKey
 go_simp
 simp [Instr.checkKey]
theorem chkHp (b : Bool) (x : HpI) (W : World) : (Instr.checkKey b 10000 43 (hpR x)).run Tryz.prog W = .ok () W := by
 obtain ⟨p, ⟨s, h, l⟩, a⟩ := x
 exact chkH0 b 9997 p s h l a W
theorem keyHp : KeyT (κ := HpI) 43 (fun h => hpR h) where
 und := ⟨_, Tryz.underlying43⟩
 agg := fun x => ⟨_, rfl⟩
 eq := fun x y W => eq_hpR x y rfl W
 chk := fun b x W => chkHp b x W
 same := fun x => by simp [Instr.sameBits]
theorem wpList_mset {κ : Type} [DecidableEq κ] {k : TypeId} {kv : κ → Value} {w : World} {m : Nat} {M : List (κ × Value)} {ops : Array Oper} {rest : List Oper} {o : Oper} {a : Act} {Q : Exit → Act → World → Prop} (hgd : o.guard = none) (KT : KeyT k kv) (x y z : Operand) (t e : TypeId) (ho : o.op = .mapUpdate t x y z) (ht : Tryz.prog.underlying t = some (.map k e)) (hm : a.eval x = .map (some m)) (p : κ) (hp : a.eval y = kv p) (v : Value) (hv : a.eval z = v) (h : MpIs kv w m M)
  (hK : ∀ w', MpIs kv w' m (mpPut M p v) → Tch w w' [m] → w'.heap.size = w.heap.size → wpList Tryz.prog ops Q rest (a.put o.dst undef) w') : wpList Tryz.prog ops Q (o :: rest) a w :=
 wpList_plain hgd fun _ hq => wpo_mset KT x y z t e ho ht hm p hp v hv h (fun w' h1 h2 h3 => hq _ _ (hK w' h1 h2 h3))
/-! the map of numbers -/
def numMk (k : Nat) : List HpI → List (HpI × Value)
 | [] => []
 | h :: r => (h, .int .i64 ((k + 1 : Nat) : Int)) :: numMk (k + 1) r
abbrev numM (hs : List HpI) : List (HpI × Value) := numMk 0 hs
theorem numMk_G (h : HpI) : ∀ (hs : List HpI) (k i : Nat), mpG h (numMk k hs) i = if hpAt hs h = 0 then none else some (i + (hpAt hs h - 1), .int .i64 ((k + hpAt hs h : Nat) : Int))
 | [], k, i => by simp [numMk, mpG, hpAt, Go.Proofs.YtgfkmgbcajdcdaaGreatDoor.fndI]
 | x :: r, k, i => by
  have ih := numMk_G h r (k + 1) (i + 1)
  have hu : hpAt (x :: r) h = if x = h then 1 else if hpAt r h = 0 then 0 else hpAt r h + 1 := by
   unfold hpAt
   rw [Go.Proofs.YtgfkmgbcajdcdaaGreatDoor.fndI]
   simp only [decide_eq_true_eq]
  unfold numMk mpG
  rw [hu]
  by_cases e : h = x
  ·subst e
   simp
  ·have e' : ¬ x = h := fun e1 => e e1.symm
   rw [if_neg e, ih, if_neg e']
   by_cases h0 : hpAt r h = 0
   ·simp [h0]
   ·rw [if_neg h0, if_neg h0, if_neg (by omega)]
    rw [show i + 1 + (hpAt r h - 1) = i + (hpAt r h + 1 - 1) by omega, show k + 1 + hpAt r h = k + (hpAt r h + 1) by omega]
theorem numM_V (hs : List HpI) (h : HpI) : mpV (numM hs) h (.int .i64 0) = .int .i64 (hpAt hs h : Int) := by
 unfold mpV
 rw [numMk_G]
 by_cases h0 : hpAt hs h = 0
 ·rw [if_pos h0]; simp [h0]
 ·rw [if_neg h0]; simp
theorem numMk_app (x : HpI) : ∀ (hs : List HpI) (k : Nat), numMk k (hs ++ [x]) = numMk k hs ++ [(x, .int .i64 ((k + hs.length + 1 : Nat) : Int))]
 | [], k => rfl
 | y :: r, k => by
  show (y, _) :: numMk (k + 1) (r ++ [x]) = (y, _) :: numMk (k + 1) r ++ _
  rw [numMk_app x r (k + 1)]
  simp [Nat.add_comm, Nat.add_left_comm]
theorem numM_put {hs : List HpI} {h : HpI} (h0 : hpAt hs h = 0) : mpPut (numM hs) h (.int .i64 ((hs.length + 1 : Nat) : Int)) = numM (hs ++ [h]) := by
 unfold mpPut
 rw [numMk_G, if_pos h0]
 show numMk 0 hs ++ _ = numMk 0 (hs ++ [h])
 rw [numMk_app, Nat.zero_add]
end Go.Proofs.YtgfkmgbcajdcdaaGreatDoor
