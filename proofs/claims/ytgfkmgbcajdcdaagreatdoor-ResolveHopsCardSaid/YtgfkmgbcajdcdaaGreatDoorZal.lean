/-
  Several texts in one: RvA, RvB, RpL, RpM, RpShelf.
-/
import Derived.Test.YtgfkmgbcajdcdaaGreatDoorZad
import Derived.Test.YtgfkmgbcajdcdaaGreatDoorZak
import Derived.RangeFuncNested
import Derived.RangeFuncLeaves
import Derived.Sort.MapsRangeIn
import Derived.Maps.AppendAt
import Derived.Shelf.AbstractIn
import Derived.WalkKit
import Derived.OwnWalkIn
import Derived.TacticsInMore
import Derived.RegionIn
import Derived.LoopNIn
import Derived.LoopIn
import Derived.Shelf.SlGeneric
import Derived.Shelf.SlSortCmp.NoneTotal
import Derived.Test.YtgfkmgbcajdcdaaGreatDoorProg
import Derived.Test.YtgfkmgbcajdcdaaGreatDoorZaa
set_option linter.unusedVariables false
set_option maxRecDepth 100000
set_option maxHeartbeats 16000000
namespace Go.Proofs.YtgfkmgbcajdcdaaGreatDoor
open Go.RowKit Ifs

abbrev ptrV (b : Nat) : Value := .pointer (some ⟨b, 0, none⟩)
theorem byport_any (x : PaI) (w : World) : Calls Tryz.prog 93 #[paR x] w fun e w' => e = .returned (.bool (!decide (x.2.2.2.1 = 0))) ∧ Tch w w' [] := by
 obtain ⟨pr, me, ⟨vs, vh, vl⟩, po, aw⟩ := x
 have HT : Hid (∀ o, Tch w (w.alloc o) []) := lH (fun o => (Tch.refl w []).alloc o)
 go_enter Tryz.func93, Tryz.ntmps93
 go_wp2
 go_ret
 exact ⟨rfl, HT.out _⟩
theorem bynb_any (x : PaI) (w : World) : Calls Tryz.prog 48 #[paR x] w fun e w' => e = .returned (.bool (nbX x)) ∧ Tch w w' [] := by
 have HC := lH (fun W => byport_any x W)
 have HE : Hid (nbX x = (!x.2.2.2.2 && decide (x.2.2.2.1 = 0))) := lH rfl
 obtain ⟨pr, me, ⟨vs, vh, vl⟩, po, aw⟩ := x
 obtain ⟨b, hb⟩ : ∃ b, decide (po = 0) = b := ⟨_, rfl⟩
 simp only [hb] at HC HE
 obtain ⟨xb, hxb⟩ : ∃ xb, w.heap.size = xb := ⟨_, rfl⟩
 obtain ⟨W0, hW0⟩ : ∃ W, w.alloc (.cells #[.int .i64 pr, .int .i64 me, .bool vs, .int .u64 (vh : Int), .int .u64 (vl : Int), .int .i64 po, .bool aw] 49) = W := ⟨_, rfl⟩
 have HT0 : Hid (Tch w W0 []) := lH (hW0 ▸ (Tch.refl w []).alloc _)
 obtain ⟨x0, x1, x2, x3, x4, x5, x6⟩ := (show Blk W0 xb _ _ from hW0 ▸ hxb ▸ Blk.new w 49 #[.int .i64 pr, .int .i64 me, .bool vs, .int .u64 (vh : Int), .int .u64 (vl : Int), .int .i64 po, .bool aw]).p7
 have HW0 := lH (And.intro hW0 hxb)
 clear hb hW0 hxb
 cases aw with
 | true =>
  go_enter Tryz.func48, Tryz.ntmps48
  go_wp2_with fail
  rw [HW0.out.1, HW0.out.2]
  go_wp2
  go_ret
  exact ⟨by rw [HE.out]; rfl, HT0.out⟩
 | false =>
  go_enter Tryz.func48, Tryz.ntmps48
  go_wp2_with fail
  rw [HW0.out.1, HW0.out.2]
  go_wp2_with fail
  refine cZm (HC.out W0) ?_
  rintro e w1 ⟨rfl, hT1⟩
  have HT1 := lH (HT0.out.trans hT1)
  clear hT1
  go_wp2
  go_ret
  exact ⟨by rw [HE.out]; rfl, HT1.out⟩
theorem stands_any (p : Nat) (T : List Nat) (st : StI) (x : PaI) (hx : I64 x.2.2.2.1) (w : World) (h : IfP w p T st) : Calls Tryz.prog 53 #[ptrV p, paR x] w fun e w' => e = .returned (.bool (stdI st x)) ∧ Tch w w' [] := by
 have HC := lH (fun W => byport_any x W)
 have HP := lH (fun W (hT : Tch w W []) => portP0 p T st x.2.2.2.1 hx W (h.tch hT (by simp)))
 have HE : Hid (stdI st x = (decide (x.2.2.2.1 = 0) || (thereI st x.2.2.2.1 && (portI st x.2.2.2.1).2.2.2))) := lH rfl
 obtain ⟨pr, me, ⟨vs, vh, vl⟩, po, aw⟩ := x
 simp only at HC HP HE
 obtain ⟨b, hb⟩ : ∃ b, decide (po = 0) = b := ⟨_, rfl⟩
 obtain ⟨th, hth⟩ : ∃ th, thereI st po = th := ⟨_, rfl⟩
 obtain ⟨⟨qn, qm, qt, qu⟩, hq⟩ : ∃ q, portI st po = q := ⟨_, rfl⟩
 simp only [hb, hth, hq, prC] at HC HE HP
 obtain ⟨xb, hxb⟩ : ∃ xb, w.heap.size = xb := ⟨_, rfl⟩
 obtain ⟨W0, hW0⟩ : ∃ W, w.alloc (.cells #[.int .i64 pr, .int .i64 me, .bool vs, .int .u64 (vh : Int), .int .u64 (vl : Int), .int .i64 po, .bool aw] 49) = W := ⟨_, rfl⟩
 have hT0 : Tch w W0 [] := hW0 ▸ (Tch.refl w []).alloc _
 have HX : Hid (∀ W, Tch W0 W [] → Blk W xb 49 #[.int .i64 pr, .int .i64 me, .bool vs, .int .u64 (vh : Int), .int .u64 (vl : Int), .int .i64 po, .bool aw]) := lH (fun W hT => hT.blk (hW0 ▸ hxb ▸ Blk.new w _ _) (by simp))
 have HT0 := lH hT0
 have HW0 := lH (And.intro hW0 hxb)
 obtain ⟨x0, x1, x2, x3, x4, x5, x6⟩ := (HX.out W0 (Tch.refl _ _)).p7
 clear hb hth hq hW0 hxb hT0 h hx
 go_enter Tryz.func53, Tryz.ntmps53
 go_wp2_with fail
 rw [HW0.out.1, HW0.out.2]
 go_wp2_with fail
 refine cZm (HC.out W0) ?_
 rintro e w1 ⟨rfl, hT1⟩
 have HT1 := lH hT1
 clear hT1 x0 x1 x2 x3 x4 x5 x6
 obtain ⟨x0, x1, x2, x3, x4, x5, x6⟩ := (HX.out w1 HT1.out).p7
 cases b with
 | true =>
  go_wp2
  go_ret
  exact ⟨by rw [HE.out]; rfl, HT0.out.trans HT1.out⟩
 | false =>
  go_wp2_with fail
  refine cZm (HP.out w1 (HT0.out.trans HT1.out)) ?_
  rintro e w2 ⟨rfl, hT2⟩
  have HT2 := lH (HT0.out.trans (HT1.out.trans hT2))
  have HA : Hid (∀ o, Tch w (w2.alloc o) []) := lH (fun o => HT2.out.alloc o)
  clear hT2 x0 x1 x2 x3 x4 x5 x6
  cases th with
  | false =>
   go_wp2
   go_ret
   exact ⟨by rw [HE.out]; rfl, HA.out _⟩
  | true =>
   go_wp2
   go_ret
   exact ⟨by rw [HE.out]; rfl, HA.out _⟩
theorem sta_via {w w' : World} {g : Nat} {a b s h l c d s' h' l' : Value} (hs : Sta w w' g 2 49 #[a, b, s, h, l, c, d] #[s', h', l']) : Blk w' g 49 #[a, b, s', h', l', c, d] := by
 obtain ⟨⟨cur, hb, hsz, h1, h2⟩, -⟩ := hs
 have e : cur = #[a, b, s', h', l', c, d] := by
  apply Array.ext_getElem?
  intro i
  by_cases h0 : i < 2 ∨ 2 + 3 ≤ i
  ·rw [h1 i (by simpa using h0)]
   rcases h0 with h0 | h0
   ·rcases (show i = 0 ∨ i = 1 by omega) with rfl | rfl <;> rfl
   ·by_cases h7 : i < 7
    ·rcases (show i = 5 ∨ i = 6 by omega) with rfl | rfl <;> rfl
    ·rw [Array.getElem?_eq_none (by simp; omega), Array.getElem?_eq_none (by simp; omega)]
  ·rcases (show i = 2 ∨ i = 3 ∨ i = 4 by omega) with rfl | rfl | rfl
   ·exact h2 0 (by simp)
   ·exact h2 1 (by simp)
   ·exact h2 2 (by simp)
 rw [← e]
 exact hb
theorem adSz : (Tryz.prog.info? 28).map (·.size) = some 3 := by kernel_rfl
theorem follow_any (x y : PaI) (w : World) : Calls Tryz.prog 50 #[paR x, paR y] w fun e w' => e = .returned (paR (folX x y)) ∧ Tch w w' [] := by
 have HC := lH (fun W => byport_any y W)
 have hf : folX x y = if (!decide (y.2.2.2.1 = 0) && decide (y.2.2.1 = zeroA)) = true then (y.1, y.2.1, x.2.2.1, y.2.2.2.1, y.2.2.2.2) else y := by
  unfold folX
  by_cases h1 : y.2.2.2.1 = 0 <;> by_cases h2 : y.2.2.1 = zeroA <;> simp [h1, h2]
 obtain ⟨c, hc⟩ : ∃ c, decide (y.2.2.1 = zeroA) = c := ⟨_, rfl⟩
 have HQ := lH (eqA_eql 28 _ _ (eq_adR y.2.2.1 zeroA hc))
 obtain ⟨pr, me, ⟨vs, vh, vl⟩, po, aw⟩ := x
 obtain ⟨qr, qe, ⟨us, uh, ul⟩, qo, qw⟩ := y
 obtain ⟨b, hb⟩ : ∃ b, decide (qo = 0) = b := ⟨_, rfl⟩
 simp only [hb, hc] at HC hf
 have HF := lH hf
 obtain ⟨xb, hxb⟩ : ∃ xb, w.heap.size = xb := ⟨_, rfl⟩
 obtain ⟨W1, hW1⟩ : ∃ W, w.alloc (.cells #[.int .i64 pr, .int .i64 me, .bool vs, .int .u64 (vh : Int), .int .u64 (vl : Int), .int .i64 po, .bool aw] 49) = W := ⟨_, rfl⟩
 obtain ⟨yb, hyb⟩ : ∃ yb, xb + 1 = yb := ⟨_, rfl⟩
 obtain ⟨W2, hW2⟩ : ∃ W, W1.alloc (.cells #[.int .i64 qr, .int .i64 qe, .bool us, .int .u64 (uh : Int), .int .u64 (ul : Int), .int .i64 qo, .bool qw] 49) = W := ⟨_, rfl⟩
 obtain ⟨rb, hrb⟩ : ∃ rb, yb + 1 = rb := ⟨_, rfl⟩
 obtain ⟨W0, hW0⟩ : ∃ W, W2.alloc (.cells #[.int .i64 0, .int .i64 0, .bool false, .int .u64 0, .int .u64 0, .int .i64 0, .bool false] 49) = W := ⟨_, rfl⟩
 have z1 : W1.heap.size = yb := by rw [← hW1, zA, hxb, hyb]
 have z2 : W2.heap.size = rb := by rw [← hW2, zA, z1, hrb]
 have hT0 : Tch w W0 [] := hW0 ▸ hW2 ▸ hW1 ▸ ((((Tch.refl w []).alloc _).alloc _).alloc _)
 have hX : Blk W0 xb 49 #[.int .i64 pr, .int .i64 me, .bool vs, .int .u64 (vh : Int), .int .u64 (vl : Int), .int .i64 po, .bool aw] := hW0 ▸ hW2 ▸ hW1 ▸ hxb ▸ (((Blk.new w _ _).alloc _).alloc _)
 have hY : Blk W0 yb 49 #[.int .i64 qr, .int .i64 qe, .bool us, .int .u64 (uh : Int), .int .u64 (ul : Int), .int .i64 qo, .bool qw] := hW0 ▸ hW2 ▸ z1 ▸ ((Blk.new W1 _ _).alloc _)
 have hR : Blk W0 rb 49 #[.int .i64 0, .int .i64 0, .bool false, .int .u64 0, .int .u64 0, .int .i64 0, .bool false] := hW0 ▸ z2 ▸ (Blk.new W2 _ _)
 have HXYR := lH (fun W (hT : Tch W0 W []) => And.intro (hT.blk hX (by simp)) (And.intro (hT.blk hY (by simp)) (hT.blk hR (by simp))))
 have HT0 := lH hT0
 have HN : Hid (w.heap.size ≤ yb ∧ w.heap.size ≤ rb ∧ xb ≠ yb ∧ rb ≠ yb) := lH (by omega)
 have HW0 : Hid (((w.alloc (.cells #[.int .i64 pr, .int .i64 me, .bool vs, .int .u64 (vh : Int), .int .u64 (vl : Int), .int .i64 po, .bool aw] 49)).alloc (.cells #[.int .i64 qr, .int .i64 qe, .bool us, .int .u64 (uh : Int), .int .u64 (ul : Int), .int .i64 qo, .bool qw] 49)).alloc (.cells #[.int .i64 0, .int .i64 0, .bool false, .int .u64 0, .int .u64 0, .int .i64 0, .bool false] 49) = W0) := lH (by rw [hW1, hW2, hW0])
 have HSz : Hid (w.heap.size = xb ∧ xb + 1 = yb ∧ yb + 1 = rb) := lH (by omega)
 obtain ⟨y0, y1, y2, y3, y4, y5, y6⟩ := hY.p7
 clear hb hc hf hxb hyb hrb hW1 hW2 hW0 z1 z2 hT0 hX hY hR
 go_enter Tryz.func50, Tryz.ntmps50
 go_wp2_with fail
 rw [HW0.out, HSz.out.1, HSz.out.2.1, HSz.out.2.2]
 refine cZm (HC.out W0) ?_
 rintro e w1 ⟨rfl, hT1⟩
 have HT1 := lH hT1
 obtain ⟨hx1, hy1, hr1⟩ := HXYR.out w1 hT1
 have HX1 := lH hx1
 have HY1 := lH hy1
 have HR1 := lH hr1
 clear hT1 hx1 hy1 hr1 y0 y1 y2 y3 y4 y5 y6
 have HTw : Hid (Tch w w1 []) := lH (HT0.out.trans HT1.out)
 obtain ⟨y0, y1, y2, y3, y4, y5, y6⟩ := HY1.out.p7
 have q := HQ.out
 simp only [zeroA, Int.natCast_zero] at q
 have fin : ∀ (W : World) (z : PaI), Tch w W [] → Blk W yb 49 (paA z) → Blk W rb 49 #[.int .i64 0, .int .i64 0, .bool false, .int .u64 0, .int .u64 0, .int .i64 0, .bool false] → True := fun _ _ _ _ _ => trivial
 clear fin
 cases b with
 | true =>
  clear q
  go_wp2_with (refine wpList_sta rfl 49 (.tmp 4) (.tmp 16) rfl rb 0 #[.int .i64 qr, .int .i64 qe, .bool us, .int .u64 (uh : Int), .int .u64 (ul : Int), .int .i64 qo, .bool qw] rfl rfl 49 _ HR1.out 7 paSz rfl (show 0 + 7 ≤ 7 from by decide) (by simp [Value.oneCell']) ?_; intro w6 hs6; have HS6 := lH hs6; clear hs6)
  obtain ⟨z0, z1, z2, z3, z4, z5, z6⟩ := (sta_whole HS6.out rfl).p7
  exact bodyPost_ret (v := .agg #[.int .i64 qr, .int .i64 qe, .bool us, .int .u64 (uh : Int), .int .u64 (ul : Int), .int .i64 qo, .bool qw]) (by simp [results, Tryz.results50, go_sem, z0, z1, z2, z3, z4, z5, z6]) rfl ⟨by rw [HF.out]; rfl, HTw.out.trans_fre HS6.out.tch (by simp; exact HN.out.2.1)⟩
 | false =>
  cases c with
  | false =>
   go_wp2_with (refine wpList_sta rfl 49 (.tmp 4) (.tmp 16) rfl rb 0 #[.int .i64 qr, .int .i64 qe, .bool us, .int .u64 (uh : Int), .int .u64 (ul : Int), .int .i64 qo, .bool qw] rfl rfl 49 _ HR1.out 7 paSz rfl (show 0 + 7 ≤ 7 from by decide) (by simp [Value.oneCell']) ?_; intro w6 hs6; have HS6 := lH hs6; clear hs6)
   obtain ⟨z0, z1, z2, z3, z4, z5, z6⟩ := (sta_whole HS6.out rfl).p7
   exact bodyPost_ret (v := .agg #[.int .i64 qr, .int .i64 qe, .bool us, .int .u64 (uh : Int), .int .u64 (ul : Int), .int .i64 qo, .bool qw]) (by simp [results, Tryz.results50, go_sem, z0, z1, z2, z3, z4, z5, z6]) rfl ⟨by rw [HF.out]; rfl, HTw.out.trans_fre HS6.out.tch (by simp; exact HN.out.2.1)⟩
  | true =>
   obtain ⟨x0, x1, x2, x3, x4, x5, x6⟩ := HX1.out.p7
   go_wp2_with (first | (refine wpList_sta rfl 28 (.tmp 15) (.tmp 14) rfl yb 2 #[.bool vs, .int .u64 (vh : Int), .int .u64 (vl : Int)] rfl rfl 49 _ HY1.out 3 adSz rfl (show 2 + 3 ≤ 7 from by decide) (by simp [Value.oneCell']) ?_; intro w5 hs5; have HS5 := lH hs5; clear hs5 y0 y1 y2 y3 y4 y5 y6 x0 x1 x2 x3 x4 x5 x6; have HR5 : Hid (Blk w5 rb _ _) := lH (HS5.out.tch.blk HR1.out (by simp; exact HN.out.2.2.2)); obtain ⟨y0, y1, y2, y3, y4, y5, y6⟩ := (sta_via HS5.out).p7) | (refine wpList_sta rfl 49 (.tmp 4) (.tmp 16) rfl rb 0 #[.int .i64 qr, .int .i64 qe, .bool vs, .int .u64 (vh : Int), .int .u64 (vl : Int), .int .i64 qo, .bool qw] rfl rfl 49 _ HR5.out 7 paSz rfl (show 0 + 7 ≤ 7 from by decide) (by simp [Value.oneCell']) ?_; intro w6 hs6; have HS6 := lH hs6; clear hs6))
   obtain ⟨z0, z1, z2, z3, z4, z5, z6⟩ := (sta_whole HS6.out rfl).p7
   exact bodyPost_ret (v := .agg #[.int .i64 qr, .int .i64 qe, .bool vs, .int .u64 (vh : Int), .int .u64 (vl : Int), .int .i64 qo, .bool qw]) (by simp [results, Tryz.results50, go_sem, z0, z1, z2, z3, z4, z5, z6]) rfl ⟨by rw [HF.out]; rfl, (HTw.out.trans_fre HS5.out.tch (by simp; exact HN.out.1)).trans_fre HS6.out.tch (by simp; exact HN.out.2.1)⟩
end Go.Proofs.YtgfkmgbcajdcdaaGreatDoor

namespace Go.Proofs.YtgfkmgbcajdcdaaGreatDoor
open Go.RowKit Ifs

theorem find_at {α : Type} {f : α → Bool} {l : List α} {i : Nat} {x : α} (hx : l[i]? = some x) (hf : f x = true) (h : ∀ y ∈ l.take i, f y = false) : l.find? f = some x := by
 rw [← List.take_append_drop i l, List.find?_append]
 have h1 : (l.take i).find? f = none := by
  rw [List.find?_eq_none]
  intro y hy
  rw [h y hy]
  decide
 obtain ⟨hi, he⟩ := List.getElem?_eq_some_iff.1 hx
 rw [h1, List.drop_eq_getElem_cons hi, he, List.find?_cons, hf]
 rfl
theorem find_no {α : Type} {f : α → Bool} {l : List α} (h : ∀ y ∈ l, f y = false) : l.find? f = none := by
 rw [List.find?_eq_none]
 intro y hy
 rw [h y hy]
 decide
theorem take_more {α : Type} {P : α → Prop} {l : List α} {i : Nat} {x : α} (hx : l[i]? = some x) (h : ∀ y ∈ l.take i, P y) (k : P x) : ∀ y ∈ l.take (i + 1), P y := by
 intro y hy
 rw [List.take_add_one, hx] at hy
 rcases List.mem_append.1 hy with h1 | h1
 ·exact h y h1
 ·have : y = x := by simpa using h1
  rw [this]; exact k
theorem rpath_any (t p : Nat) (S T : List Nat) (L : List TdI) (st : StI) (q : PfI) (hq : PfOk q) (w : World) (h : RbP w t S L) (k : IfP w p T st) :
  Calls Tryz.prog 14 #[ptrV t, ptrV p, pfR q] w fun e w' => e = .returned (bestV (pathI L st q)) ∧ Tch w w' [] := by
 have HPt := lH (fun W (hT : Tch w W []) => pathsP0 t S L q hq W (h.tch hT (by simp)))
 have HSt := lH (fun x (hx : x ∈ pathsI L q) W (hT : Tch w W []) => stands_any p T st x (h.ok _ (pathsI_mem.1 hx)).2.2.2.2 W (k.tch hT (by simp)))
 have hn4 := h.inv.four q
 have HE : Hid (pathI L st q = (pathsI L q).find? (stdI st)) := lH rfl
 obtain ⟨l, hl⟩ : ∃ l, pathsI L q = l := ⟨_, rfl⟩
 rw [hl] at HPt HSt hn4 HE
 obtain ⟨n, hn⟩ : ∃ n, l.length = n := ⟨_, rfl⟩
 rw [hn] at HPt hn4
 have HN := lH hn
 obtain ⟨o, ho⟩ : ∃ o, pathI L st q = o := ⟨_, rfl⟩
 rw [ho] at HE ⊢
 obtain ⟨⟨qs, qh, ql⟩, qb⟩ := q
 obtain ⟨xb, hxb⟩ : ∃ xb, w.heap.size = xb := ⟨_, rfl⟩
 obtain ⟨W1, hW1⟩ : ∃ W, w.alloc (.cells #[.bool qs, .int .u64 (qh : Int), .int .u64 (ql : Int), .int .i64 qb] 30) = W := ⟨_, rfl⟩
 obtain ⟨rb, hrb⟩ : ∃ rb, xb + 1 = rb := ⟨_, rfl⟩
 obtain ⟨W0, hW0⟩ : ∃ W, W1.alloc (.cells #[.int .i64 0, .int .i64 0, .bool false, .int .u64 0, .int .u64 0, .int .i64 0, .bool false] 49) = W := ⟨_, rfl⟩
 have z1 : W1.heap.size = rb := by rw [← hW1, zA, hxb, hrb]
 have hT0 : Tch w W0 [] := hW0 ▸ hW1 ▸ (((Tch.refl w []).alloc _).alloc _)
 have hX : Blk W0 xb 30 #[.bool qs, .int .u64 (qh : Int), .int .u64 (ql : Int), .int .i64 qb] := hW0 ▸ hW1 ▸ hxb ▸ ((Blk.new w _ _).alloc _)
 have hR : Blk W0 rb 49 #[.int .i64 0, .int .i64 0, .bool false, .int .u64 0, .int .u64 0, .int .i64 0, .bool false] := hW0 ▸ z1 ▸ (Blk.new W1 _ _)
 have HR := lH (fun W (hT : Tch W0 W []) => hT.blk hR (by simp))
 have HT0 := lH hT0
 have HW0 : Hid ((w.alloc (.cells #[.bool qs, .int .u64 (qh : Int), .int .u64 (ql : Int), .int .i64 qb] 30)).alloc (.cells #[.int .i64 0, .int .i64 0, .bool false, .int .u64 0, .int .u64 0, .int .i64 0, .bool false] 49) = W0) := lH (by rw [hW1, hW0])
 have HSz : Hid (w.heap.size = xb ∧ xb + 1 = rb) := lH (by omega)
 obtain ⟨x0, x1, x2, x3⟩ := hX.c4
 clear h k hq hl hn ho hxb hrb hW1 hW0 z1 hT0 hX hR
 go_enter Tryz.func14, Tryz.ntmps14
 go_wp2_with fail
 rw [HW0.out, HSz.out.1, HSz.out.2]
 refine cZm (HPt.out W0 HT0.out) ?_
 rintro e w1 ⟨A, c, rfl, ho, hT1⟩
 have HOw := lH (own_mono ho (Nat.zero_le _))
 have HT1 := lH hT1
 have HN4 := lH hn4
 clear ho hT1 x0 x1 x2 x3 hn4
 go_wp2
 go_loopw [21] (fun iv wr => ∃ i : Nat, iv = .int .i64 (i : Int) ∧ i ≤ n ∧ Hid (∀ y ∈ l.take i, stdI st y = false) ∧ Hid (Tch w1 wr [])) (fun iv _ => n - (intOf iv).toNat)
 case atStart => exact ⟨0, rfl, Nat.zero_le _, lH (by simp), lH (Tch.refl _ _)⟩
 case round =>
  obtain ⟨i, rfl, hi, hno, hT⟩ := hrel
  by_cases hin : i < n
  ·have iI : (i : Int) < (n : Int) := by omega
   have i0 : (0 : Int) ≤ (i : Int) := by omega
   have i1 : IntKind.i64.wrap ((i : Int) + 1) = (i : Int) + 1 := by have := HN4.out; rw [IntKind.wrap_i64]; omega
   obtain ⟨x, hx⟩ : ∃ x, l[i]? = some x := ⟨_, List.getElem?_eq_getElem (by rw [HN.out]; exact hin)⟩
   have HX := lH hx
   have ho2 := own_tch HOw.out hT.out (by simp)
   obtain ⟨g, rfl⟩ := slice_some ho2 (by omega)
   obtain ⟨y0, y1, y2, y3, y4, y5, y6⟩ := pa_cells ho2 hx
   have HTw := lH (HT0.out.trans (HT1.out.trans hT.out))
   have HS := lH (fun W (hW : Tch w W []) => HSt.out x (List.mem_of_getElem? hx) W hW)
   obtain ⟨pr, me, ⟨vs, vh, vl⟩, po, aw⟩ := x
   obtain ⟨b, hb⟩ : ∃ b, stdI st (pr, me, (vs, vh, vl), po, aw) = b := ⟨_, rfl⟩
   rw [hb] at HS
   have HB := lH hb
   obtain ⟨vb, hvb⟩ : ∃ vb, wr.heap.size = vb := ⟨_, rfl⟩
   obtain ⟨W3, hW3⟩ : ∃ W, wr.alloc (.cells #[.int .i64 pr, .int .i64 me, .bool vs, .int .u64 (vh : Int), .int .u64 (vl : Int), .int .i64 po, .bool aw] 49) = W := ⟨_, rfl⟩
   have hT3 : Tch wr W3 [] := hW3 ▸ (Tch.refl wr []).alloc _
   have HV := lH (fun W (hW : Tch W3 W []) => hW.blk (show Blk W3 vb 49 #[.int .i64 pr, .int .i64 me, .bool vs, .int .u64 (vh : Int), .int .u64 (vl : Int), .int .i64 po, .bool aw] from hW3 ▸ hvb ▸ Blk.new wr _ _) (by simp))
   have HT3 := lH hT3
   have HW3 := lH (And.intro hW3 hvb)
   clear hx ho2 hb hT3 hW3 hvb
   go_wp2_with fail
   rw [HW3.out.1, HW3.out.2]
   refine cZm (HS.out W3 (HTw.out.trans HT3.out)) ?_
   rintro e w4 ⟨rfl, hT4⟩
   have HV4 := lH (HV.out w4 hT4)
   have HTr : Hid (Tch w1 w4 []) := lH (hT.out.trans (HT3.out.trans hT4))
   have HR4 := lH (HR.out w4 (HT1.out.trans HTr.out))
   have HT4 : Hid (Tch w w4 []) := lH (HTw.out.trans (HT3.out.trans hT4))
   clear hT4 y0 y1 y2 y3 y4 y5 y6
   obtain ⟨y0, y1, y2, y3, y4, y5, y6⟩ := HV4.out.p7
   cases b with
   | true =>
    have HO : Hid (o = some (pr, me, (vs, vh, vl), po, aw)) := lH (by rw [HE.out]; exact find_at HX.out HB.out hno.out)
    go_wp2_with (refine wpList_sta rfl 49 (.tmp 6) (.tmp 28) rfl rb 0 #[.int .i64 pr, .int .i64 me, .bool vs, .int .u64 (vh : Int), .int .u64 (vl : Int), .int .i64 po, .bool aw] rfl rfl 49 _ HR4.out 7 paSz rfl (show 0 + 7 ≤ 7 from by decide) (by simp [Value.oneCell']) ?_; intro w6 hs6; have HS6 := lH hs6; clear hs6)
    obtain ⟨z0, z1, z2, z3, z4, z5, z6⟩ := (sta_whole HS6.out rfl).p7
    exact bodyPost_ret (v := .tuple #[.agg #[.int .i64 pr, .int .i64 me, .bool vs, .int .u64 (vh : Int), .int .u64 (vl : Int), .int .i64 po, .bool aw], .bool true]) (by simp [results, Tryz.results14, go_sem, z0, z1, z2, z3, z4, z5, z6]) rfl ⟨by rw [HO.out]; rfl, HT4.out.trans_fre HS6.out.tch (by simp; have := HSz.out; omega)⟩
   | false =>
    go_wp2
    go_roundw
    case rel => exact ⟨i + 1, by go_num, hin, lH (take_more HX.out hno.out HB.out), HTr⟩
    case measure => simp [intOf]; omega
  ·have iI : ¬ (i : Int) < (n : Int) := by omega
   have HO : Hid (o = none) := lH (by
    rw [HE.out]
    refine find_no fun y hy => hno.out y ?_
    rw [List.take_of_length_le (by rw [HN.out]; omega)]
    exact hy)
   have HR4 := lH (HR.out wr (HT1.out.trans hT.out))
   have HT4 : Hid (Tch w wr []) := lH (HT0.out.trans (HT1.out.trans hT.out))
   go_wp2_with (refine wpList_sta rfl 49 (.tmp 6) (.tmp 30) rfl rb 0 #[.int .i64 0, .int .i64 0, .bool false, .int .u64 0, .int .u64 0, .int .i64 0, .bool false] rfl rfl 49 _ HR4.out 7 paSz rfl (show 0 + 7 ≤ 7 from by decide) (by simp [Value.oneCell']) ?_; intro w6 hs6; have HS6 := lH hs6; clear hs6)
   obtain ⟨z0, z1, z2, z3, z4, z5, z6⟩ := (sta_whole HS6.out rfl).p7
   exact bodyPost_ret (v := .tuple #[.agg #[.int .i64 0, .int .i64 0, .bool false, .int .u64 0, .int .u64 0, .int .i64 0, .bool false], .bool false]) (by simp [results, Tryz.results14, go_sem, z0, z1, z2, z3, z4, z5, z6]) rfl ⟨by rw [HO.out]; rfl, HT4.out.trans_fre HS6.out.tch (by simp; have := HSz.out; omega)⟩
end Go.Proofs.YtgfkmgbcajdcdaaGreatDoor

namespace Go.Proofs.YtgfkmgbcajdcdaaGreatDoor
open Go.RowKit Go.Shelf
set_option linter.unusedSectionVars false
attribute [local go_sem] Oper.semAt_some

theorem grown_of_tch {w w' : World} {r : Nat} (h : Tch w w' [r]) : w.grownBy w' (some r) := ⟨h.os, h.tape, h.output, h.size, fun k hk hne => h.block k hk (by simp; exact fun e => hne (by rw [e]))⟩
theorem grown_of_tch0 {w w' : World} (h : Tch w w' []) : w.grownBy w' none := ⟨h.os, h.tape, h.output, h.size, fun k hk hne => h.block k hk (by simp)⟩
section
variable {κ : Type} [DecidableEq κ] {k : TypeId} {kv : κ → Value} {F : Fence} {n : Nat} {w w' : World} {m r : Nat} {M left : List (κ × Value)}
theorem MpIs.of_walks (h : MpIs kv w m M) (hk : KeepsWalks w w') : MpIs kv w' m M := by
 obtain ⟨es, clock, h1, h2⟩ := h
 exact ⟨es, clock, hk.same m _ h1 rfl, h2⟩
theorem MpRg.of_walks (h : MpRg kv w m r M left) (hk : KeepsWalks w w') : MpRg kv w' m r M left := by
 obtain ⟨es, clock, since, c0, seen, h1, h2, h3, h4, h5, h6, h7⟩ := h
 exact ⟨es, clock, since, c0, seen, hk.same m _ h1 rfl, h2, h3, h4, h5, hk.same r _ h6 rfl, h7⟩
theorem MpRg.iter_walk (h : MpRg kv w m r M left) : ∃ o : Obj, w.heap[r]? = some o ∧ o.isWalk = true := by
 obtain ⟨es, clock, since, c0, seen, h1, h2, h3, h4, h5, h6, h7⟩ := h
 exact ⟨_, h6, rfl⟩
theorem wpListIn_mrange {ops : Array Oper} {rest : List Oper} {o : Oper} {a : Act} {Q : Exit → Act → World → Prop} (hg : o.guard = none) (x : Operand) (t : TypeId) (hop : o.op = Op.range t x) (e : TypeId) (ht : Tryz.prog.underlying t = some (.map k e)) (hm : a.eval x = .map (some m)) (h : MpIs kv w m M)
  (hK : ∀ w', MpRg kv w' m w.heap.size M M → Tch w w' [] → w'.heap.size = w.heap.size + 1 → wpListIn F n Tryz.prog ops Q rest (a.put o.dst (.pointer (some ⟨w.heap.size, 0, none⟩))) w') : wpListIn F n Tryz.prog ops Q (o :: rest) a w := by
 refine wpListIn_plain hg fun K' hK' => ?_
 obtain ⟨w', hrun, r1, r2, r3⟩ := h.range ht
 unfold Oper.wpIn
 refine ⟨by simp [Oper.about, hop], ?_⟩
 rw [Oper.semAt_plain F _ _ (by rw [hop]; intro c hc'; cases hc')]
 simp [execOp, hop, hm, hrun, Result.andThen]
 exact hK' _ _ (hK w' r1 r2 r3)
theorem wpListIn_mnext {ops : Array Oper} {rest : List Oper} {o : Oper} {a : Act} {Q : Exit → Act → World → Prop} (hg : o.guard = none) (it : Operand) (hop : o.op = Op.next it false) (K : KeyT k kv) (hit : a.eval it = .pointer (some ⟨r, 0, none⟩)) (h : MpRg kv w m r M left)
  (hDone : left = [] → wpListIn F n Tryz.prog ops Q rest (a.put o.dst (.tuple #[.bool false])) w)
  (hMore : ∀ (x : κ × Value) (left' : List (κ × Value)) (w' : World), x ∈ M → left.Perm (x :: left') → MpRg kv w' m r M left' → Tch w w' [r] → w'.heap.size = w.heap.size → (Instr.entry (.pointer (some ⟨r, 0, none⟩))).run Tryz.prog w' = .ok (.tuple #[kv x.1, x.2]) w' →
   wpListIn F n Tryz.prog ops Q rest (a.put o.dst (.tuple #[.bool true, kv x.1, x.2])) w') : wpListIn F n Tryz.prog ops Q (o :: rest) a w := by
 refine wpListIn_plain hg fun K' hK' => ?_
 unfold Oper.wpIn
 refine ⟨by simp [Oper.about, hop], ?_⟩
 rw [Oper.semAt_plain F _ _ (by rw [hop]; intro c hc'; cases hc')]
 rcases h.next K o.type with ⟨h0, hrun⟩ | ⟨x, left', w', hx, hp, hrun, r1, r2, r3, r4⟩
 ·simp [execOp, hop, hit, hrun, Result.andThen]
  exact hK' _ _ (hDone h0)
 ·simp [execOp, hop, hit, hrun, Result.andThen]
  exact hK' _ _ (hMore x left' w' hx hp r1 r2 r3 r4)
end
theorem keys1_in (F : Fence) (n : Nat) (h10 : F.fn 101) (hro : F.round = none) (hn : 1 ≤ n) (l Bm m : Nat) (M : List (PfI × Value)) (J Jx : List PfI → World → Prop)
  (hY : ∀ pre x W, J pre W → pre.length < M.length → YieldAt F (n - 1) Tryz.prog l #[pfR x] W fun e W' => (e = .returned (.bool true) ∧ J (pre ++ [x]) W' ∧ KeepsWalks W W') ∨ (e = .returned (.bool false) ∧ Jx (pre ++ [x]) W'))
  (W : World) (hJ : AbidesFrom W.heap.size J) (hm : W.cell? ⟨Bm, 0, none⟩ = some (.map (some m))) (hown : MpIs (fun p => pfR p) W m M) (h0 : J [] W) :
  CallsIn F n Tryz.prog 101 #[.func (.yield l) #[] #[], .pointer (some ⟨Bm, 0, none⟩)] W fun e W' => (∃ v, e = .returned v) ∧ ((∃ ss, ss.Perm (M.map Prod.fst) ∧ J ss W') ∨ (∃ pre, True ∧ Jx pre W')) := by
 refine callsIn_of_wp Tryz.func101 rfl h10 ?_ hro
 simp only [Tryz.ntmps101, List.size_toArray, List.length_cons, List.length_nil, Nat.reduceAdd, Nat.reduceSub, Array.replicate_succ, Array.replicate_zero, List.push_toArray, List.append_toArray, List.nil_append, List.cons_append]
 gi_wp2_with (first
  | (gi_at_range; refine wpListIn_mrange (k := 30) rfl (.tmp 4) 121 rfl 118 Tryz.underlying121 rfl hown ?_; intro w0 hrg0 hT0 hs0)
  | gi_in)
 go_frame
 gi_loopw [3] (fun _ wr => ∃ (left : List (PfI × Value)) (ss : List PfI), MpRg (fun p => pfR p) wr m W.heap.size M left ∧ (ss ++ left.map Prod.fst).Perm (M.map Prod.fst) ∧ J ss wr)
  (fun _ wr => wr.rangeLeft m W.heap.size)
 case atStart =>
  exact ⟨M, [], hrg0, List.Perm.refl _, hJ [] W w0 none h0 (grown_of_tch0 hT0) (fun r e => by cases e)⟩
 case round =>
  obtain ⟨left, ss, hrg, hC, hJs⟩ := hrel
  gi_wp2_with (first
   | (gi_at_next; refine wpListIn_mnext rfl (.tmp 5) rfl keyPf rfl hrg (fun hd => ?_) (fun x left' w2 hx hp hrg2 hT2 hs2 hen => ?_))
   | gi_in)
  ·gi_wp2
   go_end0
   exact ⟨⟨_, rfl⟩, .inl ⟨ss, by rw [hd] at hC; simpa using hC, hJs⟩⟩
  ·obtain ⟨⟨⟨xs, xh, xl⟩, xn⟩, v⟩ := x
   have hT3 := (Tch.refl w2 []).alloc (.cells #[.bool xs, .int .u64 (xh : Int), .int .u64 (xl : Int), .int .i64 xn] 30)
   have hJ2 : J ss w2 := hJ ss wr w2 (some W.heap.size) hJs (grown_of_tch hT2) (fun r e => by cases e; exact ⟨Nat.le_refl _, hrg.iter_walk⟩)
   have hJ3 : J ss (w2.alloc (.cells #[.bool xs, .int .u64 (xh : Int), .int .u64 (xl : Int), .int .i64 xn] 30)) := hJ ss w2 _ none hJ2 (grown_of_tch0 hT3) (fun r e => by cases e)
   have hln : ss.length < M.length := by
    have h1 := hC.length_eq
    rw [List.length_append, List.length_map, List.length_map, hp.length_eq, List.length_cons] at h1
    omega
   have hrg3 := hrg2.tch hT3 (by simp) (by simp)
   have hC2 : ((ss ++ [((xs, xh, xl), xn)]) ++ left'.map Prod.fst).Perm (M.map Prod.fst) := by
    rw [List.append_assoc]
    exact ((hp.map Prod.fst).symm.append_left ss).trans hC
   obtain ⟨fn, tmps, assign, body, hy, hR⟩ := hY ss ((xs, xh, xl), xn) _ hJ3 hln
   have bX := Blk.new w2 30 #[.bool xs, .int .u64 (xh : Int), .int .u64 (xl : Int), .int .i64 xn]
   obtain ⟨x0, x1, x2, x3⟩ := bX.c4
   clear hs2 hT2 hT3 bX hx
   gi_wp2
   refine hR.mono ?_
   rintro e W3 (⟨rfl, hJ4, hk4⟩ | ⟨rfl, hJx⟩)
   ·gi_wp2
    have hrg4 := hrg3.of_walks hk4
    go_roundw
    case rel => exact ⟨left', _, hrg4, hC2, hJ4⟩
    case measure => rw [hrg4.left_len, hrg.left_len, hp.length_eq]; simp
   ·gi_wp2
    refine bodyPost_ret (results_none rfl _ _ _) rfl ?_
    exact ⟨⟨_, rfl⟩, .inr ⟨_, trivial, hJx⟩⟩
theorem keys_stops (F : Fence) (n : Nat) (h10 : F.fn 101) (hro : F.round = none) (hn : 1 ≤ n) (Bm m : Nat) (M : List (PfI × Value)) (w : World) (hBm : Bm < w.heap.size) (hm : w.cell? ⟨Bm, 0, none⟩ = some (.map (some m))) (hown : MpIs (fun p => pfR p) w m M) :
  SeqStopsK F n Tryz.prog 101 #[.pointer (some ⟨Bm, 0, none⟩)] (fun p : PfI => #[pfR p]) KeepsWalks (fun ss => ss.Perm (M.map Prod.fst)) (fun _ => True) M.length w := fun l J Jx W hW hJ _ hY h0 =>
 keys1_in F n h10 hro hn l Bm m M J Jx hY W hJ ((hW.cell (p := ⟨Bm, 0, none⟩) hBm).trans hm) (hown.tch (Tch.of_below [] hW) (by simp)) h0
theorem keysP (m : Nat) (w : World) : Calls Tryz.prog 57 #[.map (some m)] w fun e w' => e = .returned (.func (.func 101) #[] #[.pointer (some ⟨w.heap.size, 0, none⟩)]) ∧ w' = w.alloc (.cells #[.map (some m)] 121) := by
 go_enter Tryz.func57, Tryz.ntmps57
 go_wp2
 go_ret
 exact ⟨rfl, rfl⟩
end Go.Proofs.YtgfkmgbcajdcdaaGreatDoor

namespace Go.Proofs.YtgfkmgbcajdcdaaGreatDoor
open Go.RowKit Go.Shelf
set_option linter.unusedSectionVars false
attribute [local go_sem] Oper.semAt_some

def CoI (w : World) (Bs : Nat) (ss : List PfI) (W : World) : Prop :=
 (∃ v, Boxed W Bs 40 v ∧ W.ownsRow w.heap.size 30 4 v ss.length (ss.flatMap pfC) ∧ (v = .slice none 0 0 ↔ ss = [])) ∧ Below w.heap.size w W
theorem CoI.own (w : World) (Bs B : Nat) (hB : w.heap.size ≤ B) : OwnFrom B (CoI w Bs) :=
 OwnFrom.and (Own.from (holdsRow_own _ _ _ _ 4 (fun ss : List PfI => ss.length) (fun ss : List PfI => ss.flatMap pfC) (fun ss v => v = .slice none 0 0 ↔ ss = [])) _) (ownFrom_below (Nat.le_refl _) hB)
def CoX (Bs : Nat) (f : Nat → Act) (x : PfI) (a : Act) (W : World) : Prop :=
 ∃ Bx, Bs < Bx ∧ W.heap[Bx]? = some (.cells (pfC x).toArray 30 (0, 0)) ∧ a = f Bx
theorem CoX.own (Bs B : Nat) (f : Nat → Act) (x : PfI) (a : Act) : OwnFrom B (fun (_ : Unit) W => CoX Bs f x a W) := by
 rintro _ X Y row ⟨Bx, h1, h2, h3⟩ hg hr
 refine ⟨Bx, h1, (hg.block Bx (Array.getElem?_eq_some_iff.1 h2).1 (fun e => ?_)).trans h2, h3⟩
 obtain ⟨_, o, ho, hc⟩ := hr Bx e.symm
 rw [h2] at ho; cases ho; cases hc
theorem pfInfo : (Tryz.prog.info? 30).map (fun i => (i.zero, i.size, i.bytes)) = some (some (.agg #[.bool false, .int .u64 0, .int .u64 0, .int .i64 0]), 4, 32) := by kernel_rfl
theorem appSeq_in (F : Fence) (n : Nat) (h11 : F.fn 140) (hro : F.round = none) (hn : 2 ≤ n) (g : Nat) (lb : Array Value) (hFg : F.fn g) (eg : ∀ args w, (callFunc g args).run Tryz.prog w = .ok (.enter g args) w)
  (S : List PfI → Prop) (N : Nat) (hN : N ≤ 100000) (w : World) (hseq : SeqStopsK F (n - 1) Tryz.prog g lb (fun p : PfI => #[pfR p]) KeepsWalks S (fun _ => True) N w) :
  CallsIn F n Tryz.prog 140 #[.slice none 0 0, .func (.func g) #[] lb] w fun e w' => ∃ (v : Value) (ss : List PfI), e = .returned v ∧ S ss ∧ w'.ownsRow w.heap.size 30 4 v ss.length (ss.flatMap pfC) ∧ (v = .slice none 0 0 ↔ ss = []) ∧ Below w.heap.size w w' := by
 have h1 : 1 ≤ n := by omega
 obtain ⟨i0, hi, hz0, hz1, hz2⟩ := info_parts pfInfo
 refine callsIn_of_wp_marks Tryz.func140 rfl h11 ?_ hro
 simp only [Tryz.ntmps140, List.size_toArray, List.length_cons, List.length_nil, Nat.reduceAdd, Nat.reduceSub, Array.replicate_succ, Array.replicate_zero, List.push_toArray, List.append_toArray, List.nil_append, List.cons_append]
 gi_wp2
 have bS := Boxed.new w 40 (.slice none 0 0)
 have hB0 : Below w.heap.size w (w.alloc (.cells #[.slice none 0 0] 40)) := (Below.refl _ w).alloc (Nat.le_refl _) _
 have hsz : (w.alloc (.cells #[.slice none 0 0] 40)).heap.size = w.heap.size + 1 := by simp
 obtain ⟨W0, hW0⟩ : ∃ W0, w.alloc (.cells #[.slice none 0 0] 40) = W0 := ⟨_, rfl⟩
 rw [hW0] at bS hB0 hsz ⊢
 clear hW0
 refine wpIn_rangeFunc_ownH hro h1 (gf := g) (lb := lb) rfl hFg eg hseq walksK_t (fun W l o o' hl h h2 h3 => walksK_b (w := W0) W l o o' hl h h2 h3) hB0 (fun _ => rfl)
  (CoI w w.heap.size) (fun _ _ _ => False) (CoI.own w _ _ (by omega)) (fun _ _ _ _ _ hs _ _ => hs)
  ⟨⟨_, bS, ⟨rfl, .inl ⟨rfl, rfl⟩⟩, by simp⟩, hB0⟩
  (fun x a' W => CoX w.heap.size (fun Bx => { tmps := #[.slice none 0 0, .func (.func g) #[] lb, .pointer (some ⟨w.heap.size, 0, none⟩), undef, .slice none 0 0, .pointer (some ⟨Bx, 0, none⟩), .func (.func g) #[] lb, pfR x, undef, undef, undef, undef, undef], defers := [] }) x a' W)
  (fun x a' => CoX.own _ _ _ x a')
  ?assign ?body ?done ?stop
 case assign =>
  rintro l pre ⟨⟨xs, xh, xl⟩, xn⟩ W K hI hK
  gi_wp2
  exact hK _ _ ((KeepsOthers.alloc _ _).from _) (KeepsWalks.alloc _ _) ((CoI.own w _ _ (Nat.le_refl _)).alloc _ hI) ⟨W.heap.size, by obtain ⟨⟨v, hv, _⟩, _⟩ := hI; exact hv.lt, World.alloc_heap_new W _, rfl⟩
 case body =>
  rintro l pre ⟨⟨xs, xh, xl⟩, xn⟩ a' W hl ⟨r, hr⟩ ⟨⟨v, bV, hrow, hnil⟩, hBW⟩ ⟨Bx, hBx, hX, rfl⟩ hlt
  have cV := bV.cell
  have bX : Blk W Bx 30 (pfC ((xs, xh, xl), xn)).toArray := hX
  have bX' : Blk W Bx 30 #[.bool xs, .int .u64 (xh : Int), .int .u64 (xl : Int), .int .i64 xn] := bX
  obtain ⟨x0, x1, x2, x3⟩ := bX'.c4
  have hne : 40 ≠ 30 := by decide
  clear hX bX bX'
  gi_wp2_with (first
   | (gi_at_builtin; refine wpListIn_append_own _ rfl _ _ 40 rfl w.heap.size 30 i0 (.agg #[.bool false, .int .u64 0, .int .u64 0, .int .i64 0]) 4 32 Tryz.underlying40 hi hz0 hz1 hz2 rfl (by decide) _ _ _ rfl (hrow.alloc _) ⟨W.heap.size, 0, none⟩ 1 1 (pfC ((xs, xh, xl), xn)) rfl rfl (src_new W _ _) (by intro u hu; simp [pfC] at hu; rcases hu with rfl | rfl | rfl | rfl <;> rfl) (by simp only [maxLen]; omega) (by omega) (by have := hBW.size; simp; omega) ?_; intro v' w3 hown' hg3 hnil3; obtain ⟨bV1, bV2, hr2, hko, hb2⟩ := bV.appended hne hrow hBW.size (Nat.le_refl _) hown' hg3; obtain ⟨g', cap', rfl⟩ := ownsRow_succ hown'; have cV1 := bV1.cell; have fV1 := bV1.frozen)
   | gi_in)
  exact ⟨hko.from _, hko.walks, ⟨_, bV2, by simpa [List.flatMap_append] using hr2, by simp⟩, hBW.trans hb2⟩
 case done =>
  rintro D ss W hD hS ⟨⟨v, bV, hrow, hnil⟩, hBW⟩ hK
  have cV := bV.cell
  gi_wp2
  refine ⟨by simp, .inl ⟨_, _, rfl, run_takeDeferred hK, ?_⟩⟩
  have hnD : ∀ k, v.ownBlock = some k → D ≠ k := by
   rintro k hk rfl
   rcases hrow.2 with ⟨rfl, _⟩ | ⟨g, cap, cur, rfl, _, hgb, _⟩
   ·simp [Value.ownBlock] at hk
   ·have : g = D := by simpa [Value.ownBlock] using hk
    subst this; rw [hgb] at hK; cases hK
  exact ⟨_, results_tmp rfl _ _ _, v, ss, rfl, hS, hrow.kept (grownBy_putObj' _ _ _) (.inr fun e => hnD D e rfl), hnil, hBW.grown (grownBy_putObj' _ _ _) hBW.size (fun k e => by cases e; omega)⟩
 case stop =>
  rintro D c pre W _ _ h _
  exact h.elim
theorem collect_in (F : Fence) (n : Nat) (h8 : F.fn 100) (h11 : F.fn 140) (hro : F.round = none) (hn : 3 ≤ n) (g : Nat) (lb : Array Value) (hFg : F.fn g) (eg : ∀ args w, (callFunc g args).run Tryz.prog w = .ok (.enter g args) w)
  (S : List PfI → Prop) (N : Nat) (hN : N ≤ 100000) (w : World) (hseq : SeqStopsK F (n - 1 - 1) Tryz.prog g lb (fun p : PfI => #[pfR p]) KeepsWalks S (fun _ => True) N w) :
  CallsIn F n Tryz.prog 100 #[.func (.func g) #[] lb] w fun e w' => ∃ (v : Value) (ss : List PfI), e = .returned v ∧ S ss ∧ w'.ownsRow w.heap.size 30 4 v ss.length (ss.flatMap pfC) ∧ (v = .slice none 0 0 ↔ ss = []) ∧ Below w.heap.size w w' := by
 have h1 : 1 ≤ n := by omega
 refine callsIn_of_wp Tryz.func100 rfl h8 ?_ hro
 simp only [Tryz.ntmps100, List.size_toArray, List.length_cons, List.length_nil, Nat.reduceAdd, Nat.reduceSub, Array.replicate_succ, Array.replicate_zero, List.push_toArray, List.append_toArray, List.nil_append, List.cons_append]
 gi_wp2_with (gi_at_call 140; refine (appSeq_in F (n - 1) h11 hro (by omega) g lb hFg eg S N hN _ hseq).mono ?_; rintro e w' ⟨v, ss, rfl, hS, hrow, hnil, hb⟩)
 go_ret
 exact ⟨v, ss, rfl, hS, hrow, hnil, hb⟩
theorem collectP (Bm m : Nat) (M : List (PfI × Value)) (hM : M.length ≤ 100000) (w : World) (hBm : Bm < w.heap.size) (hm : w.cell? ⟨Bm, 0, none⟩ = some (.map (some m))) (hown : MpIs (fun p => pfR p) w m M) :
  Calls Tryz.prog 100 #[.func (.func 101) #[] #[.pointer (some ⟨Bm, 0, none⟩)]] w fun e w' => ∃ (v : Value) (ss : List PfI), e = .returned v ∧ ss.Perm (M.map Prod.fst) ∧ w'.ownsRow w.heap.size 30 4 v ss.length (ss.flatMap pfC) ∧ (v = .slice none 0 0 ↔ ss = []) ∧ Below w.heap.size w w' :=
 callsIn_wide.1 (collect_in Fence.wide 5 trivial trivial rfl (by decide) _ _ trivial (enters_of Tryz.func101 (by kernel_rfl) rfl) _ _ hM w (keys_stops Fence.wide _ trivial rfl (by decide) Bm m M w hBm hm hown))
end Go.Proofs.YtgfkmgbcajdcdaaGreatDoor

namespace Go.Proofs
open Go.Shelf
def Tryz.sortA_ren : Go.Shelf.Ren := ⟨fun | 6 => 94 | 15 => 108 | 14 => 138 | 28 => 151 | 29 => 152 | 20 => 177 | 21 => 178 | 22 => 179 | 23 => 180 | 24 => 181 | 25 => 182 | 26 => 183 | 27 => 184 | 46 => 202 | 47 => 186 | 48 => 187 | 49 => 203 | 50 => 204 | 57 => 207 | n => n, fun | 22 => 40 | 24 => 30 | 25 => 128 | 3 => 3 | 39 => 182 | 0 => 0 | 53 => 215 | 55 => 26 | 4 => 4 | 46 => 208 | 45 => 207 | 50 => 212 | 5 => 5 | 9 => 9 | 66 => 243 | 70 => 247 | 76 => 264 | 77 => 265 | n => n, fun | n => n⟩
theorem Tryz.sortA : Go.Proofs.SlLaysF0.n6 Tryz.prog Tryz.sortA_ren := {
 mixed := by kernel_rfl
 f6 := ⟨Tryz.f94.name, by decide, Tryz.func94.trans (congrArg some (by kernel_rfl))⟩
 f14 := ⟨Tryz.f138.name, by decide, Tryz.func138.trans (congrArg some (by kernel_rfl))⟩
 f15 := Tryz.func108.trans (congrArg some (by kernel_rfl))
 f20 := ⟨Tryz.f177.name, by decide, Tryz.func177.trans (congrArg some (by kernel_rfl))⟩
 f21 := ⟨Tryz.f178.name, by decide, Tryz.func178.trans (congrArg some (by kernel_rfl))⟩
 f22 := ⟨Tryz.f179.name, by decide, Tryz.func179.trans (congrArg some (by kernel_rfl))⟩
 f23 := ⟨Tryz.f180.name, by decide, Tryz.func180.trans (congrArg some (by kernel_rfl))⟩
 f24 := ⟨Tryz.f181.name, by decide, Tryz.func181.trans (congrArg some (by kernel_rfl))⟩
 f25 := ⟨Tryz.f182.name, by decide, Tryz.func182.trans (congrArg some (by kernel_rfl))⟩
 f26 := ⟨Tryz.f183.name, by decide, Tryz.func183.trans (congrArg some (by kernel_rfl))⟩
 f27 := ⟨Tryz.f184.name, by decide, Tryz.func184.trans (congrArg some (by kernel_rfl))⟩
 f28 := Tryz.func151.trans (congrArg some (by kernel_rfl))
 f29 := Tryz.func152.trans (congrArg some (by kernel_rfl))
 f46 := ⟨Tryz.f202.name, by decide, Tryz.func202.trans (congrArg some (by kernel_rfl))⟩
 f47 := Tryz.func186.trans (congrArg some (by kernel_rfl))
 f48 := Tryz.func187.trans (congrArg some (by kernel_rfl))
 f49 := ⟨Tryz.f203.name, by decide, Tryz.func203.trans (congrArg some (by kernel_rfl))⟩
 f50 := ⟨Tryz.f204.name, by decide, Tryz.func204.trans (congrArg some (by kernel_rfl))⟩
 f57 := ⟨Tryz.f207.name, by decide, Tryz.func207.trans (congrArg some (by kernel_rfl))⟩
 t0 := Tryz.underlying0
 a0 := Tryz.isAgg0
 z0 := Tryz.sizeOf0
 v0 := Tryz.zeroValue0
 t3 := Tryz.underlying3
 a3 := Tryz.isAgg3
 z3 := Tryz.sizeOf3
 v3 := Tryz.zeroValue3
 t4 := Tryz.underlying4
 a4 := Tryz.isAgg4
 z4 := Tryz.sizeOf4
 v4 := Tryz.zeroValue4
 t5 := Tryz.underlying5
 a5 := Tryz.isAgg5
 z5 := Tryz.sizeOf5
 v5 := Tryz.zeroValue5
 t9 := Tryz.underlying9
 a9 := Tryz.isAgg9
 z9 := Tryz.sizeOf9
 v9 := Tryz.zeroValue9
 t22 := Tryz.underlying40
 a22 := Tryz.isAgg40
 z22 := Tryz.sizeOf40
 v22 := Tryz.zeroValue40
 t25 := Tryz.underlying128
 a25 := Tryz.isAgg128
 z25 := Tryz.sizeOf128
 v25 := Tryz.zeroValue128
 t39 := Tryz.underlying182
 a39 := Tryz.isAgg182
 z39 := Tryz.sizeOf182
 v39 := Tryz.zeroValue182
 t45 := Tryz.underlying207
 a45 := Tryz.isAgg207
 z45 := Tryz.sizeOf207
 v45 := Tryz.zeroValue207
 t46 := Tryz.underlying208
 a46 := Tryz.isAgg208
 z46 := Tryz.sizeOf208
 v46 := Tryz.zeroValue208
 t50 := Tryz.underlying212
 a50 := Tryz.isAgg212
 z50 := Tryz.sizeOf212
 v50 := Tryz.zeroValue212
 t53 := Tryz.underlying215
 a53 := Tryz.isAgg215
 z53 := Tryz.sizeOf215
 v53 := Tryz.zeroValue215
 t55 := Tryz.underlying26
 a55 := Tryz.isAgg26
 z55 := Tryz.sizeOf26
 v55 := Tryz.zeroValue26
 t66 := Tryz.underlying243
 a66 := Tryz.isAgg243
 z66 := Tryz.sizeOf243
 v66 := Tryz.zeroValue243
 t70 := Tryz.underlying247
 a70 := Tryz.isAgg247
 z70 := Tryz.sizeOf247
 v70 := Tryz.zeroValue247
 t76 := Tryz.underlying264
 a76 := Tryz.isAgg264
 z76 := Tryz.sizeOf264
 v76 := Tryz.zeroValue264
 t77 := Tryz.underlying265
 a77 := Tryz.isAgg265
 z77 := Tryz.sizeOf265
 v77 := Tryz.zeroValue265 }
end Go.Proofs
