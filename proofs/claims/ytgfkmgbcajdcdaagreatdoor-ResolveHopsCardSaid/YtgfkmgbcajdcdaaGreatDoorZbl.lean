/-
  Several texts in one: RbL, RbDo, IfDd, RxF.
-/
import Derived.Test.YtgfkmgbcajdcdaaGreatDoorZbj
import Derived.Test.YtgfkmgbcajdcdaaGreatDoorZbk
import Derived.Test.YtgfkmgbcajdcdaaGreatDoorZbd
import Derived.Test.YtgfkmgbcajdcdaaGreatDoorZbg
import Derived.Test.YtgfkmgbcajdcdaaGreatDoorZaz
import Derived.Test.YtgfkmgbcajdcdaaGreatDoorZaa
set_option linter.unusedVariables false
set_option maxRecDepth 100000
set_option maxHeartbeats 16000000
namespace Go.Proofs.YtgfkmgbcajdcdaaGreatDoor
open Go.RowKit

theorem put_bad (t : Nat) (S : List Nat) (L : List TdI) (p : PfI) (x : PaI) (hp : N64 p.1.2.1 ∧ N64 p.1.2.2) (hx : N64 x.2.2.1.2.1 ∧ N64 x.2.2.1.2.2) (hr : rightI p x = false) (w : World) (h : RbD w t S L) :
  Calls Tryz.prog 88 #[.pointer (some ⟨t, 0, none⟩), pfR p, paR x] w fun e w' => e = .returned (.int .i64 140) ∧ Tch w w' [] := by
 have HRi := lH (fun W => rightD p x hp hx W)
 rw [hr] at HRi
 obtain ⟨⟨ps, ph, pl⟩, pb⟩ := p
 obtain ⟨pr, me, ⟨vs, vh, vl⟩, po, aw⟩ := x
 have HT2 : Hid (∀ (o o' : Obj), Tch w ((w.alloc o).alloc o') []) := lH (fun o o' => ((Tch.refl w []).alloc _).alloc _)
 clear hr hp hx
 go_enter Tryz.func88, Tryz.ntmps88
 go_wp2_with fail
 refine cZm (HRi.out _) ?_
 rintro e W3 ⟨rfl, hT3⟩
 have HT3 := lH ((HT2.out _ _).trans hT3)
 clear hT3
 go_wp2
 go_ret
 exact ⟨rfl, HT3.out⟩
theorem put_full (t : Nat) (S : List Nat) (L : List TdI) (hL : L.length ≤ 1000) (p : PfI) (x : PaI) (hp : N64 p.1.2.1 ∧ N64 p.1.2.2) (hx : N64 x.2.2.1.2.1 ∧ N64 x.2.2.1.2.2) (hr : rightI p x = true) (hw : wayI L p x = 0)
  (hf : 4 ≤ (pathsI L p).length ∨ ((pathsI L p).length = 0 ∧ 90 ≤ (prefsI L).length)) (w : World) (h : RbD w t S L) :
  Calls Tryz.prog 88 #[.pointer (some ⟨t, 0, none⟩), pfR p, paR x] w fun e w' => e = .returned (.int .i64 141) ∧ Tch w w' [] := by
 have HRi := lH (fun W => rightD p x hp hx W)
 rw [hr] at HRi
 have HWay := lH (fun W (hT : Tch w W []) => wayD t S L hL p x W (h.tch hT (by simp)))
 rw [show ((wayI L p x : Nat) : Int) - 1 = (-1 : Int) by omega] at HWay
 have HPa := lH (fun W (hT : Tch w W []) => pathsD t S L hL p W (h.tch hT (by simp)))
 have HPf := lH (fun W (hT : Tch w W []) => prefsD t S L hL W (h.tch hT (by simp)))
 obtain ⟨m, hm⟩ : ∃ m, (pathsI L p).length = m := ⟨_, rfl⟩
 obtain ⟨q, hq⟩ : ∃ q, (prefsI L).length = q := ⟨_, rfl⟩
 rw [hm] at HPa hf
 rw [hq] at HPf hf
 have HF := lH hf
 obtain ⟨⟨ps, ph, pl⟩, pb⟩ := p
 obtain ⟨pr, me, ⟨vs, vh, vl⟩, po, aw⟩ := x
 obtain ⟨xb, hxb⟩ : ∃ xb, w.heap.size = xb := ⟨_, rfl⟩
 obtain ⟨W2, hW2⟩ : ∃ W2, (w.alloc (.cells #[.bool ps, .int .u64 (ph : Int), .int .u64 (pl : Int), .int .i64 pb] 30)).alloc (.cells #[.int .i64 pr, .int .i64 me, .bool vs, .int .u64 (vh : Int), .int .u64 (vl : Int), .int .i64 po, .bool aw] 49) = W2 := ⟨_, rfl⟩
 obtain ⟨yb, hyb⟩ : ∃ yb, xb + 1 = yb := ⟨_, rfl⟩
 have HX : Hid (Blk W2 xb 30 #[.bool ps, .int .u64 (ph : Int), .int .u64 (pl : Int), .int .i64 pb]) := lH (hW2 ▸ hxb ▸ (Blk.new w _ _).alloc _)
 have HY : Hid (Blk W2 yb 49 #[.int .i64 pr, .int .i64 me, .bool vs, .int .u64 (vh : Int), .int .u64 (vl : Int), .int .i64 po, .bool aw]) := lH (by
  have := Blk.new (w.alloc (.cells #[.bool ps, .int .u64 (ph : Int), .int .u64 (pl : Int), .int .i64 pb] 30)) 49 #[.int .i64 pr, .int .i64 me, .bool vs, .int .u64 (vh : Int), .int .u64 (vl : Int), .int .i64 po, .bool aw]
  rw [zA, hxb, hyb, hW2] at this
  exact this)
 have HT2 : Hid (Tch w W2 []) := lH (hW2 ▸ ((Tch.refl w []).alloc _).alloc _)
 have HW2 := lH (And.intro hW2 (And.intro hxb hyb))
 clear hW2 hxb hyb h hL hp hx hr hw hm hq hf
 go_enter Tryz.func88, Tryz.ntmps88
 go_wp2_with fail
 rw [HW2.out.1]
 refine cZm (HRi.out _) ?_
 rintro e W3 ⟨rfl, hT3⟩
 try rw [HW2.out.2.1]
 try rw [HW2.out.2.2]
 have HX3 := lH (hT3.blk HX.out (by simp))
 have HY3 := lH (hT3.blk HY.out (by simp))
 have HT3 := lH (HT2.out.trans hT3)
 obtain ⟨x0, x1, x2, x3⟩ := HX3.out.c4
 obtain ⟨y0, y1, y2, y3, y4, y5, y6⟩ := HY3.out.c7
 clear hT3
 go_wp2_with fail
 refine cZm (HWay.out _ HT3.out) ?_
 rintro e W4 ⟨rfl, hT4⟩
 have HX4 := lH (hT4.blk HX3.out (by simp))
 have HT4 := lH (HT3.out.trans hT4)
 clear hT4 x0 x1 x2 x3 y0 y1 y2 y3 y4 y5 y6
 obtain ⟨z0, z1, z2, z3⟩ := HX4.out.c4
 go_wp2_with fail
 refine cZm (HPa.out _ HT4.out) ?_
 rintro e W6 ⟨A6, c6, rfl, -, hT6⟩
 have HT6 := lH (HT4.out.trans hT6)
 clear hT6 z0 z1 z2 z3
 by_cases h4 : 4 ≤ m
 ·have m4 : (4 : Int) ≤ (m : Int) := by omega
  go_wp2
  go_ret
  exact ⟨rfl, HT6.out⟩
 ·obtain ⟨h0, h9⟩ : m = 0 ∧ 90 ≤ q := by have := HF.out; omega
  subst h0
  have q9 : (90 : Int) ≤ (q : Int) := by omega
  clear h4
  go_wp2_with fail
  refine cZm (HPf.out _ HT6.out) ?_
  rintro e W7 ⟨A7, c7, rfl, -, hT7⟩
  have HT7 := lH (HT6.out.trans hT7)
  clear hT7
  go_wp2
  go_ret
  exact ⟨rfl, HT7.out⟩
theorem putD (t : Nat) (S : List Nat) (L : List TdI) (hL : L.length ≤ 1000) (p : PfI) (x : PaI) (hp : N64 p.1.2.1 ∧ N64 p.1.2.2) (hx : N64 x.2.2.1.2.1 ∧ N64 x.2.2.1.2.2) (w : World) (h : RbD w t S L) :
  Calls Tryz.prog 88 #[.pointer (some ⟨t, 0, none⟩), pfR p, paR x] w fun e w' => e = .returned (.int .i64 (putR L p x).2) ∧ ∃ S', RbD w' t S' (putR L p x).1 ∧ Goes w w' S S' := by
 have same : ∀ {e : Ending} {w' : World} {n : Int}, (e = .returned (.int .i64 n) ∧ Tch w w' []) → e = .returned (.int .i64 n) ∧ ∃ S', RbD w' t S' L ∧ Goes w w' S S' := fun hh => ⟨hh.1, S, h.tch hh.2 (by simp), Goes.of_tch (hh.2.mono (by simp))⟩
 by_cases hr : rightI p x = false
 ·have e : putR L p x = (L, 140) := by unfold putR; rw [if_pos hr]
  rw [e]
  exact cZm (put_bad t S L p x hp hx hr w h) (fun e w' hh => same hh)
 ·have hr1 : rightI p x = true := by simpa using hr
  by_cases hw : wayI L p x = 0
  ·by_cases hf : 4 ≤ (pathsI L p).length ∨ ((pathsI L p).length = 0 ∧ 90 ≤ (prefsI L).length)
   ·have e : putR L p x = (L, 141) := by unfold putR; rw [if_neg hr, if_neg (by simpa using hw), if_pos hf]
    rw [e]
    exact cZm (put_full t S L hL p x hp hx hr1 hw hf w h) (fun e w' hh => same hh)
   ·have e : putR L p x = (insI L (p, x), 0) := by unfold putR; rw [if_neg hr, if_neg (by simpa using hw), if_neg hf]
    rw [e]
    by_cases h0 : (pathsI L p).length = 0
    ·exact put_first t S L hL p x hp hx hr1 hw h0 (by omega) w h
    ·exact put_more t S L hL p x hp hx hr1 hw (by omega) (by omega) w h
  ·have e : putR L p x = (insI (L.eraseIdx (wayI L p x - 1)) (p, x), 0) := by unfold putR; rw [if_neg hr, if_pos hw]
   rw [e]
   exact put_old t S L hL p x hp hx (wayI L p x - 1) hr1 (by omega) w h
end Go.Proofs.YtgfkmgbcajdcdaaGreatDoor

namespace Go.Proofs.YtgfkmgbcajdcdaaGreatDoor
open Go.RowKit

theorem does_any (t : Nat) (S : List Nat) (L : List TdI) (x : StpR) (hx : x.ok) (hL : L.length ≤ 1000) (w : World) (h : RbD w t S L) :
  Calls Tryz.prog 45 #[.pointer (some ⟨t, 0, none⟩), srV x] w fun e w' => e = .returned (.tuple #[.int .i64 (doR L x).2.1, .int .i64 (doR L x).2.2]) ∧ ∃ S', RbD w' t S' (doR L x).1 ∧ Goes w w' S S' := by
 obtain ⟨wh, ⟨⟨ps, ph, pl⟩, pb⟩, pr, me, ⟨vs, vh, vl⟩, po, aw⟩ := x
 obtain ⟨o1, o2, o3⟩ := hx
 have o2 : PfOk ((ps, ph, pl), pb) := o2
 have o3 : PaOk (pr, me, (vs, vh, vl), po, aw) := o3
 obtain ⟨xb, hxb⟩ : ∃ xb, w.heap.size = xb := ⟨_, rfl⟩
 obtain ⟨W0, hW0⟩ : ∃ W, w.alloc (.cells #[.int .i64 wh, .bool ps, .int .u64 (ph : Int), .int .u64 (pl : Int), .int .i64 pb, .int .i64 pr, .int .i64 me, .bool vs, .int .u64 (vh : Int), .int .u64 (vl : Int), .int .i64 po, .bool aw] 107) = W := ⟨_, rfl⟩
 have hX : Blk W0 xb 107 #[.int .i64 wh, .bool ps, .int .u64 (ph : Int), .int .u64 (pl : Int), .int .i64 pb, .int .i64 pr, .int .i64 me, .bool vs, .int .u64 (vh : Int), .int .u64 (vl : Int), .int .i64 po, .bool aw] := hW0 ▸ hxb ▸ Blk.new _ _ _
 have x0 := (hX.cell 0).trans (show _ = some (Value.int .i64 wh) by rfl)
 have x1 := (hX.cell 1).trans (show _ = some (Value.bool ps) by rfl)
 have x2 := (hX.cell 2).trans (show _ = some (Value.int .u64 (ph : Int)) by rfl)
 have x3 := (hX.cell 3).trans (show _ = some (Value.int .u64 (pl : Int)) by rfl)
 have x4 := (hX.cell 4).trans (show _ = some (Value.int .i64 pb) by rfl)
 have x5 := (hX.cell 5).trans (show _ = some (Value.int .i64 pr) by rfl)
 have x6 := (hX.cell 6).trans (show _ = some (Value.int .i64 me) by rfl)
 have x7 := (hX.cell 7).trans (show _ = some (Value.bool vs) by rfl)
 have x8 := (hX.cell 8).trans (show _ = some (Value.int .u64 (vh : Int)) by rfl)
 have x9 := (hX.cell 9).trans (show _ = some (Value.int .u64 (vl : Int)) by rfl)
 have x10 := (hX.cell 10).trans (show _ = some (Value.int .i64 po) by rfl)
 have x11 := (hX.cell 11).trans (show _ = some (Value.bool aw) by rfl)
 have hT0 : Tch w W0 [] := hW0 ▸ (Tch.refl w []).alloc _
 have HT0 : Hid (Tch w W0 S) := lH (hT0.mono (by simp))
 have hP0 := h.tch hT0 (by simp)
 have HW0 := lH (And.intro hW0 hxb)
 obtain ⟨k, hk⟩ : ∃ k, wh % 8 = k := ⟨_, rfl⟩
 have ha : bits .and .i64 wh 7 = k := by rw [and7R]; exact hk
 have HGo : Hid (∀ W S', Goes W0 W S S' → Goes w W S S') := lH (fun W S' hg => (Goes.of_tch HT0.out).trans_ hg)
 by_cases k3 : k = 3
 ·subst k3
  have HE : Hid (doR L ⟨wh, ((ps, ph, pl), pb), (pr, me, (vs, vh, vl), po, aw)⟩ = ((dropR L ((ps, ph, pl), pb) (pr, me, (vs, vh, vl), po, aw)).1, 0, (dropR L ((ps, ph, pl), pb) (pr, me, (vs, vh, vl), po, aw)).2)) := lH (by unfold doR; rw [if_pos (show wh % 8 = 3 from hk)])
  have HC := lH (dropRD t S L hL ((ps, ph, pl), pb) (pr, me, (vs, vh, vl), po, aw) W0 hP0)
  clear hk hP0 h hT0 hX hW0 hxb o1 o2 o3
  go_enter Tryz.func45, Tryz.ntmps45
  go_wp2_with fail
  rw [HW0.out.1, HW0.out.2]
  refine cZm HC.out ?_
  rintro e w1 ⟨rfl, S', hI, hg⟩
  have HI := lH hI
  have HG := lH (HGo.out _ _ hg)
  clear hI hg x0 x1 x2 x3 x4 x5 x6 x7 x8 x9 x10 x11
  go_wp2
  refine bodyPost_ret (v := .tuple #[.int .i64 (((dropR L ((ps, ph, pl), pb) (pr, me, (vs, vh, vl), po, aw)).1, 0, (dropR L ((ps, ph, pl), pb) (pr, me, (vs, vh, vl), po, aw)).2)).2.1, .int .i64 (((dropR L ((ps, ph, pl), pb) (pr, me, (vs, vh, vl), po, aw)).1, 0, (dropR L ((ps, ph, pl), pb) (pr, me, (vs, vh, vl), po, aw)).2)).2.2]) (by simp [results, Tryz.results45, go_sem]) rfl ⟨by rw [HE.out], S', by rw [HE.out]; exact HI.out, HG.out⟩
 by_cases k4 : k = 4
 ·subst k4
  have HE : Hid (doR L ⟨wh, ((ps, ph, pl), pb), (pr, me, (vs, vh, vl), po, aw)⟩ = ((flushR L pr).1, (flushR L pr).2, 0)) := lH (by unfold doR; rw [if_neg (show ¬ wh % 8 = 3 by omega), if_pos (show wh % 8 = 4 from hk)])
  have HC := lH (flushD t S L hL pr W0 hP0)
  clear hk hP0 h hT0 hX hW0 hxb o1 o2 o3
  go_enter Tryz.func45, Tryz.ntmps45
  go_wp2_with fail
  rw [HW0.out.1, HW0.out.2]
  refine cZm HC.out ?_
  rintro e w1 ⟨rfl, S', hI, hg⟩
  have HI := lH hI
  have HG := lH (HGo.out _ _ hg)
  clear hI hg x0 x1 x2 x3 x4 x5 x6 x7 x8 x9 x10 x11
  go_wp2
  refine bodyPost_ret (v := .tuple #[.int .i64 (((flushR L pr).1, (flushR L pr).2, 0)).2.1, .int .i64 (((flushR L pr).1, (flushR L pr).2, 0)).2.2]) (by simp [results, Tryz.results45, go_sem]) rfl ⟨by rw [HE.out], S', by rw [HE.out]; exact HI.out, HG.out⟩
 ·have b3 : (k == (3 : Int)) = false := by simpa using k3
  have b4 : (k == (4 : Int)) = false := by simpa using k4
  have HE : Hid (doR L ⟨wh, ((ps, ph, pl), pb), (pr, me, (vs, vh, vl), po, aw)⟩ = ((putR L ((ps, ph, pl), pb) (pr, me, (vs, vh, vl), po, aw)).1, 0, (putR L ((ps, ph, pl), pb) (pr, me, (vs, vh, vl), po, aw)).2)) := lH (by unfold doR; rw [if_neg (show ¬ wh % 8 = 3 by omega), if_neg (show ¬ wh % 8 = 4 by omega)])
  have HC := lH (putD t S L hL ((ps, ph, pl), pb) (pr, me, (vs, vh, vl), po, aw) o2.1 o3.2.2.1 W0 hP0)
  clear hk k3 k4 hP0 h hT0 hX hW0 hxb o1 o2 o3
  go_enter Tryz.func45, Tryz.ntmps45
  go_wp2_with fail
  rw [HW0.out.1, HW0.out.2]
  refine cZm HC.out ?_
  rintro e w1 ⟨rfl, S', hI, hg⟩
  have HI := lH hI
  have HG := lH (HGo.out _ _ hg)
  clear hI hg x0 x1 x2 x3 x4 x5 x6 x7 x8 x9 x10 x11
  go_wp2
  refine bodyPost_ret (v := .tuple #[.int .i64 (((putR L ((ps, ph, pl), pb) (pr, me, (vs, vh, vl), po, aw)).1, 0, (putR L ((ps, ph, pl), pb) (pr, me, (vs, vh, vl), po, aw)).2)).2.1, .int .i64 (((putR L ((ps, ph, pl), pb) (pr, me, (vs, vh, vl), po, aw)).1, 0, (putR L ((ps, ph, pl), pb) (pr, me, (vs, vh, vl), po, aw)).2)).2.2]) (by simp [results, Tryz.results45, go_sem]) rfl ⟨by rw [HE.out], S', by rw [HE.out]; exact HI.out, HG.out⟩
end Go.Proofs.YtgfkmgbcajdcdaaGreatDoor

namespace Go.Proofs.YtgfkmgbcajdcdaaGreatDoor.Ifs
open Go.RowKit

theorem turnD' (t : Nat) (S : List Nat) (st : StI) (port : Int) (up : Bool) (w : World) (h : IfD w t S st) :
  Calls Tryz.prog 90 #[.pointer (some ⟨t, 0, none⟩), .int .i64 port, .bool up] w fun e w' => e = .returned (.int .i64 (turnI st port up).2) ∧ ∃ S', IfD w' t S' (turnI st port up).1 ∧ Goes w w' S S' :=
 (turnD t S st port up w h).mono fun e w' ⟨h1, h2, h3⟩ => ⟨h1, S, h2, Goes.of_tch h3⟩
theorem does_any (p : Nat) (S : List Nat) (st : StI) (x : StpI) (hx : x.ok) (w : World) (h : IfD w p S st) :
  Calls Tryz.prog 47 #[.pointer (some ⟨p, 0, none⟩), stV x] w fun e w' => e = .returned (.tuple #[.int .i64 (doI st x).2.1, .int .i64 (doI st x).2.2]) ∧ ∃ S', IfD w' p S' (doI st x).1 ∧ Goes w w' S S' := by
 obtain ⟨wh, nm, mac, nu, po, up, s, ah, al⟩ := x
 obtain ⟨o1, o2, o3, o4, o5, o6⟩ := hx
 have o6 : N64 ah ∧ N64 al := o6
 obtain ⟨xb, hxb⟩ : ∃ xb, w.heap.size = xb := ⟨_, rfl⟩
 obtain ⟨W0, hW0⟩ : ∃ W, w.alloc (.cells #[.int .i64 wh, .string nm, .int .u64 mac, .int .i64 nu, .int .i64 po, .bool up, .bool s, .int .u64 (ah : Int), .int .u64 (al : Int)] 111) = W := ⟨_, rfl⟩
 have hX : Blk W0 xb 111 #[.int .i64 wh, .string nm, .int .u64 mac, .int .i64 nu, .int .i64 po, .bool up, .bool s, .int .u64 (ah : Int), .int .u64 (al : Int)] := hW0 ▸ hxb ▸ Blk.new _ _ _
 have x0 := (hX.cell 0).trans (show _ = some (Value.int .i64 wh) by rfl)
 have x1 := (hX.cell 1).trans (show _ = some (Value.string nm) by rfl)
 have x2 := (hX.cell 2).trans (show _ = some (Value.int .u64 mac) by rfl)
 have x3 := (hX.cell 3).trans (show _ = some (Value.int .i64 nu) by rfl)
 have x4 := (hX.cell 4).trans (show _ = some (Value.int .i64 po) by rfl)
 have x5 := (hX.cell 5).trans (show _ = some (Value.bool up) by rfl)
 have x6 := (hX.cell 6).trans (show _ = some (Value.bool s) by rfl)
 have x7 := (hX.cell 7).trans (show _ = some (Value.int .u64 (ah : Int)) by rfl)
 have x8 := (hX.cell 8).trans (show _ = some (Value.int .u64 (al : Int)) by rfl)
 have hT0 : Tch w W0 [] := hW0 ▸ (Tch.refl w []).alloc _
 have HT0 : Hid (Tch w W0 S) := lH (hT0.mono (by simp))
 have hP0 := h.tch hT0 (by simp)
 have HW0 := lH (And.intro hW0 hxb)
 obtain ⟨k, hk⟩ : ∃ k, wh % 8 = k := ⟨_, rfl⟩
 have ha : bits .and .i64 wh 7 = k := by rw [and7I]; exact hk
 have HGo : Hid (∀ W S', Goes W0 W S S' → Goes w W S S') := lH (fun W S' hg => (Goes.of_tch HT0.out).trans hg)
 by_cases k0 : k = 0
 ·subst k0
  have HE : Hid (doI st ⟨wh, nm, mac, nu, po, up, s, ah, al⟩ = addI st nm mac nu) := lH (by unfold doI; rw [if_pos (show wh % 8 = 0 from hk)])
  have HC := lH (addD p S st nm mac nu o3 W0 hP0)
  clear hk hP0 h hT0 hX hW0 hxb o1 o2 o3 o4 o5 o6
  go_enter Tryz.func47, Tryz.ntmps47
  go_wp2_with fail
  rw [HW0.out.1, HW0.out.2]
  refine cZm HC.out ?_
  rintro e w1 ⟨rfl, S', hI, hg⟩
  have HI := lH hI
  have HG := lH (HGo.out _ _ hg)
  clear hI hg x0 x1 x2 x3 x4 x5 x6 x7 x8
  go_wp2
  refine bodyPost_ret (v := .tuple #[.int .i64 (addI st nm mac nu).2.1, .int .i64 (addI st nm mac nu).2.2]) (by simp [results, Tryz.results47, go_sem]) rfl ⟨by rw [HE.out], S', by rw [HE.out]; exact HI.out, HG.out⟩
 by_cases k1 : k = 1
 ·subst k1
  have HE : Hid (doI st ⟨wh, nm, mac, nu, po, up, s, ah, al⟩ = ((turnI st po up).1, 0, (turnI st po up).2)) := lH (by unfold doI; rw [if_neg (show ¬ wh % 8 = 0 by omega), if_pos (show wh % 8 = 1 from hk)])
  have HC := lH (turnD' p S st po up W0 hP0)
  clear hk hP0 h hT0 hX hW0 hxb o1 o2 o3 o4 o5 o6
  go_enter Tryz.func47, Tryz.ntmps47
  go_wp2_with fail
  rw [HW0.out.1, HW0.out.2]
  refine cZm HC.out ?_
  rintro e w1 ⟨rfl, S', hI, hg⟩
  have HI := lH hI
  have HG := lH (HGo.out _ _ hg)
  clear hI hg x0 x1 x2 x3 x4 x5 x6 x7 x8
  go_wp2
  refine bodyPost_ret (v := .tuple #[.int .i64 (((turnI st po up).1, 0, (turnI st po up).2)).2.1, .int .i64 (((turnI st po up).1, 0, (turnI st po up).2)).2.2]) (by simp [results, Tryz.results47, go_sem]) rfl ⟨by rw [HE.out], S', by rw [HE.out]; exact HI.out, HG.out⟩
 by_cases k5 : k = 5
 ·subst k5
  have HE : Hid (doI st ⟨wh, nm, mac, nu, po, up, s, ah, al⟩ = ((dropI st po (s, ah, al)).1, 0, (dropI st po (s, ah, al)).2)) := lH (by unfold doI; rw [if_neg (show ¬ wh % 8 = 0 by omega), if_neg (show ¬ wh % 8 = 1 by omega), if_pos (show wh % 8 = 5 from hk)])
  have HC := lH (dropD p S st po (s, ah, al) W0 hP0)
  clear hk hP0 h hT0 hX hW0 hxb o1 o2 o3 o4 o5 o6
  go_enter Tryz.func47, Tryz.ntmps47
  go_wp2_with fail
  rw [HW0.out.1, HW0.out.2]
  refine cZm HC.out ?_
  rintro e w1 ⟨rfl, S', hI, hg⟩
  have HI := lH hI
  have HG := lH (HGo.out _ _ hg)
  clear hI hg x0 x1 x2 x3 x4 x5 x6 x7 x8
  go_wp2
  refine bodyPost_ret (v := .tuple #[.int .i64 (((dropI st po (s, ah, al)).1, 0, (dropI st po (s, ah, al)).2)).2.1, .int .i64 (((dropI st po (s, ah, al)).1, 0, (dropI st po (s, ah, al)).2)).2.2]) (by simp [results, Tryz.results47, go_sem]) rfl ⟨by rw [HE.out], S', by rw [HE.out]; exact HI.out, HG.out⟩
 ·have b0 : (k == (0 : Int)) = false := by simpa using k0
  have b1 : (k == (1 : Int)) = false := by simpa using k1
  have b5 : (k == (5 : Int)) = false := by simpa using k5
  have HE : Hid (doI st ⟨wh, nm, mac, nu, po, up, s, ah, al⟩ = ((putI st po (s, ah, al) nu).1, 0, (putI st po (s, ah, al) nu).2)) := lH (by unfold doI; rw [if_neg (show ¬ wh % 8 = 0 by omega), if_neg (show ¬ wh % 8 = 1 by omega), if_neg (show ¬ wh % 8 = 5 by omega)])
  have HC := lH (putD p S st po (s, ah, al) o6 nu W0 hP0)
  clear hk k0 k1 k5 hP0 h hT0 hX hW0 hxb o1 o2 o3 o4 o5 o6
  go_enter Tryz.func47, Tryz.ntmps47
  go_wp2_with fail
  rw [HW0.out.1, HW0.out.2]
  refine cZm HC.out ?_
  rintro e w1 ⟨rfl, S', hI, hg⟩
  have HI := lH hI
  have HG := lH (HGo.out _ _ hg)
  clear hI hg x0 x1 x2 x3 x4 x5 x6 x7 x8
  go_wp2
  refine bodyPost_ret (v := .tuple #[.int .i64 (((putI st po (s, ah, al) nu).1, 0, (putI st po (s, ah, al) nu).2)).2.1, .int .i64 (((putI st po (s, ah, al) nu).1, 0, (putI st po (s, ah, al) nu).2)).2.2]) (by simp [results, Tryz.results47, go_sem]) rfl ⟨by rw [HE.out], S', by rw [HE.out]; exact HI.out, HG.out⟩
end Go.Proofs.YtgfkmgbcajdcdaaGreatDoor.Ifs

namespace Go.Proofs.YtgfkmgbcajdcdaaGreatDoor
open Go.RowKit

structure StdDR (w W : World) (t : Nat) (S : List Nat) (L : List TdI) : Prop where
 P : RbD W t S L
 bel : Below w.heap.size w W
 abv : ∀ s ∈ S, w.heap.size ≤ s
structure StdDI (w W : World) (p t : Nat) (S T : List Nat) (L : List TdI) (st : Ifs.StI) : Prop where
 P : RbD W t S L
 I : Ifs.IfD W p T st
 bel : Below w.heap.size w W
 dis : ∀ s ∈ T, s ∉ S
 abv : ∀ s ∈ S, w.heap.size ≤ s
 abi : ∀ s ∈ T, w.heap.size ≤ s
theorem StdDR.go {w W W' : World} {t : Nat} {S S' : List Nat} {L M : List TdI} (h : StdDR w W t S L) (hP : RbD W' t S' M) (hg : Goes W W' S S') : StdDR w W' t S' M :=
 have k := hg.below h.bel.size h.abv
 ⟨hP, h.bel.trans k.1, k.2⟩
theorem StdDI.go {w W W' : World} {p t : Nat} {S T T' : List Nat} {L : List TdI} {st st' : Ifs.StI} (h : StdDI w W p t S T L st) (hlt : ∀ s ∈ S, s < W.heap.size) (hP : Ifs.IfD W' p T' st') (hg : Goes W W' T T') : StdDI w W' p t S T' L st' := by
 have k := hg.below h.bel.size h.abi
 refine ⟨h.P.tch hg.tch (fun s hs hm => h.dis s hm hs), hP, h.bel.trans k.1, fun s hs hm => ?_, h.abv, k.2⟩
 rcases hg.fre s hs with h1 | h1
 ·exact h.dis s h1 hm
 ·have := hlt s hm; omega
theorem meant16 (w : World) (a b : Option Addr) (l c l2 c2 : Nat) (z : List Ifs.Stp) (y : List Stp) (hz : Ifs.IsStp w a l z) (hy : IsStp w b l2 y) (w0 : World) (hb0 : Below w.heap.size w w0) :
  Calls Tryz.prog 10 #[.agg #[.slice a l c, .slice b l2 c2]] w0 fun e w' => ∃ t p S T, e = .returned (.tuple #[ptrV t, ptrV p]) ∧ RbD w' t S (plR y (min l2 60)) ∧ Ifs.IfD w' p T (Ifs.plI z (min l 60)) ∧ Tch w0 w' [] := by
 obtain ⟨xb, hxb⟩ : ∃ xb, w0.heap.size = xb := ⟨_, rfl⟩
 obtain ⟨W0, hW0⟩ : ∃ W, w0.alloc (.cells #[.slice a l c, .slice b l2 c2] 25) = W := ⟨_, rfl⟩
 have HX : Hid (Blk W0 xb 25 #[.slice a l c, .slice b l2 c2]) := lH (hW0 ▸ hxb ▸ Blk.new w0 _ _)
 have HT0 : Hid (Tch w0 W0 []) := lH (hW0 ▸ (Tch.refl w0 []).alloc _)
 have HB0 : Hid (Below w.heap.size w W0) := lH (hb0.trans (HT0.out.below hb0.size (by simp)))
 have HW0 := lH (And.intro hW0 hxb)
 have HC := lH (fun W (hW : Tch W0 W []) => show W.cell? ⟨xb, 0, none⟩ = some (Value.slice a l c) ∧ W.cell? ⟨xb, 1, none⟩ = some (Value.slice b l2 c2) from ⟨((hW.blk HX.out (by simp)).cell 0).trans rfl, ((hW.blk HX.out (by simp)).cell 1).trans rfl⟩)
 have HY := lH hy
 have HZ := lH hz
 have HNew := lH (newR W0)
 have HInv := lH (fun i => ((plR_inv hy.2.1 i).len3))
 clear hW0 hxb hz hy hb0
 go_enter Tryz.func10, Tryz.ntmps10
 go_wp2_with fail
 rw [HW0.out.1, HW0.out.2]
 refine cZm HNew.out ?_
 rintro e w1 ⟨t, S0, rfl, hP, hb, hs⟩
 have Y0 : Hid (StdDR W0 w1 t S0 (plR y 0)) := lH ⟨by rw [plR_zero]; exact hP, hb, hs⟩
 clear hP hb hs
 go_wp2_with fail
 go_loopw [5] (fun iv wr => ∃ (i : Nat) (S : List Nat), iv = .int .i64 (i : Int) ∧ i ≤ l2 ∧ i ≤ 60 ∧ Hid (StdDR W0 wr t S (plR y i))) (fun iv _ => 60 - (intOf iv).toNat)
 case atStart => exact ⟨0, S0, rfl, Nat.zero_le _, Nat.zero_le _, Y0⟩
 case round =>
  obtain ⟨i, S, rfl, hil, hi6, hY⟩ := hrel
  have j1 : IntKind.i64.wrap ((i : Int) + 1) = (i : Int) + 1 := by rw [IntKind.wrap_i64]; omega
  have HTw : Hid (Tch W0 wr []) := lH (Tch.of_below [] hY.out.bel)
  obtain ⟨u0, u1⟩ := HC.out wr HTw.out
  by_cases hlt : i < l2
  ·have i1 : (i : Int) < (l2 : Int) := by omega
   have i0 : (0 : Int) ≤ (i : Int) := by omega
   by_cases h60 : i < 60
   ·have i6 : (i : Int) < 60 := by omega
    obtain ⟨g, o, wh, ps, ph, pl, pb, pr, me, vs, vh, vl, po, aw, rfl, hzi, hok, c0, c1, c2, c3, c4, c5, c6, c7, c8, c9, ca, cb⟩ := HY.out.cells (HB0.out.trans (hY.out.bel.mono HB0.out.size)) hlt
    have HD : Hid (Calls Tryz.prog 45 #[.pointer (some ⟨t, 0, none⟩), .agg #[.int .i64 wh, .bool ps, .int .u64 (ph : Int), .int .u64 (pl : Int), .int .i64 pb, .int .i64 pr, .int .i64 me, .bool vs, .int .u64 (vh : Int), .int .u64 (vl : Int), .int .i64 po, .bool aw]] wr _) := lH (does_any t S (plR y i) ⟨wh, ((ps, ph, pl), pb), (pr, me, (vs, vh, vl), po, aw)⟩ hok (HInv.out i) wr hY.out.P)
    have HS := lH (plR_succ hzi)
    clear hzi hok
    go_wp2_with fail
    refine cZm HD.out ?_
    rintro e w2 ⟨rfl, S', hP, hg⟩
    rw [← HS.out] at hP
    have Y2 := lH (hY.out.go hP hg)
    clear hP hg c0 c1 c2 c3 c4 c5 c6 c7 c8 c9 ca cb u0 u1
    go_wp2
    go_roundw
    case rel => exact ⟨i + 1, S', by go_num, hlt, h60, Y2⟩
    case measure => simp [intOf]; omega
   ·have i6 : ¬ (i : Int) < 60 := by omega
    have he : min l2 60 = i := by omega
    have HL : Hid (RbD wr t S (plR y (min l2 60))) := lH (by rw [he]; exact hY.out.P)
    have HS0 : Hid (∀ s ∈ S, W0.heap.size ≤ s) := lH hY.out.abv
    have HLt : Hid (∀ s ∈ S, s < wr.heap.size) := lH (fun s hs => hY.out.P.lt s hs)
    have HBw : Hid (Below W0.heap.size W0 wr) := lH hY.out.bel
    have HNI := lH (Ifs.newD wr)
    clear he h60 hil hi6 HInv HNew Y0 HY hY
    go_wp2_with fail
    refine cZm HNI.out ?_
    rintro e w3 ⟨p, T0, rfl, hI, hT3, hs3⟩
    have Y3 : Hid (StdDI W0 w3 p t S T0 (plR y (min l2 60)) (Ifs.plI z 0)) := lH ⟨HL.out.tch hT3 (by simp), by rw [Ifs.plI_zero]; exact hI, HBw.out.trans (hT3.below HBw.out.size (by simp)), fun s hs hm => by have h1 := HLt.out s hm; have h2 := hs3 s hs; omega, HS0.out, fun s hs => Nat.le_trans HBw.out.size (hs3 s hs)⟩
    clear hI hT3 hs3 HL HS0 HLt HBw HNI u0 u1
    go_wp2_with fail
    go_loopw [7] (fun iv wr => ∃ (i : Nat) (T : List Nat), iv = .int .i64 (i : Int) ∧ i ≤ l ∧ i ≤ 60 ∧ Hid (StdDI W0 wr p t S T (plR y (min l2 60)) (Ifs.plI z i))) (fun iv _ => 60 - (intOf iv).toNat)
    case atStart => exact ⟨0, T0, rfl, Nat.zero_le _, Nat.zero_le _, Y3⟩
    case round =>
     obtain ⟨i, T, rfl, hil, hi6, hY⟩ := hrel
     have j1 : IntKind.i64.wrap ((i : Int) + 1) = (i : Int) + 1 := by rw [IntKind.wrap_i64]; omega
     have HTw : Hid (Tch W0 wr []) := lH (Tch.of_below [] hY.out.bel)
     obtain ⟨u0, u1⟩ := HC.out wr HTw.out
     by_cases hlt : i < l
     ·have i1 : (i : Int) < (l : Int) := by omega
      have i0 : (0 : Int) ≤ (i : Int) := by omega
      by_cases h60 : i < 60
      ·have i6 : (i : Int) < 60 := by omega
       obtain ⟨g, o, wh, nm, mac, nu, po, up, s, ah, al, rfl, hzi, hok, c0, c1, c2, c3, c4, c5, c6, c7, c8⟩ := HZ.out.cells (HB0.out.trans (hY.out.bel.mono HB0.out.size)) hlt
       have HD : Hid (Calls Tryz.prog 47 #[.pointer (some ⟨p, 0, none⟩), .agg #[.int .i64 wh, .string nm, .int .u64 mac, .int .i64 nu, .int .i64 po, .bool up, .bool s, .int .u64 (ah : Int), .int .u64 (al : Int)]] wr _) := lH (Ifs.does_any p T (Ifs.plI z i) ⟨wh, nm, mac, nu, po, up, s, ah, al⟩ hok wr hY.out.I)
       have HS := lH (Ifs.plI_succ hzi)
       clear hzi hok
       go_wp2_with fail
       refine cZm HD.out ?_
       rintro e w2 ⟨rfl, T', hP, hg⟩
       rw [← HS.out] at hP
       have Y2 := lH (hY.out.go (fun s hs => hY.out.P.lt s hs) hP hg)
       clear hP hg c0 c1 c2 c3 c4 c5 c6 c7 c8 u0 u1
       go_wp2
       go_roundw
       case rel => exact ⟨i + 1, T', by go_num, hlt, h60, Y2⟩
       case measure => simp [intOf]; omega
      ·have i6 : ¬ (i : Int) < 60 := by omega
       have he : min l 60 = i := by omega
       have HE : Hid (RbD wr t S (plR y (min l2 60)) ∧ Ifs.IfD wr p T (Ifs.plI z (min l 60)) ∧ Tch w0 wr []) := lH ⟨hY.out.P, by rw [he]; exact hY.out.I, HT0.out.trans HTw.out⟩
       clear he h60 hil hi6
       go_wp2
       refine bodyPost_ret (v := .tuple #[ptrV t, ptrV p]) (by simp [results, Tryz.results10, go_sem]) rfl ⟨t, p, rfl, ⟨S, HE.out.1⟩, ⟨T, HE.out.2.1⟩, HE.out.2.2⟩
     ·have i1 : ¬ (i : Int) < (l : Int) := by omega
      have i1b : decide ((i : Int) < (l : Int)) = false := decide_eq_false i1
      have he : min l 60 = i := by omega
      have HE : Hid (RbD wr t S (plR y (min l2 60)) ∧ Ifs.IfD wr p T (Ifs.plI z (min l 60)) ∧ Tch w0 wr []) := lH ⟨hY.out.P, by rw [he]; exact hY.out.I, HT0.out.trans HTw.out⟩
      clear he hlt hil hi6
      go_wp2
      refine bodyPost_ret (v := .tuple #[ptrV t, ptrV p]) (by simp [results, Tryz.results10, go_sem]) rfl ⟨t, p, rfl, ⟨S, HE.out.1⟩, ⟨T, HE.out.2.1⟩, HE.out.2.2⟩
  ·have i1 : ¬ (i : Int) < (l2 : Int) := by omega
   have i1b : decide ((i : Int) < (l2 : Int)) = false := decide_eq_false i1
   have he : min l2 60 = i := by omega
   have HL : Hid (RbD wr t S (plR y (min l2 60))) := lH (by rw [he]; exact hY.out.P)
   have HS0 : Hid (∀ s ∈ S, W0.heap.size ≤ s) := lH hY.out.abv
   have HLt : Hid (∀ s ∈ S, s < wr.heap.size) := lH (fun s hs => hY.out.P.lt s hs)
   have HBw : Hid (Below W0.heap.size W0 wr) := lH hY.out.bel
   have HNI := lH (Ifs.newD wr)
   clear he hlt hil hi6 HInv HNew Y0 HY hY
   go_wp2_with fail
   refine cZm HNI.out ?_
   rintro e w3 ⟨p, T0, rfl, hI, hT3, hs3⟩
   have Y3 : Hid (StdDI W0 w3 p t S T0 (plR y (min l2 60)) (Ifs.plI z 0)) := lH ⟨HL.out.tch hT3 (by simp), by rw [Ifs.plI_zero]; exact hI, HBw.out.trans (hT3.below HBw.out.size (by simp)), fun s hs hm => by have h1 := HLt.out s hm; have h2 := hs3 s hs; omega, HS0.out, fun s hs => Nat.le_trans HBw.out.size (hs3 s hs)⟩
   clear hI hT3 hs3 HL HS0 HLt HBw HNI u0 u1
   go_wp2_with fail
   go_loopw [7] (fun iv wr => ∃ (i : Nat) (T : List Nat), iv = .int .i64 (i : Int) ∧ i ≤ l ∧ i ≤ 60 ∧ Hid (StdDI W0 wr p t S T (plR y (min l2 60)) (Ifs.plI z i))) (fun iv _ => 60 - (intOf iv).toNat)
   case atStart => exact ⟨0, T0, rfl, Nat.zero_le _, Nat.zero_le _, Y3⟩
   case round =>
    obtain ⟨i, T, rfl, hil, hi6, hY⟩ := hrel
    have j1 : IntKind.i64.wrap ((i : Int) + 1) = (i : Int) + 1 := by rw [IntKind.wrap_i64]; omega
    have HTw : Hid (Tch W0 wr []) := lH (Tch.of_below [] hY.out.bel)
    obtain ⟨u0, u1⟩ := HC.out wr HTw.out
    by_cases hlt : i < l
    ·have i1 : (i : Int) < (l : Int) := by omega
     have i0 : (0 : Int) ≤ (i : Int) := by omega
     by_cases h60 : i < 60
     ·have i6 : (i : Int) < 60 := by omega
      obtain ⟨g, o, wh, nm, mac, nu, po, up, s, ah, al, rfl, hzi, hok, c0, c1, c2, c3, c4, c5, c6, c7, c8⟩ := HZ.out.cells (HB0.out.trans (hY.out.bel.mono HB0.out.size)) hlt
      have HD : Hid (Calls Tryz.prog 47 #[.pointer (some ⟨p, 0, none⟩), .agg #[.int .i64 wh, .string nm, .int .u64 mac, .int .i64 nu, .int .i64 po, .bool up, .bool s, .int .u64 (ah : Int), .int .u64 (al : Int)]] wr _) := lH (Ifs.does_any p T (Ifs.plI z i) ⟨wh, nm, mac, nu, po, up, s, ah, al⟩ hok wr hY.out.I)
      have HS := lH (Ifs.plI_succ hzi)
      clear hzi hok
      go_wp2_with fail
      refine cZm HD.out ?_
      rintro e w2 ⟨rfl, T', hP, hg⟩
      rw [← HS.out] at hP
      have Y2 := lH (hY.out.go (fun s hs => hY.out.P.lt s hs) hP hg)
      clear hP hg c0 c1 c2 c3 c4 c5 c6 c7 c8 u0 u1
      go_wp2
      go_roundw
      case rel => exact ⟨i + 1, T', by go_num, hlt, h60, Y2⟩
      case measure => simp [intOf]; omega
     ·have i6 : ¬ (i : Int) < 60 := by omega
      have he : min l 60 = i := by omega
      have HE : Hid (RbD wr t S (plR y (min l2 60)) ∧ Ifs.IfD wr p T (Ifs.plI z (min l 60)) ∧ Tch w0 wr []) := lH ⟨hY.out.P, by rw [he]; exact hY.out.I, HT0.out.trans HTw.out⟩
      clear he h60 hil hi6
      go_wp2
      refine bodyPost_ret (v := .tuple #[ptrV t, ptrV p]) (by simp [results, Tryz.results10, go_sem]) rfl ⟨t, p, rfl, ⟨S, HE.out.1⟩, ⟨T, HE.out.2.1⟩, HE.out.2.2⟩
    ·have i1 : ¬ (i : Int) < (l : Int) := by omega
     have i1b : decide ((i : Int) < (l : Int)) = false := decide_eq_false i1
     have he : min l 60 = i := by omega
     have HE : Hid (RbD wr t S (plR y (min l2 60)) ∧ Ifs.IfD wr p T (Ifs.plI z (min l 60)) ∧ Tch w0 wr []) := lH ⟨hY.out.P, by rw [he]; exact hY.out.I, HT0.out.trans HTw.out⟩
     clear he hlt hil hi6
     go_wp2
     refine bodyPost_ret (v := .tuple #[ptrV t, ptrV p]) (by simp [results, Tryz.results10, go_sem]) rfl ⟨t, p, rfl, ⟨S, HE.out.1⟩, ⟨T, HE.out.2.1⟩, HE.out.2.2⟩
end Go.Proofs.YtgfkmgbcajdcdaaGreatDoor
