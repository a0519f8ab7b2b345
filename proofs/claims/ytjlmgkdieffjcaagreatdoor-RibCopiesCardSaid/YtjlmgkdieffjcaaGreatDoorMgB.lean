/-
  Several texts in one: RbL, RbDo, RbTe, RbBo, RbFo.
-/
import Derived.Test.YtjlmgkdieffjcaaGreatDoorRbKb
import Derived.Test.YtjlmgkdieffjcaaGreatDoorRbKc
import Derived.Test.YtjlmgkdieffjcaaGreatDoorMgW
import Derived.Test.YtjlmgkdieffjcaaGreatDoorRbSm
import Derived.Test.YtjlmgkdieffjcaaGreatDoorMgL

namespace Go.Proofs.YtjlmgkdieffjcaaGreatDoor
open Go.RowKit
set_option linter.unusedVariables false

set_option maxRecDepth 100000 in
set_option maxHeartbeats 4000000 in
theorem put_bad (t : Nat) (S : List Nat) (L : List TdI) (p : PfI) (x : PaI) (hp : N64 p.1.2.1 ∧ N64 p.1.2.2) (hx : N64 x.2.2.1.2.1 ∧ N64 x.2.2.1.2.2) (hr : rightI p x = false) (w : World) (h : RbD w t S L) :
    Calls Tryz.prog 28 #[.pointer (some ⟨t, 0, none⟩), pfR p, paR x] w fun e w' => e = .returned (.int .i64 140) ∧ Tch w w' [] := by
  have HRi := Lib.hid (fun W => rightD p x hp hx W)
  rw [hr] at HRi
  obtain ⟨⟨ps, ph, pl⟩, pb⟩ := p
  obtain ⟨pr, me, ⟨vs, vh, vl⟩, po, aw⟩ := x
  have HT2 : Hid (∀ (o o' : Obj), Tch w ((w.alloc o).alloc o') []) := Lib.hid (fun o o' => ((Tch.refl w []).alloc _).alloc _)
  clear hr hp hx
  go_enter Tryz.func28, Tryz.ntmps28
  go_wp2_with fail
  refine Calls.mono (HRi.out _) ?_
  rintro e W3 ⟨rfl, hT3⟩
  have HT3 := Lib.hid ((HT2.out _ _).trans hT3)
  clear hT3
  go_wp2
  go_ret
  exact ⟨rfl, HT3.out⟩
set_option maxRecDepth 100000 in
set_option maxHeartbeats 8000000 in
theorem put_full (t : Nat) (S : List Nat) (L : List TdI) (hL : L.length ≤ 1000) (p : PfI) (x : PaI) (hp : N64 p.1.2.1 ∧ N64 p.1.2.2) (hx : N64 x.2.2.1.2.1 ∧ N64 x.2.2.1.2.2) (hr : rightI p x = true) (hw : wayI L p x = 0)
    (hf : 4 ≤ (pathsI L p).length ∨ ((pathsI L p).length = 0 ∧ 90 ≤ (prefsI L).length)) (w : World) (h : RbD w t S L) :
    Calls Tryz.prog 28 #[.pointer (some ⟨t, 0, none⟩), pfR p, paR x] w fun e w' => e = .returned (.int .i64 141) ∧ Tch w w' [] := by
  have HRi := Lib.hid (fun W => rightD p x hp hx W)
  rw [hr] at HRi
  have HWay := Lib.hid (fun W (hT : Tch w W []) => wayD t S L hL p x W (h.tch hT (by simp)))
  rw [show ((wayI L p x : Nat) : Int) - 1 = (-1 : Int) by omega] at HWay
  have HPa := Lib.hid (fun W (hT : Tch w W []) => pathsD t S L hL p W (h.tch hT (by simp)))
  have HPf := Lib.hid (fun W (hT : Tch w W []) => prefsD t S L hL W (h.tch hT (by simp)))
  obtain ⟨m, hm⟩ : ∃ m, (pathsI L p).length = m := ⟨_, rfl⟩
  obtain ⟨q, hq⟩ : ∃ q, (prefsI L).length = q := ⟨_, rfl⟩
  rw [hm] at HPa hf
  rw [hq] at HPf hf
  have HF := Lib.hid hf
  obtain ⟨⟨ps, ph, pl⟩, pb⟩ := p
  obtain ⟨pr, me, ⟨vs, vh, vl⟩, po, aw⟩ := x
  obtain ⟨xb, hxb⟩ : ∃ xb, w.heap.size = xb := ⟨_, rfl⟩
  obtain ⟨W2, hW2⟩ : ∃ W2, (w.alloc (.cells #[.bool ps, .int .u64 (ph : Int), .int .u64 (pl : Int), .int .i64 pb] 32)).alloc (.cells #[.int .i64 pr, .int .i64 me, .bool vs, .int .u64 (vh : Int), .int .u64 (vl : Int), .int .i64 po, .bool aw] 34) = W2 := ⟨_, rfl⟩
  obtain ⟨yb, hyb⟩ : ∃ yb, xb + 1 = yb := ⟨_, rfl⟩
  have HX : Hid (Blk W2 xb 32 #[.bool ps, .int .u64 (ph : Int), .int .u64 (pl : Int), .int .i64 pb]) := Lib.hid (hW2 ▸ hxb ▸ (Blk.new w _ _).alloc _)
  have HY : Hid (Blk W2 yb 34 #[.int .i64 pr, .int .i64 me, .bool vs, .int .u64 (vh : Int), .int .u64 (vl : Int), .int .i64 po, .bool aw]) := Lib.hid (by
    have := Blk.new (w.alloc (.cells #[.bool ps, .int .u64 (ph : Int), .int .u64 (pl : Int), .int .i64 pb] 32)) 34 #[.int .i64 pr, .int .i64 me, .bool vs, .int .u64 (vh : Int), .int .u64 (vl : Int), .int .i64 po, .bool aw]
    rw [World.size_alloc, hxb, hyb, hW2] at this
    exact this)
  have HT2 : Hid (Tch w W2 []) := Lib.hid (hW2 ▸ ((Tch.refl w []).alloc _).alloc _)
  have HW2 := Lib.hid (And.intro hW2 (And.intro hxb hyb))
  clear hW2 hxb hyb h hL hp hx hr hw hm hq hf
  go_enter Tryz.func28, Tryz.ntmps28
  go_wp2_with fail
  rw [HW2.out.1]
  refine Calls.mono (HRi.out _) ?_
  rintro e W3 ⟨rfl, hT3⟩
  try rw [HW2.out.2.1]
  try rw [HW2.out.2.2]
  have HX3 := Lib.hid (hT3.blk HX.out (by simp))
  have HY3 := Lib.hid (hT3.blk HY.out (by simp))
  have HT3 := Lib.hid (HT2.out.trans hT3)
  obtain ⟨x0, x1, x2, x3⟩ := HX3.out.c4
  obtain ⟨y0, y1, y2, y3, y4, y5, y6⟩ := HY3.out.c7
  clear hT3
  go_wp2_with fail
  refine Calls.mono (HWay.out _ HT3.out) ?_
  rintro e W4 ⟨rfl, hT4⟩
  have HX4 := Lib.hid (hT4.blk HX3.out (by simp))
  have HT4 := Lib.hid (HT3.out.trans hT4)
  clear hT4 x0 x1 x2 x3 y0 y1 y2 y3 y4 y5 y6
  obtain ⟨z0, z1, z2, z3⟩ := HX4.out.c4
  go_wp2_with fail
  refine Calls.mono (HPa.out _ HT4.out) ?_
  rintro e W6 ⟨A6, c6, rfl, -, hT6⟩
  have HT6 := Lib.hid (HT4.out.trans hT6)
  clear hT6 z0 z1 z2 z3
  by_cases h4 : 4 ≤ m
  · have m4 : (4 : Int) ≤ (m : Int) := by omega
    go_wp2
    go_ret
    exact ⟨rfl, HT6.out⟩
  · obtain ⟨h0, h9⟩ : m = 0 ∧ 90 ≤ q := by have := HF.out; omega
    subst h0
    have q9 : (90 : Int) ≤ (q : Int) := by omega
    clear h4
    go_wp2_with fail
    refine Calls.mono (HPf.out _ HT6.out) ?_
    rintro e W7 ⟨A7, c7, rfl, -, hT7⟩
    have HT7 := Lib.hid (HT6.out.trans hT7)
    clear hT7
    go_wp2
    go_ret
    exact ⟨rfl, HT7.out⟩
theorem putD (t : Nat) (S : List Nat) (L : List TdI) (hL : L.length ≤ 1000) (p : PfI) (x : PaI) (hp : N64 p.1.2.1 ∧ N64 p.1.2.2) (hx : N64 x.2.2.1.2.1 ∧ N64 x.2.2.1.2.2) (w : World) (h : RbD w t S L) :
    Calls Tryz.prog 28 #[.pointer (some ⟨t, 0, none⟩), pfR p, paR x] w fun e w' => e = .returned (.int .i64 (putR L p x).2) ∧ ∃ S', RbD w' t S' (putR L p x).1 ∧ Goes w w' S S' := by
  have same : ∀ {e : Ending} {w' : World} {n : Int}, (e = .returned (.int .i64 n) ∧ Tch w w' []) → e = .returned (.int .i64 n) ∧ ∃ S', RbD w' t S' L ∧ Goes w w' S S' := fun hh => ⟨hh.1, S, h.tch hh.2 (by simp), Goes.of_tch (hh.2.mono (by simp))⟩
  by_cases hr : rightI p x = false
  · have e : putR L p x = (L, 140) := by unfold putR; rw [if_pos hr]
    rw [e]
    exact Calls.mono (put_bad t S L p x hp hx hr w h) (fun e w' hh => same hh)
  · have hr1 : rightI p x = true := by simpa using hr
    by_cases hw : wayI L p x = 0
    · by_cases hf : 4 ≤ (pathsI L p).length ∨ ((pathsI L p).length = 0 ∧ 90 ≤ (prefsI L).length)
      · have e : putR L p x = (L, 141) := by unfold putR; rw [if_neg hr, if_neg (by simpa using hw), if_pos hf]
        rw [e]
        exact Calls.mono (put_full t S L hL p x hp hx hr1 hw hf w h) (fun e w' hh => same hh)
      · have e : putR L p x = (insI L (p, x), 0) := by unfold putR; rw [if_neg hr, if_neg (by simpa using hw), if_neg hf]
        rw [e]
        by_cases h0 : (pathsI L p).length = 0
        · exact put_first t S L hL p x hp hx hr1 hw h0 (by omega) w h
        · exact put_more t S L hL p x hp hx hr1 hw (by omega) (by omega) w h
    · have e : putR L p x = (insI (L.eraseIdx (wayI L p x - 1)) (p, x), 0) := by unfold putR; rw [if_neg hr, if_pos hw]
      rw [e]
      exact put_old t S L hL p x hp hx (wayI L p x - 1) hr1 (by omega) w h
end Go.Proofs.YtjlmgkdieffjcaaGreatDoor

namespace Go.Proofs.YtjlmgkdieffjcaaGreatDoor
open Go.RowKit
set_option linter.unusedVariables false

set_option maxRecDepth 100000 in
set_option maxHeartbeats 4000000 in
theorem does_any (t : Nat) (S : List Nat) (L : List TdI) (x : StpR) (hx : x.ok) (hL : L.length ≤ 1000) (w : World) (h : RbD w t S L) :
    Calls Tryz.prog 9 #[.pointer (some ⟨t, 0, none⟩), srV x] w fun e w' => e = .returned (.tuple #[.int .i64 (doR L x).2.1, .int .i64 (doR L x).2.2]) ∧ ∃ S', RbD w' t S' (doR L x).1 ∧ Goes w w' S S' := by
  obtain ⟨wh, ⟨⟨ps, ph, pl⟩, pb⟩, pr, me, ⟨vs, vh, vl⟩, po, aw⟩ := x
  obtain ⟨o1, o2, o3⟩ := hx
  have o2 : PfOk ((ps, ph, pl), pb) := o2
  have o3 : PaOk (pr, me, (vs, vh, vl), po, aw) := o3
  obtain ⟨xb, hxb⟩ : ∃ xb, w.heap.size = xb := ⟨_, rfl⟩
  obtain ⟨W0, hW0⟩ : ∃ W, w.alloc (.cells #[.int .i64 wh, .bool ps, .int .u64 (ph : Int), .int .u64 (pl : Int), .int .i64 pb, .int .i64 pr, .int .i64 me, .bool vs, .int .u64 (vh : Int), .int .u64 (vl : Int), .int .i64 po, .bool aw] 36) = W := ⟨_, rfl⟩
  have hX : Blk W0 xb 36 #[.int .i64 wh, .bool ps, .int .u64 (ph : Int), .int .u64 (pl : Int), .int .i64 pb, .int .i64 pr, .int .i64 me, .bool vs, .int .u64 (vh : Int), .int .u64 (vl : Int), .int .i64 po, .bool aw] := hW0 ▸ hxb ▸ Blk.new _ _ _
  have x0 := (hX.cell 0).trans (show _ = some (Value.int .i64 wh) by rfl)
  have x1 := (hX.cell 1).trans (show _ = some (Value.bool ps) by rfl)
  have x2 := (hX.cell 2).trans (show _ = some (Value.int .u64 (ph : Int)) by rfl)
  have x3 := (hX.cell 3).trans (show _ = some (Value.int .u64 (pl : Int)) by rfl)
  have x4 := (hX.cell 4).trans (show _ = some (Value.int .i64 pb) by rfl)
  have x5 := (hX.cell 5).trans (show _ = some (Value.int .i64 pr) by rfl)
  have x6 := (hX.cell 6).trans (show _ = some (Value.int .i64 me) by rfl)
  have x7 := (hX.cell 7).trans (show _ = some (Value.bool vs) by rfl)
  have x8 := (hX.cell 8).trans (show _ = some (Value.int .u64 (vh : Int)) by rfl)
  have x9 := (hX.cell 9).trans (show _ = some (Value.int .u64 (vl : Int)) by rfl)
  have x10 := (hX.cell 10).trans (show _ = some (Value.int .i64 po) by rfl)
  have x11 := (hX.cell 11).trans (show _ = some (Value.bool aw) by rfl)
  have hT0 : Tch w W0 [] := hW0 ▸ (Tch.refl w []).alloc _
  have HT0 : Hid (Tch w W0 S) := Lib.hid (hT0.mono (by simp))
  have hP0 := h.tch hT0 (by simp)
  have HW0 := Lib.hid (And.intro hW0 hxb)
  obtain ⟨k, hk⟩ : ∃ k, wh % 8 = k := ⟨_, rfl⟩
  have ha : bits .and .i64 wh 7 = k := by rw [and7R]; exact hk
  have HGo : Hid (∀ W S', Goes W0 W S S' → Goes w W S S') := Lib.hid (fun W S' hg => (Goes.of_tch HT0.out).trans_ hg)
  by_cases k3 : k = 3
  · subst k3
    have HE : Hid (doR L ⟨wh, ((ps, ph, pl), pb), (pr, me, (vs, vh, vl), po, aw)⟩ = ((dropR L ((ps, ph, pl), pb) (pr, me, (vs, vh, vl), po, aw)).1, 0, (dropR L ((ps, ph, pl), pb) (pr, me, (vs, vh, vl), po, aw)).2)) := Lib.hid (by unfold doR; rw [if_pos (show wh % 8 = 3 from hk)])
    have HC := Lib.hid (dropRD t S L hL ((ps, ph, pl), pb) (pr, me, (vs, vh, vl), po, aw) W0 hP0)
    clear hk hP0 h hT0 hX hW0 hxb o1 o2 o3
    go_enter Tryz.func9, Tryz.ntmps9
    go_wp2_with fail
    rw [HW0.out.1, HW0.out.2]
    refine Calls.mono HC.out ?_
    rintro e w1 ⟨rfl, S', hI, hg⟩
    have HI := Lib.hid hI
    have HG := Lib.hid (HGo.out _ _ hg)
    clear hI hg x0 x1 x2 x3 x4 x5 x6 x7 x8 x9 x10 x11
    go_wp2
    refine bodyPost_ret (v := .tuple #[.int .i64 (((dropR L ((ps, ph, pl), pb) (pr, me, (vs, vh, vl), po, aw)).1, 0, (dropR L ((ps, ph, pl), pb) (pr, me, (vs, vh, vl), po, aw)).2)).2.1, .int .i64 (((dropR L ((ps, ph, pl), pb) (pr, me, (vs, vh, vl), po, aw)).1, 0, (dropR L ((ps, ph, pl), pb) (pr, me, (vs, vh, vl), po, aw)).2)).2.2]) (by simp [results, Tryz.results9, go_sem]) rfl ⟨by rw [HE.out], S', by rw [HE.out]; exact HI.out, HG.out⟩
  by_cases k4 : k = 4
  · subst k4
    have HE : Hid (doR L ⟨wh, ((ps, ph, pl), pb), (pr, me, (vs, vh, vl), po, aw)⟩ = ((flushR L pr).1, (flushR L pr).2, 0)) := Lib.hid (by unfold doR; rw [if_neg (show ¬ wh % 8 = 3 by omega), if_pos (show wh % 8 = 4 from hk)])
    have HC := Lib.hid (flushD t S L hL pr W0 hP0)
    clear hk hP0 h hT0 hX hW0 hxb o1 o2 o3
    go_enter Tryz.func9, Tryz.ntmps9
    go_wp2_with fail
    rw [HW0.out.1, HW0.out.2]
    refine Calls.mono HC.out ?_
    rintro e w1 ⟨rfl, S', hI, hg⟩
    have HI := Lib.hid hI
    have HG := Lib.hid (HGo.out _ _ hg)
    clear hI hg x0 x1 x2 x3 x4 x5 x6 x7 x8 x9 x10 x11
    go_wp2
    refine bodyPost_ret (v := .tuple #[.int .i64 (((flushR L pr).1, (flushR L pr).2, 0)).2.1, .int .i64 (((flushR L pr).1, (flushR L pr).2, 0)).2.2]) (by simp [results, Tryz.results9, go_sem]) rfl ⟨by rw [HE.out], S', by rw [HE.out]; exact HI.out, HG.out⟩
  · have b3 : (k == (3 : Int)) = false := by simpa using k3
    have b4 : (k == (4 : Int)) = false := by simpa using k4
    have HE : Hid (doR L ⟨wh, ((ps, ph, pl), pb), (pr, me, (vs, vh, vl), po, aw)⟩ = ((putR L ((ps, ph, pl), pb) (pr, me, (vs, vh, vl), po, aw)).1, 0, (putR L ((ps, ph, pl), pb) (pr, me, (vs, vh, vl), po, aw)).2)) := Lib.hid (by unfold doR; rw [if_neg (show ¬ wh % 8 = 3 by omega), if_neg (show ¬ wh % 8 = 4 by omega)])
    have HC := Lib.hid (putD t S L hL ((ps, ph, pl), pb) (pr, me, (vs, vh, vl), po, aw) o2.1 o3.2.2.1 W0 hP0)
    clear hk k3 k4 hP0 h hT0 hX hW0 hxb o1 o2 o3
    go_enter Tryz.func9, Tryz.ntmps9
    go_wp2_with fail
    rw [HW0.out.1, HW0.out.2]
    refine Calls.mono HC.out ?_
    rintro e w1 ⟨rfl, S', hI, hg⟩
    have HI := Lib.hid hI
    have HG := Lib.hid (HGo.out _ _ hg)
    clear hI hg x0 x1 x2 x3 x4 x5 x6 x7 x8 x9 x10 x11
    go_wp2
    refine bodyPost_ret (v := .tuple #[.int .i64 (((putR L ((ps, ph, pl), pb) (pr, me, (vs, vh, vl), po, aw)).1, 0, (putR L ((ps, ph, pl), pb) (pr, me, (vs, vh, vl), po, aw)).2)).2.1, .int .i64 (((putR L ((ps, ph, pl), pb) (pr, me, (vs, vh, vl), po, aw)).1, 0, (putR L ((ps, ph, pl), pb) (pr, me, (vs, vh, vl), po, aw)).2)).2.2]) (by simp [results, Tryz.results9, go_sem]) rfl ⟨by rw [HE.out], S', by rw [HE.out]; exact HI.out, HG.out⟩
end Go.Proofs.YtjlmgkdieffjcaaGreatDoor

namespace Go.Proofs.YtjlmgkdieffjcaaGreatDoor
open Go.RowKit
set_option linter.unusedVariables false

/-- The program's rib and the document's, side by side: of the same paths, no block of both. -/
structure TwoR (w : World) (p : Nat) (Sp : List Nat) (t : Nat) (St : List Nat) (L : List TdI) : Prop where
  P : RbP w p Sp L
  D : RbD w t St L
  dis : ∀ s ∈ Sp, s ∉ St
section
variable {w w' : World} {p t : Nat} {Sp St Sp' St' T : List Nat} {L M : List TdI}
theorem TwoR.tch0 (h : TwoR w p Sp t St L) (ht : Tch w w' []) : TwoR w' p Sp t St L := ⟨h.P.tch ht (by simp), h.D.tch ht (by simp), h.dis⟩
theorem TwoR.alloc (h : TwoR w p Sp t St L) (o : Obj) : TwoR (w.alloc o) p Sp t St L := h.tch0 ((Tch.refl w []).alloc o)
theorem TwoR.readP (h : TwoR w p Sp t St L) (hP : RbP w' p Sp L) (ht : Tch w w' Sp) : TwoR w' p Sp t St L := ⟨hP, h.D.tch ht (fun s hs hm => h.dis s hm hs), h.dis⟩
theorem TwoR.goP (h : TwoR w p Sp t St L) (hP : RbP w' p Sp' M) (hg : Goes w w' Sp Sp') : RbP w' p Sp' M ∧ RbD w' t St L ∧ ∀ s ∈ Sp', s ∉ St :=
  ⟨hP, h.D.tch hg.tch (fun s hs hm => h.dis s hm hs), fun s hs hm => by
    rcases hg.fre s hs with h1 | h1
    · exact h.dis s h1 hm
    · have := h.D.lt s hm; omega⟩
theorem TwoR.mk' (hP : RbP w p Sp M) (hD : RbD w t St L) (hd : ∀ s ∈ Sp, s ∉ St) (hD' : RbD w' t St' M) (hg : Goes w w' St St') : TwoR w' p Sp t St' M :=
  ⟨hP.tch hg.tch (fun s hs => hd s hs), hD', fun s hs hm => by
    rcases hg.fre s hm with h1 | h1
    · exact hd s hs h1
    · have := hP.lt s hs; omega⟩
end
/-- A block that no call of the program's rib touches. -/
theorem keep_blkR {w w' : World} {S : List Nat} {g B : Nat} {t : TypeId} {cs : Array Value} (h : Blk w g t cs) (ht : Tch w w' S) (hS : ∀ s ∈ S, s < B) (hg : B ≤ g) : Blk w' g t cs :=
  ht.blk h (fun hm => by have := hS g hm; omega)
theorem overI_le (L : List TdI) (a : AdR) : (overI L a).length ≤ (prefsI L).length := by
  unfold overI overL
  rw [List.length_reverse]
  exact List.length_filter_le _ _
set_option maxRecDepth 100000 in
set_option maxHeartbeats 8000000 in
theorem tells_any (p : Nat) (Sp : List Nat) (t : Nat) (St : List Nat) (L : List TdI) (q : PfI) (hq : PfOk q) (w : World) (h : TwoR w p Sp t St L) :
    Calls Tryz.prog 10 #[.pointer (some ⟨p, 0, none⟩), .pointer (some ⟨t, 0, none⟩), pfR q] w fun e w' => e = .returned (.bool true) ∧ TwoR w' p Sp t St L ∧ Tch w w' Sp := by
  have hB := h.P.inv
  have hL := hB.len3
  have HB1 := Lib.hid (fun W (hP : RbP W p Sp L) => bestP p Sp L q hq W hP)
  have HBD := Lib.hid (fun W (hD : RbD W t St L) => bestD t St L hL q W hD)
  have HF1 := Lib.hid (fun W (hP : RbP W p Sp L) => prefsP p Sp L W hP)
  have HFD := Lib.hid (fun W (hD : RbD W t St L) => prefsD t St L hL W hD)
  have HPa := Lib.hid (fun W (hP : RbP W p Sp L) => pathsP p Sp L q hq W hP)
  have HPD := Lib.hid (fun W (hD : RbD W t St L) => pathsD t St L hL q W hD)
  have HOv := Lib.hid (fun W (hP : RbP W p Sp L) => overP p Sp L q.1 hq.1 W hP)
  have HOD := Lib.hid (fun W (hD : RbD W t St L) => overD t St L hL q.1 hq.1 W hD)
  have HCn := Lib.hid (fun W (hP : RbP W p Sp L) => countP p Sp L W hP)
  obtain ⟨rr, hrr⟩ : ∃ rr, bestI L q = rr := ⟨_, rfl⟩
  obtain ⟨bv, hbv⟩ : ∃ bv, rr.getD zeroX = bv := ⟨_, rfl⟩
  obtain ⟨rb, hrb⟩ : ∃ rb, rr.isSome = rb := ⟨_, rfl⟩
  have hsv : bestV rr = .tuple #[paR bv, .bool rb] := by unfold bestV; rw [hbv, hrb]
  rw [hrr, hsv] at HB1 HBD
  obtain ⟨lf, hlf⟩ : ∃ lf, prefsI L = lf := ⟨_, rfl⟩
  obtain ⟨la, hla⟩ : ∃ la, pathsI L q = la := ⟨_, rfl⟩
  obtain ⟨lo, hlo⟩ : ∃ lo, overI L q.1 = lo := ⟨_, rfl⟩
  have hm1 : lf.length ≤ 1000 := by rw [← hlf]; exact Nat.le_trans hB.ninety (by decide)
  have hm2 : la.length ≤ 1000 := by rw [← hla]; exact Nat.le_trans (hB.four q) (by decide)
  have hm3 : lo.length ≤ 1000 := by rw [← hlo]; exact Nat.le_trans (overI_le L q.1) (Nat.le_trans hB.ninety (by decide))
  rw [hlf] at HF1 HFD
  rw [hla] at HPa HPD
  rw [hlo] at HOv HOD
  obtain ⟨n, hn⟩ : ∃ n, L.length = n := ⟨_, rfl⟩
  rw [hn] at HCn
  have HN := Lib.hid hn
  obtain ⟨m1, e1⟩ : ∃ m, lf.length = m := ⟨_, rfl⟩
  obtain ⟨m2, e2⟩ : ∃ m, la.length = m := ⟨_, rfl⟩
  obtain ⟨m3, e3⟩ : ∃ m, lo.length = m := ⟨_, rfl⟩
  rw [e1] at HF1 HFD hm1
  rw [e2] at HPa HPD hm2
  rw [e3] at HOv HOD hm3
  have HSf : Hid (∀ (A B : Option Addr) (c d b1 b2 : Nat) (W : World), W.ownsRow b1 32 4 (.slice A m1 c) m1 (lf.flatMap pfC) → W.ownsRow b2 32 4 (.slice B m1 d) m1 (lf.flatMap pfC) → Calls Tryz.prog 30 #[.slice A m1 c, .slice B m1 d] W fun e w' => e = .returned (.bool true) ∧ Tch W w' []) := Lib.hid (fun A B c d b1 b2 W h1 h2 => by
    have h9 := samePf A B m1 m1 c d lf lf e1 e1 hm1 hm1 W (own_mono h1 (Nat.zero_le _)) (own_mono h2 (Nat.zero_le _))
    rw [decide_eq_true rfl] at h9
    exact h9)
  have HSo : Hid (∀ (A B : Option Addr) (c d b1 b2 : Nat) (W : World), W.ownsRow b1 32 4 (.slice A m3 c) m3 (lo.flatMap pfC) → W.ownsRow b2 32 4 (.slice B m3 d) m3 (lo.flatMap pfC) → Calls Tryz.prog 30 #[.slice A m3 c, .slice B m3 d] W fun e w' => e = .returned (.bool true) ∧ Tch W w' []) := Lib.hid (fun A B c d b1 b2 W h1 h2 => by
    have h9 := samePf A B m3 m3 c d lo lo e3 e3 hm3 hm3 W (own_mono h1 (Nat.zero_le _)) (own_mono h2 (Nat.zero_le _))
    rw [decide_eq_true rfl] at h9
    exact h9)
  have HSa : Hid (∀ (A B : Option Addr) (c d b1 b2 : Nat) (W : World), W.ownsRow b1 34 7 (.slice A m2 c) m2 (la.flatMap paC) → W.ownsRow b2 34 7 (.slice B m2 d) m2 (la.flatMap paC) → Calls Tryz.prog 23 #[.slice A m2 c, .slice B m2 d] W fun e w' => e = .returned (.bool true) ∧ Tch W w' []) := Lib.hid (fun A B c d b1 b2 W h1 h2 => by
    have h9 := samePa A B m2 m2 c d la la e2 e2 hm2 hm2 W (own_mono h1 (Nat.zero_le _)) (own_mono h2 (Nat.zero_le _))
    rw [decide_eq_true rfl] at h9
    exact h9)
  have HSp := Lib.hid h.P.lt
  obtain ⟨⟨ps, ph, pl⟩, pb⟩ := q
  obtain ⟨bpr, bme, ⟨bs, bh, bl⟩, bpo, baw⟩ := bv
  have E1 : ∀ W, (binOp .neq 34 (.agg #[.int .i64 bpr, .int .i64 bme, .bool bs, .int .u64 (bh : Int), .int .u64 (bl : Int), .int .i64 bpo, .bool baw]) (.agg #[.int .i64 bpr, .int .i64 bme, .bool bs, .int .u64 (bh : Int), .int .u64 (bl : Int), .int .i64 bpo, .bool baw])).run Tryz.prog W = .ok (.bool (!true)) W := eq_neq _ _ _ (eq_paR (bpr, bme, (bs, bh, bl), bpo, baw) (bpr, bme, (bs, bh, bl), bpo, baw) (decide_eq_true rfl))
  have brb : (rb != rb) = false := by simp
  have bnn : ((n : Int) != (n : Int)) = false := by simp
  obtain ⟨xb, hxb⟩ : ∃ xb, w.heap.size = xb := ⟨_, rfl⟩
  obtain ⟨W0, hW0⟩ : ∃ W, w.alloc (.cells #[.bool ps, .int .u64 (ph : Int), .int .u64 (pl : Int), .int .i64 pb] 32) = W := ⟨_, rfl⟩
  have hX : Blk W0 xb 32 #[.bool ps, .int .u64 (ph : Int), .int .u64 (pl : Int), .int .i64 pb] := hW0 ▸ hxb ▸ Blk.new _ _ _
  have HX := Lib.hid hX
  have HT0 : Hid (Tch w W0 []) := Lib.hid (hW0 ▸ (Tch.refl w []).alloc _)
  have H0 := Lib.hid (h.tch0 HT0.out)
  have HW0 := Lib.hid (And.intro hW0 hxb)
  have HXc : Hid (∀ W, Tch W0 W Sp → Blk W xb 32 #[.bool ps, .int .u64 (ph : Int), .int .u64 (pl : Int), .int .i64 pb]) := Lib.hid (fun W hT => keep_blkR HX.out hT (by rw [← hxb]; exact HSp.out) (Nat.le_refl _))
  have HXl : Hid (∀ s ∈ Sp, s < xb) := Lib.hid (by rw [← hxb]; exact HSp.out)
  clear h hX hW0 hxb hB hL hq hrr hbv hrb hsv hlf hla hlo hm1 hm2 hm3 hn e1 e2 e3
  go_enter Tryz.func10, Tryz.ntmps10
  go_wp2_with fail
  rw [HW0.out.1, HW0.out.2]
  refine Calls.mono (HB1.out W0 H0.out.P) ?_
  rintro e w1 ⟨rfl, hP, hTa⟩
  obtain ⟨W1, hW1⟩ : ∃ W, w1.alloc (.cells #[.int .i64 bpr, .int .i64 bme, .bool bs, .int .u64 (bh : Int), .int .u64 (bl : Int), .int .i64 bpo, .bool baw] 34) = W := ⟨_, rfl⟩
  obtain ⟨g1, hg1⟩ : ∃ g, w1.heap.size = g := ⟨_, rfl⟩
  have V1 : Hid (Blk W1 g1 34 #[.int .i64 bpr, .int .i64 bme, .bool bs, .int .u64 (bh : Int), .int .u64 (bl : Int), .int .i64 bpo, .bool baw]) := Lib.hid (hW1 ▸ hg1 ▸ Blk.new _ _ _)
  have Y1 : Hid (TwoR W1 p Sp t St L) := Lib.hid (hW1 ▸ (H0.out.readP hP hTa).alloc _)
  have T1 : Hid (Tch W0 W1 Sp) := Lib.hid (hW1 ▸ hTa.alloc _)
  have G1 : Hid (xb ≤ g1) := Lib.hid (by have h1 := hTa.size; have h2 := HX.out.lt; omega)
  have Hw1 := Lib.hid (And.intro hW1 hg1)
  obtain ⟨x0, x1, x2, x3⟩ := (HXc.out W1 T1.out).c4
  rw [← hW1] at x0 x1 x2 x3
  clear hW1 hg1 hP hTa
  go_wp2_with fail
  rw [Hw1.out.1, Hw1.out.2]
  refine Calls.mono (HBD.out W1 Y1.out.D) ?_
  rintro e w2 ⟨rfl, hTb⟩
  obtain ⟨W2, hW2⟩ : ∃ W, w2.alloc (.cells #[.int .i64 bpr, .int .i64 bme, .bool bs, .int .u64 (bh : Int), .int .u64 (bl : Int), .int .i64 bpo, .bool baw] 34) = W := ⟨_, rfl⟩
  obtain ⟨g2, hg2⟩ : ∃ g, w2.heap.size = g := ⟨_, rfl⟩
  have V2 : Hid (Blk W2 g2 34 #[.int .i64 bpr, .int .i64 bme, .bool bs, .int .u64 (bh : Int), .int .u64 (bl : Int), .int .i64 bpo, .bool baw]) := Lib.hid (hW2 ▸ hg2 ▸ Blk.new _ _ _)
  have D2 : Hid (Tch W1 W2 []) := Lib.hid (hW2 ▸ hTb.alloc _)
  have Y2 := Lib.hid (Y1.out.tch0 D2.out)
  have T2 : Hid (Tch W0 W2 Sp) := Lib.hid (T1.out.trans (D2.out.mono (by simp)))
  have G2 : Hid (xb ≤ g2) := Lib.hid (by have h1 := G1.out; have h2 := V1.out.lt; have h3 := hTb.size; omega)
  have Hw2 := Lib.hid (And.intro hW2 hg2)
  clear hW2 hg2 hTb x0 x1 x2 x3
  go_wp2_with fail
  rw [Hw2.out.1, Hw2.out.2]
  refine Calls.mono (HF1.out W2 Y2.out.P) ?_
  rintro e w3 ⟨Ap, cp, rfl, ho3, hP3, hT3⟩
  have Y3 := Lib.hid (Y2.out.readP hP3 hT3)
  have T3 : Hid (Tch W0 w3 Sp) := Lib.hid (T2.out.trans hT3)
  have HO3 := Lib.hid ho3
  have D3 := Lib.hid hT3
  have HBs : Hid (xb ≤ W2.heap.size) := Lib.hid (by have h1 := G2.out; have h2 := V2.out.lt; omega)
  obtain ⟨Aq, cq, c0, -, htl, -⟩ := Y3.out.D.head
  rw [HN.out] at c0
  have HC0 := Lib.hid (And.intro c0 htl)
  have HtS : Hid (t ∉ Sp) := Lib.hid (fun hm => Y3.out.dis t hm Y3.out.D.tin)
  have HRd : Hid (∀ W, Tch w3 W Sp → ((W.cell? ⟨g1, 0, none⟩ = some (Value.int .i64 bpr) ∧ W.cell? ⟨g1, 1, none⟩ = some (Value.int .i64 bme) ∧ W.cell? ⟨g1, 2, none⟩ = some (Value.bool bs) ∧ W.cell? ⟨g1, 3, none⟩ = some (Value.int .u64 (bh : Int)) ∧ W.cell? ⟨g1, 4, none⟩ = some (Value.int .u64 (bl : Int)) ∧ W.cell? ⟨g1, 5, none⟩ = some (Value.int .i64 bpo) ∧ W.cell? ⟨g1, 6, none⟩ = some (Value.bool baw)) ∧ (W.cell? ⟨g2, 0, none⟩ = some (Value.int .i64 bpr) ∧ W.cell? ⟨g2, 1, none⟩ = some (Value.int .i64 bme) ∧ W.cell? ⟨g2, 2, none⟩ = some (Value.bool bs) ∧ W.cell? ⟨g2, 3, none⟩ = some (Value.int .u64 (bh : Int)) ∧ W.cell? ⟨g2, 4, none⟩ = some (Value.int .u64 (bl : Int)) ∧ W.cell? ⟨g2, 5, none⟩ = some (Value.int .i64 bpo) ∧ W.cell? ⟨g2, 6, none⟩ = some (Value.bool baw)) ∧ W.cell? ⟨t, 0, none⟩ = some (Value.slice Aq n cq))) := Lib.hid (fun W hW => ⟨(keep_blkR V1.out ((D2.out.mono (by simp)).trans (D3.out.trans hW)) HXl.out G1.out).c7, (keep_blkR V2.out (D3.out.trans hW) HXl.out G2.out).c7, (hW.cell (p := ⟨t, 0, none⟩) HC0.out.2 HtS.out).trans HC0.out.1⟩)
  have hYT : Hid (TwoR w3 p Sp t St L ∧ Tch w3 w3 Sp) := Lib.hid (And.intro Y3.out (Tch.refl _ _))
  clear ho3 hP3 hT3 c0 htl
  go_wp2_with fail
  replace hYT := Lib.hid (And.intro (hYT.out.1.tch0 (Tch.refl _ []).drew) hYT.out.2.drew)
  refine wp_region_held_drew (S := (fun W => (W.cell? ⟨g1, 0, none⟩ = some (Value.int .i64 bpr) ∧ W.cell? ⟨g1, 1, none⟩ = some (Value.int .i64 bme) ∧ W.cell? ⟨g1, 2, none⟩ = some (Value.bool bs) ∧ W.cell? ⟨g1, 3, none⟩ = some (Value.int .u64 (bh : Int)) ∧ W.cell? ⟨g1, 4, none⟩ = some (Value.int .u64 (bl : Int)) ∧ W.cell? ⟨g1, 5, none⟩ = some (Value.int .i64 bpo) ∧ W.cell? ⟨g1, 6, none⟩ = some (Value.bool baw)) ∧ (W.cell? ⟨g2, 0, none⟩ = some (Value.int .i64 bpr) ∧ W.cell? ⟨g2, 1, none⟩ = some (Value.int .i64 bme) ∧ W.cell? ⟨g2, 2, none⟩ = some (Value.bool bs) ∧ W.cell? ⟨g2, 3, none⟩ = some (Value.int .u64 (bh : Int)) ∧ W.cell? ⟨g2, 4, none⟩ = some (Value.int .u64 (bl : Int)) ∧ W.cell? ⟨g2, 5, none⟩ = some (Value.int .i64 bpo) ∧ W.cell? ⟨g2, 6, none⟩ = some (Value.bool baw)) ∧ W.cell? ⟨t, 0, none⟩ = some (Value.slice Aq n cq))) (by kernel_rfl) ?_ (fun hHeld => ?_)
  · (exact HRd.out _ hYT.out.2)
  refine wpAnyH_take (i := 0) (oi := { dst := some 26, op := Go.Op.load 34 (Go.Operand.tmp 7), type := 34, pos := "law.go:70", after := #[], guard := none }) (v := ?_) rfl (by kernel_rfl) (by kernel_rfl) (by kernel_rfl) (fun _ _ _ h => h) (Or.inl ⟨by rfl, ?_⟩) (by assumption) ?_
  rotate_left
  · intro w hSw
    (try dsimp only at hSw)
    go_simp
    try (with_reducible rfl)
  try simp only [Act.put, List.setIfInBounds_toArray, List.set_cons_zero, List.set_cons_succ]
  refine wpAnyH_take (i := 1) (oi := { dst := some 27, op := Go.Op.load 34 (Go.Operand.tmp 9), type := 34, pos := "law.go:70", after := #[], guard := none }) (v := ?_) rfl (by kernel_rfl) (by kernel_rfl) (by kernel_rfl) (fun _ _ _ h => h) (Or.inl ⟨by rfl, ?_⟩) (by assumption) ?_
  rotate_left
  · intro w hSw
    (try dsimp only at hSw)
    go_simp
    try (with_reducible rfl)
  try simp only [Act.put, List.setIfInBounds_toArray, List.set_cons_zero, List.set_cons_succ]
  refine wpAnyH_take (i := 2) (oi := { dst := some 28, op := Go.Op.binOp Go.BinOp.neq 34 (Go.Operand.tmp 26) (Go.Operand.tmp 27) 34, type := 4, pos := "law.go:70", after := #[{ on := 0, ground := Go.Ground.data }, { on := 1, ground := Go.Ground.data }], guard := none }) (v := ?_) rfl (by kernel_rfl) (by kernel_rfl) (by kernel_rfl) (fun _ _ _ h => h) (Or.inl ⟨by rfl, ?_⟩) (by assumption) ?_
  rotate_left
  · intro w hSw
    (try dsimp only at hSw)
    go_simp
    try (with_reducible rfl)
  try simp only [Act.put, List.setIfInBounds_toArray, List.set_cons_zero, List.set_cons_succ]
  refine wpAnyH_take (i := 3) (oi := { dst := some 29, op := Go.Op.move (Go.Operand.tmp 28), type := 4, pos := "law.go:70", after := #[{ on := 2, ground := Go.Ground.data }], guard := none }) (v := ?_) rfl (by kernel_rfl) (by kernel_rfl) (by kernel_rfl) (fun _ _ _ h => h) (Or.inl ⟨by rfl, ?_⟩) (by assumption) ?_
  rotate_left
  · intro w hSw
    (try dsimp only at hSw)
    go_simp
    try (with_reducible rfl)
  try simp only [Act.put, List.setIfInBounds_toArray, List.set_cons_zero, List.set_cons_succ]
  refine wpAnyH_take (i := 4) (oi := { dst := some 30, op := Go.Op.move (Go.Operand.tmp 8), type := 4, pos := "law.go:70", after := #[{ on := 3, ground := Go.Ground.guard }], guard := some (3, false) }) (v := ?_) rfl (by kernel_rfl) (by kernel_rfl) (by kernel_rfl) (fun _ _ _ h => h) (Or.inl ⟨by rfl, ?_⟩) (by assumption) ?_
  rotate_left
  · intro w hSw
    (try dsimp only at hSw)
    go_simp
    try (with_reducible rfl)
  try simp only [Act.put, List.setIfInBounds_toArray, List.set_cons_zero, List.set_cons_succ]
  refine wpAnyH_take (i := 5) (oi := { dst := some 31, op := Go.Op.move (Go.Operand.tmp 10), type := 4, pos := "law.go:70", after := #[{ on := 3, ground := Go.Ground.guard }], guard := some (3, false) }) (v := ?_) rfl (by kernel_rfl) (by kernel_rfl) (by kernel_rfl) (fun _ _ _ h => h) (Or.inl ⟨by rfl, ?_⟩) (by assumption) ?_
  rotate_left
  · intro w hSw
    (try dsimp only at hSw)
    go_simp
    try (with_reducible rfl)
  try simp only [Act.put, List.setIfInBounds_toArray, List.set_cons_zero, List.set_cons_succ]
  refine wpAnyH_take (i := 6) (oi := { dst := some 32, op := Go.Op.binOp Go.BinOp.neq 4 (Go.Operand.tmp 30) (Go.Operand.tmp 31) 4, type := 4, pos := "law.go:70", after := #[{ on := 4, ground := Go.Ground.data }, { on := 5, ground := Go.Ground.data }, { on := 3, ground := Go.Ground.guard }], guard := some (3, false) }) (v := ?_) rfl (by kernel_rfl) (by kernel_rfl) (by kernel_rfl) (fun _ _ _ h => h) (Or.inl ⟨by rfl, ?_⟩) (by assumption) ?_
  rotate_left
  · intro w hSw
    (try dsimp only at hSw)
    go_simp
    try (with_reducible rfl)
  try simp only [Act.put, List.setIfInBounds_toArray, List.set_cons_zero, List.set_cons_succ]
  refine wpAnyH_take (i := 7) (oi := { dst := some 33, op := Go.Op.pick (Go.Operand.tmp 29) (Go.Operand.const (Go.Value.bool true)) (Go.Operand.tmp 32), type := 4, pos := "law.go:70", after := #[{ on := 3, ground := Go.Ground.data }, { on := 6, ground := Go.Ground.data }], guard := none }) (v := ?_) rfl (by kernel_rfl) (by kernel_rfl) (by kernel_rfl) (fun _ _ _ h => h) (Or.inl ⟨by rfl, ?_⟩) (by assumption) ?_
  rotate_left
  · intro w hSw
    (try dsimp only at hSw)
    go_simp
    try (with_reducible rfl)
  try simp only [Act.put, List.setIfInBounds_toArray, List.set_cons_zero, List.set_cons_succ]
  refine wpAnyH_take (i := 8) (oi := { dst := some 34, op := Go.Op.move (Go.Operand.tmp 33), type := 4, pos := "law.go:70", after := #[{ on := 7, ground := Go.Ground.data }, { on := 3, ground := Go.Ground.chain }], guard := none }) (v := ?_) rfl (by kernel_rfl) (by kernel_rfl) (by kernel_rfl) (fun _ _ _ h => h) (Or.inl ⟨by rfl, ?_⟩) (by assumption) ?_
  rotate_left
  · intro w hSw
    (try dsimp only at hSw)
    go_simp
    try (with_reducible rfl)
  try simp only [Act.put, List.setIfInBounds_toArray, List.set_cons_zero, List.set_cons_succ]
  refine wpAnyH_take (i := 9) (oi := { dst := some 35, op := Go.Op.move (Go.Operand.tmp 0), type := 24, pos := "law.go:70", after := #[{ on := 8, ground := Go.Ground.guard }], guard := some (8, false) }) (v := ?_) rfl (by kernel_rfl) (by kernel_rfl) (by kernel_rfl) (fun _ _ _ h => h) (Or.inl ⟨by rfl, ?_⟩) (by assumption) ?_
  rotate_left
  · intro w hSw
    (try dsimp only at hSw)
    go_simp
    try (with_reducible rfl)
  try simp only [Act.put, List.setIfInBounds_toArray, List.set_cons_zero, List.set_cons_succ]
  refine wpAnyH_take (i := 11) (oi := { dst := some 37, op := Go.Op.move (Go.Operand.tmp 1), type := 26, pos := "law.go:70", after := #[{ on := 8, ground := Go.Ground.guard }], guard := some (8, false) }) (v := ?_) rfl (by kernel_rfl) (by kernel_rfl) (by kernel_rfl) (fun _ _ _ h => h) (Or.inl ⟨by rfl, ?_⟩) (by assumption) ?_
  rotate_left
  · intro w hSw
    (try dsimp only at hSw)
    go_simp
    try (with_reducible rfl)
  try simp only [Act.put, List.setIfInBounds_toArray, List.set_cons_zero, List.set_cons_succ]
  refine wpAnyH_take (i := 12) (oi := { dst := some 38, op := Go.Op.nilCheck (Go.Operand.tmp 37), type := 0, pos := "law.go:70", after := #[{ on := 11, ground := Go.Ground.data }, { on := 8, ground := Go.Ground.guard }], guard := some (8, false) }) (v := ?_) rfl (by kernel_rfl) (by kernel_rfl) (by kernel_rfl) (fun _ _ _ h => h) (Or.inl ⟨by rfl, ?_⟩) (by assumption) ?_
  rotate_left
  · intro w hSw
    (try dsimp only at hSw)
    go_simp
    try (with_reducible rfl)
  try simp only [Act.put, List.setIfInBounds_toArray, List.set_cons_zero, List.set_cons_succ]
  refine wpAnyH_take (i := 13) (oi := { dst := some 39, op := Go.Op.fieldAddr 64 (Go.Operand.tmp 38) 0, type := 0, pos := "law.go:70", after := #[{ on := 12, ground := Go.Ground.data }, { on := 8, ground := Go.Ground.guard }], guard := some (8, false) }) (v := ?_) rfl (by kernel_rfl) (by kernel_rfl) (by kernel_rfl) (fun _ _ _ h => h) (Or.inl ⟨by rfl, ?_⟩) (by assumption) ?_
  rotate_left
  · intro w hSw
    (try dsimp only at hSw)
    go_simp
    try (with_reducible rfl)
  try simp only [Act.put, List.setIfInBounds_toArray, List.set_cons_zero, List.set_cons_succ]
  refine wpAnyH_take (i := 14) (oi := { dst := some 40, op := Go.Op.load 62 (Go.Operand.tmp 39), type := 62, pos := "law.go:70", after := #[{ on := 13, ground := Go.Ground.data }, { on := 8, ground := Go.Ground.guard }], guard := some (8, false) }) (v := ?_) rfl (by kernel_rfl) (by kernel_rfl) (by kernel_rfl) (fun _ _ _ h => h) (Or.inl ⟨by rfl, ?_⟩) (by assumption) ?_
  rotate_left
  · intro w hSw
    (try dsimp only at hSw)
    go_simp
    try (with_reducible rfl)
  try simp only [Act.put, List.setIfInBounds_toArray, List.set_cons_zero, List.set_cons_succ]
  refine wpAnyH_take (i := 15) (oi := { dst := some 41, op := Go.Op.call { callee := Go.Callee.builtin Go.Builtin.len, args := #[Go.Operand.tmp 40], argTypes := #[62] }, type := 3, pos := "law.go:70", after := #[{ on := 14, ground := Go.Ground.data }, { on := 8, ground := Go.Ground.guard }], guard := some (8, false) }) (v := ?_) rfl (by kernel_rfl) (by kernel_rfl) (by kernel_rfl) (fun _ _ _ h => h) (Or.inl ⟨by rfl, ?_⟩) (by assumption) ?_
  rotate_left
  · intro w hSw
    (try dsimp only at hSw)
    go_simp
    try (with_reducible rfl)
  try simp only [Act.put, List.setIfInBounds_toArray, List.set_cons_zero, List.set_cons_succ]
  refine wpAnyH_ready (rs := [10]) (by kernel_rfl) (by simp) ?_
  refine AllReadyH.cons (o := { dst := some 36, op := Go.Op.call { callee := Go.Callee.value (Go.Operand.func 20), args := #[Go.Operand.tmp 35], argTypes := #[24] }, type := 3, pos := "law.go:70", after := #[{ on := 9, ground := Go.Ground.data }, { on := 8, ground := Go.Ground.chain }, { on := 8, ground := Go.Ground.guard }], guard := some (8, false) }) rfl (fun K hK => ?_) AllReadyH.nil
  go_simp
  (go_at_call 20; (with_reducible refine Calls.mono (HCn.out _ hYT.out.1.P) ?_); rintro e W' ⟨rfl, hP', hT'⟩; replace hYT := Lib.hid (And.intro (hYT.out.1.readP hP' hT') (hYT.out.2.trans hT')); clear hP' hT')
  go_wp2_with fail
  refine hK.out _ _ ?_ (fun hHeld => ?_)
  · (exact HRd.out _ hYT.out.2)
  clear hK K
  try simp only [Act.put, List.setIfInBounds_toArray, List.set_cons_zero, List.set_cons_succ]
  refine wpAnyH_take (i := 16) (oi := { dst := some 42, op := Go.Op.binOp Go.BinOp.neq 3 (Go.Operand.tmp 36) (Go.Operand.tmp 41) 3, type := 4, pos := "law.go:70", after := #[{ on := 10, ground := Go.Ground.data }, { on := 15, ground := Go.Ground.data }, { on := 8, ground := Go.Ground.guard }], guard := some (8, false) }) (v := ?_) rfl (by kernel_rfl) (by kernel_rfl) (by kernel_rfl) (fun _ _ _ h => h) (Or.inl ⟨by rfl, ?_⟩) (by assumption) ?_
  rotate_left
  · intro w hSw
    (try dsimp only at hSw)
    go_simp
    try (with_reducible rfl)
  try simp only [Act.put, List.setIfInBounds_toArray, List.set_cons_zero, List.set_cons_succ]
  refine wpAnyH_take (i := 17) (oi := { dst := some 43, op := Go.Op.pick (Go.Operand.tmp 34) (Go.Operand.const (Go.Value.bool true)) (Go.Operand.tmp 42), type := 4, pos := "law.go:70", after := #[{ on := 8, ground := Go.Ground.data }, { on := 16, ground := Go.Ground.data }], guard := none }) (v := ?_) rfl (by kernel_rfl) (by kernel_rfl) (by kernel_rfl) (fun _ _ _ h => h) (Or.inl ⟨by rfl, ?_⟩) (by assumption) ?_
  rotate_left
  · intro w hSw
    (try dsimp only at hSw)
    go_simp
    try (with_reducible rfl)
  try simp only [Act.put, List.setIfInBounds_toArray, List.set_cons_zero, List.set_cons_succ]
  refine wpAnyH_take (i := 18) (oi := { dst := some 44, op := Go.Op.move (Go.Operand.tmp 43), type := 4, pos := "law.go:70", after := #[{ on := 17, ground := Go.Ground.data }, { on := 10, ground := Go.Ground.chain }], guard := none }) (v := ?_) rfl (by kernel_rfl) (by kernel_rfl) (by kernel_rfl) (fun _ _ _ h => h) (Or.inl ⟨by rfl, ?_⟩) (by assumption) ?_
  rotate_left
  · intro w hSw
    (try dsimp only at hSw)
    go_simp
    try (with_reducible rfl)
  try simp only [Act.put, List.setIfInBounds_toArray, List.set_cons_zero, List.set_cons_succ]
  refine wpAnyH_take (i := 19) (oi := { dst := some 45, op := Go.Op.move (Go.Operand.tmp 11), type := 44, pos := "law.go:70", after := #[{ on := 18, ground := Go.Ground.guard }], guard := some (18, false) }) (v := ?_) rfl (by kernel_rfl) (by kernel_rfl) (by kernel_rfl) (fun _ _ _ h => h) (Or.inl ⟨by rfl, ?_⟩) (by assumption) ?_
  rotate_left
  · intro w hSw
    (try dsimp only at hSw)
    go_simp
    try (with_reducible rfl)
  try simp only [Act.put, List.setIfInBounds_toArray, List.set_cons_zero, List.set_cons_succ]
  refine wpAnyH_take (i := 20) (oi := { dst := some 46, op := Go.Op.move (Go.Operand.tmp 1), type := 26, pos := "law.go:70", after := #[{ on := 18, ground := Go.Ground.guard }], guard := some (18, false) }) (v := ?_) rfl (by kernel_rfl) (by kernel_rfl) (by kernel_rfl) (fun _ _ _ h => h) (Or.inl ⟨by rfl, ?_⟩) (by assumption) ?_
  rotate_left
  · intro w hSw
    (try dsimp only at hSw)
    go_simp
    try (with_reducible rfl)
  try simp only [Act.put, List.setIfInBounds_toArray, List.set_cons_zero, List.set_cons_succ]
  refine wpAnyH_ready (rs := [21]) (by kernel_rfl) (by simp) ?_
  refine AllReadyH.cons (o := { dst := some 47, op := Go.Op.call { callee := Go.Callee.value (Go.Operand.func 31), args := #[Go.Operand.tmp 46], argTypes := #[26] }, type := 44, pos := "law.go:70", after := #[{ on := 20, ground := Go.Ground.data }, { on := 18, ground := Go.Ground.chain }, { on := 18, ground := Go.Ground.guard }], guard := some (18, false) }) rfl (fun K hK => ?_) AllReadyH.nil
  go_simp
  (go_at_call 31; (with_reducible refine Calls.mono (HFD.out _ hYT.out.1.D) ?_); rintro e W5 ⟨Ad, cd, rfl, ho5, hT'⟩; replace hYT := Lib.hid (And.intro (hYT.out.1.tch0 hT') (hYT.out.2.trans (hT'.mono (T := Sp) (by simp)))); have HO5 := Lib.hid ho5; have HO4 : Hid (W5.ownsRow W2.heap.size 32 4 (.slice Ap m1 cp) m1 (lf.flatMap pfC)) := Lib.hid (own_tch HO3.out hYT.out.2 (fun s hs hm => by have h1 := (own_geI HO3.out s hs).1; have h2 := HXl.out s hm; have h3 := HBs.out; omega)); clear ho5 hT')
  go_wp2_with fail
  refine hK.out _ _ ?_ (fun hHeld => ?_)
  · (exact HRd.out _ hYT.out.2)
  clear hK K
  try simp only [Act.put, List.setIfInBounds_toArray, List.set_cons_zero, List.set_cons_succ]
  refine wpAnyH_ready (rs := [22]) (by kernel_rfl) (by simp) ?_
  refine AllReadyH.cons (o := { dst := some 48, op := Go.Op.call { callee := Go.Callee.value (Go.Operand.func 30), args := #[Go.Operand.tmp 45, Go.Operand.tmp 47], argTypes := #[44, 44] }, type := 4, pos := "law.go:70", after := #[{ on := 19, ground := Go.Ground.data }, { on := 21, ground := Go.Ground.data }, { on := 21, ground := Go.Ground.chain }, { on := 18, ground := Go.Ground.guard }], guard := some (18, false) }) rfl (fun K hK => ?_) AllReadyH.nil
  go_simp
  (go_at_call 30; (with_reducible refine Calls.mono (HSf.out _ _ _ _ _ _ _ HO4.out HO5.out) ?_); rintro e W6 ⟨rfl, hT'⟩; replace hYT := Lib.hid (And.intro (hYT.out.1.tch0 hT') (hYT.out.2.trans (hT'.mono (T := Sp) (by simp)))); clear hT')
  go_wp2_with fail
  refine hK.out _ _ ?_ (fun hHeld => ?_)
  · (exact HRd.out _ hYT.out.2)
  clear hK K
  try simp only [Act.put, List.setIfInBounds_toArray, List.set_cons_zero, List.set_cons_succ]
  refine wpAnyH_take (i := 23) (oi := { dst := some 49, op := Go.Op.unOp Go.UnOp.not 4 (Go.Operand.tmp 48), type := 4, pos := "law.go:70", after := #[{ on := 22, ground := Go.Ground.data }, { on := 18, ground := Go.Ground.guard }], guard := some (18, false) }) (v := ?_) rfl (by kernel_rfl) (by kernel_rfl) (by kernel_rfl) (fun _ _ _ h => h) (Or.inl ⟨by rfl, ?_⟩) (by assumption) ?_
  rotate_left
  · intro w hSw
    (try dsimp only at hSw)
    go_simp
    try (with_reducible rfl)
  try simp only [Act.put, List.setIfInBounds_toArray, List.set_cons_zero, List.set_cons_succ]
  refine wpAnyH_take (i := 24) (oi := { dst := some 50, op := Go.Op.pick (Go.Operand.tmp 44) (Go.Operand.const (Go.Value.bool true)) (Go.Operand.tmp 49), type := 4, pos := "law.go:70", after := #[{ on := 18, ground := Go.Ground.data }, { on := 23, ground := Go.Ground.data }], guard := none }) (v := ?_) rfl (by kernel_rfl) (by kernel_rfl) (by kernel_rfl) (fun _ _ _ h => h) (Or.inl ⟨by rfl, ?_⟩) (by assumption) ?_
  rotate_left
  · intro w hSw
    (try dsimp only at hSw)
    go_simp
    try (with_reducible rfl)
  try simp only [Act.put, List.setIfInBounds_toArray, List.set_cons_zero, List.set_cons_succ]
  refine wpAnyH_done (by kernel_rfl) ?_ _
  have T6 : Hid (Tch W0 W6 Sp) := Lib.hid (T3.out.trans hYT.out.2)
  clear HO4 HO5
  replace hYT : Hid (TwoR W6 p Sp t St L ∧ Tch W0 W6 Sp) := Lib.hid (And.intro hYT.out.1 T6.out)
  go_wp2_with fail
  replace hYT := Lib.hid (And.intro (hYT.out.1.tch0 (Tch.refl _ []).drew) hYT.out.2.drew)
  refine wp_region_held_drew (S := (fun W => W.cell? ⟨xb, 0, none⟩ = some (Value.bool ps) ∧ W.cell? ⟨xb, 1, none⟩ = some (Value.int .u64 (ph : Int)) ∧ W.cell? ⟨xb, 2, none⟩ = some (Value.int .u64 (pl : Int)) ∧ W.cell? ⟨xb, 3, none⟩ = some (Value.int .i64 pb))) (by kernel_rfl) ?_ (fun hHeld => ?_)
  · (exact (HXc.out _ hYT.out.2).c4)
  refine wpAnyH_take (i := 0) (oi := { dst := some 51, op := Go.Op.move (Go.Operand.tmp 0), type := 24, pos := "law.go:73", after := #[], guard := none }) (v := ?_) rfl (by kernel_rfl) (by kernel_rfl) (by kernel_rfl) (fun _ _ _ h => h) (Or.inl ⟨by rfl, ?_⟩) (by assumption) ?_
  rotate_left
  · intro w hSw
    (try dsimp only at hSw)
    go_simp
    try (with_reducible rfl)
  try simp only [Act.put, List.setIfInBounds_toArray, List.set_cons_zero, List.set_cons_succ]
  refine wpAnyH_take (i := 1) (oi := { dst := some 52, op := Go.Op.load 32 (Go.Operand.tmp 5), type := 32, pos := "law.go:73", after := #[], guard := none }) (v := ?_) rfl (by kernel_rfl) (by kernel_rfl) (by kernel_rfl) (fun _ _ _ h => h) (Or.inl ⟨by rfl, ?_⟩) (by assumption) ?_
  rotate_left
  · intro w hSw
    (try dsimp only at hSw)
    go_simp
    try (with_reducible rfl)
  try simp only [Act.put, List.setIfInBounds_toArray, List.set_cons_zero, List.set_cons_succ]
  refine wpAnyH_take (i := 3) (oi := { dst := some 54, op := Go.Op.move (Go.Operand.tmp 1), type := 26, pos := "law.go:73", after := #[], guard := none }) (v := ?_) rfl (by kernel_rfl) (by kernel_rfl) (by kernel_rfl) (fun _ _ _ h => h) (Or.inl ⟨by rfl, ?_⟩) (by assumption) ?_
  rotate_left
  · intro w hSw
    (try dsimp only at hSw)
    go_simp
    try (with_reducible rfl)
  try simp only [Act.put, List.setIfInBounds_toArray, List.set_cons_zero, List.set_cons_succ]
  refine wpAnyH_take (i := 4) (oi := { dst := some 55, op := Go.Op.load 32 (Go.Operand.tmp 5), type := 32, pos := "law.go:73", after := #[], guard := none }) (v := ?_) rfl (by kernel_rfl) (by kernel_rfl) (by kernel_rfl) (fun _ _ _ h => h) (Or.inl ⟨by rfl, ?_⟩) (by assumption) ?_
  rotate_left
  · intro w hSw
    (try dsimp only at hSw)
    go_simp
    try (with_reducible rfl)
  try simp only [Act.put, List.setIfInBounds_toArray, List.set_cons_zero, List.set_cons_succ]
  refine wpAnyH_ready (rs := [2]) (by kernel_rfl) (by simp) ?_
  refine AllReadyH.cons (o := { dst := some 53, op := Go.Op.call { callee := Go.Callee.value (Go.Operand.func 11), args := #[Go.Operand.tmp 51, Go.Operand.tmp 52], argTypes := #[24, 32] }, type := 42, pos := "law.go:73", after := #[{ on := 0, ground := Go.Ground.data }, { on := 1, ground := Go.Ground.data }], guard := none }) rfl (fun K hK => ?_) AllReadyH.nil
  go_simp
  (go_at_call 11; (with_reducible refine Calls.mono (HPa.out _ hYT.out.1.P) ?_); rintro e W7 ⟨A7, c7, rfl, ho7, hP', hT'⟩; replace hYT := Lib.hid (And.intro (hYT.out.1.readP hP' hT') (hYT.out.2.trans hT')); have HO7 := Lib.hid ho7; clear ho7 hP' hT')
  go_wp2_with fail
  refine hK.out _ _ ?_ (fun hHeld => ?_)
  · (exact (HXc.out _ hYT.out.2).c4)
  clear hK K
  try simp only [Act.put, List.setIfInBounds_toArray, List.set_cons_zero, List.set_cons_succ]
  refine wpAnyH_ready (rs := [5]) (by kernel_rfl) (by simp) ?_
  refine AllReadyH.cons (o := { dst := some 56, op := Go.Op.call { callee := Go.Callee.value (Go.Operand.func 32), args := #[Go.Operand.tmp 54, Go.Operand.tmp 55], argTypes := #[26, 32] }, type := 42, pos := "law.go:73", after := #[{ on := 3, ground := Go.Ground.data }, { on := 4, ground := Go.Ground.data }, { on := 2, ground := Go.Ground.chain }], guard := none }) rfl (fun K hK => ?_) AllReadyH.nil
  go_simp
  (go_at_call 32; (with_reducible refine Calls.mono (HPD.out _ hYT.out.1.D) ?_); rintro e W8 ⟨A8, c8, rfl, ho8, hT'⟩; replace hYT := Lib.hid (And.intro (hYT.out.1.tch0 hT') (hYT.out.2.trans (hT'.mono (T := Sp) (by simp)))); have HO8 := Lib.hid ho8; have HO9 := Lib.hid (own_tch HO7.out hT' (by simp)); clear ho8 hT')
  go_wp2_with fail
  refine hK.out _ _ ?_ (fun hHeld => ?_)
  · (exact (HXc.out _ hYT.out.2).c4)
  clear hK K
  try simp only [Act.put, List.setIfInBounds_toArray, List.set_cons_zero, List.set_cons_succ]
  refine wpAnyH_ready (rs := [6]) (by kernel_rfl) (by simp) ?_
  refine AllReadyH.cons (o := { dst := some 57, op := Go.Op.call { callee := Go.Callee.value (Go.Operand.func 23), args := #[Go.Operand.tmp 53, Go.Operand.tmp 56], argTypes := #[42, 42] }, type := 4, pos := "law.go:73", after := #[{ on := 2, ground := Go.Ground.data }, { on := 5, ground := Go.Ground.data }, { on := 5, ground := Go.Ground.chain }], guard := none }) rfl (fun K hK => ?_) AllReadyH.nil
  go_simp
  (go_at_call 23; (with_reducible refine Calls.mono (HSa.out _ _ _ _ _ _ _ HO9.out HO8.out) ?_); rintro e W9 ⟨rfl, hT'⟩; replace hYT := Lib.hid (And.intro (hYT.out.1.tch0 hT') (hYT.out.2.trans (hT'.mono (T := Sp) (by simp)))); clear hT')
  go_wp2_with fail
  refine hK.out _ _ ?_ (fun hHeld => ?_)
  · (exact (HXc.out _ hYT.out.2).c4)
  clear hK K
  try simp only [Act.put, List.setIfInBounds_toArray, List.set_cons_zero, List.set_cons_succ]
  refine wpAnyH_take (i := 7) (oi := { dst := some 58, op := Go.Op.move (Go.Operand.tmp 57), type := 4, pos := "law.go:73", after := #[{ on := 6, ground := Go.Ground.data }, { on := 6, ground := Go.Ground.chain }], guard := none }) (v := ?_) rfl (by kernel_rfl) (by kernel_rfl) (by kernel_rfl) (fun _ _ _ h => h) (Or.inl ⟨by rfl, ?_⟩) (by assumption) ?_
  rotate_left
  · intro w hSw
    (try dsimp only at hSw)
    go_simp
    try (with_reducible rfl)
  try simp only [Act.put, List.setIfInBounds_toArray, List.set_cons_zero, List.set_cons_succ]
  refine wpAnyH_take (i := 8) (oi := { dst := some 59, op := Go.Op.move (Go.Operand.tmp 0), type := 24, pos := "law.go:73", after := #[{ on := 7, ground := Go.Ground.guard }], guard := some (7, true) }) (v := ?_) rfl (by kernel_rfl) (by kernel_rfl) (by kernel_rfl) (fun _ _ _ h => h) (Or.inl ⟨by rfl, ?_⟩) (by assumption) ?_
  rotate_left
  · intro w hSw
    (try dsimp only at hSw)
    go_simp
    try (with_reducible rfl)
  try simp only [Act.put, List.setIfInBounds_toArray, List.set_cons_zero, List.set_cons_succ]
  refine wpAnyH_take (i := 9) (oi := { dst := some 60, op := Go.Op.fieldAddr 32 (Go.Operand.tmp 5) 0, type := 0, pos := "law.go:73", after := #[{ on := 7, ground := Go.Ground.guard }], guard := some (7, true) }) (v := ?_) rfl (by kernel_rfl) (by kernel_rfl) (by kernel_rfl) (fun _ _ _ h => h) (Or.inl ⟨by rfl, ?_⟩) (by assumption) ?_
  rotate_left
  · intro w hSw
    (try dsimp only at hSw)
    go_simp
    try (with_reducible rfl)
  try simp only [Act.put, List.setIfInBounds_toArray, List.set_cons_zero, List.set_cons_succ]
  refine wpAnyH_take (i := 10) (oi := { dst := some 61, op := Go.Op.load 30 (Go.Operand.tmp 60), type := 30, pos := "law.go:73", after := #[{ on := 9, ground := Go.Ground.data }, { on := 7, ground := Go.Ground.guard }], guard := some (7, true) }) (v := ?_) rfl (by kernel_rfl) (by kernel_rfl) (by kernel_rfl) (fun _ _ _ h => h) (Or.inl ⟨by rfl, ?_⟩) (by assumption) ?_
  rotate_left
  · intro w hSw
    (try dsimp only at hSw)
    go_simp
    try (with_reducible rfl)
  try simp only [Act.put, List.setIfInBounds_toArray, List.set_cons_zero, List.set_cons_succ]
  refine wpAnyH_take (i := 12) (oi := { dst := some 63, op := Go.Op.move (Go.Operand.tmp 1), type := 26, pos := "law.go:73", after := #[{ on := 7, ground := Go.Ground.guard }], guard := some (7, true) }) (v := ?_) rfl (by kernel_rfl) (by kernel_rfl) (by kernel_rfl) (fun _ _ _ h => h) (Or.inl ⟨by rfl, ?_⟩) (by assumption) ?_
  rotate_left
  · intro w hSw
    (try dsimp only at hSw)
    go_simp
    try (with_reducible rfl)
  try simp only [Act.put, List.setIfInBounds_toArray, List.set_cons_zero, List.set_cons_succ]
  refine wpAnyH_take (i := 13) (oi := { dst := some 64, op := Go.Op.fieldAddr 32 (Go.Operand.tmp 5) 0, type := 0, pos := "law.go:73", after := #[{ on := 7, ground := Go.Ground.guard }], guard := some (7, true) }) (v := ?_) rfl (by kernel_rfl) (by kernel_rfl) (by kernel_rfl) (fun _ _ _ h => h) (Or.inl ⟨by rfl, ?_⟩) (by assumption) ?_
  rotate_left
  · intro w hSw
    (try dsimp only at hSw)
    go_simp
    try (with_reducible rfl)
  try simp only [Act.put, List.setIfInBounds_toArray, List.set_cons_zero, List.set_cons_succ]
  refine wpAnyH_take (i := 14) (oi := { dst := some 65, op := Go.Op.load 30 (Go.Operand.tmp 64), type := 30, pos := "law.go:73", after := #[{ on := 13, ground := Go.Ground.data }, { on := 7, ground := Go.Ground.guard }], guard := some (7, true) }) (v := ?_) rfl (by kernel_rfl) (by kernel_rfl) (by kernel_rfl) (fun _ _ _ h => h) (Or.inl ⟨by rfl, ?_⟩) (by assumption) ?_
  rotate_left
  · intro w hSw
    (try dsimp only at hSw)
    go_simp
    try (with_reducible rfl)
  try simp only [Act.put, List.setIfInBounds_toArray, List.set_cons_zero, List.set_cons_succ]
  refine wpAnyH_ready (rs := [11]) (by kernel_rfl) (by simp) ?_
  refine AllReadyH.cons (o := { dst := some 62, op := Go.Op.call { callee := Go.Callee.value (Go.Operand.func 25), args := #[Go.Operand.tmp 59, Go.Operand.tmp 61], argTypes := #[24, 30] }, type := 44, pos := "law.go:73", after := #[{ on := 8, ground := Go.Ground.data }, { on := 10, ground := Go.Ground.data }, { on := 7, ground := Go.Ground.chain }, { on := 7, ground := Go.Ground.guard }], guard := some (7, true) }) rfl (fun K hK => ?_) AllReadyH.nil
  go_simp
  (go_at_call 25; (with_reducible refine Calls.mono (HOv.out _ hYT.out.1.P) ?_); rintro e Wa ⟨Aa, ca, rfl, hoa, hP', hT'⟩; replace hYT := Lib.hid (And.intro (hYT.out.1.readP hP' hT') (hYT.out.2.trans hT')); have HOa := Lib.hid hoa; clear hoa hP' hT')
  go_wp2_with fail
  refine hK.out _ _ ?_ (fun hHeld => ?_)
  · (exact (HXc.out _ hYT.out.2).c4)
  clear hK K
  try simp only [Act.put, List.setIfInBounds_toArray, List.set_cons_zero, List.set_cons_succ]
  refine wpAnyH_ready (rs := [15]) (by kernel_rfl) (by simp) ?_
  refine AllReadyH.cons (o := { dst := some 66, op := Go.Op.call { callee := Go.Callee.value (Go.Operand.func 33), args := #[Go.Operand.tmp 63, Go.Operand.tmp 65], argTypes := #[26, 30] }, type := 44, pos := "law.go:73", after := #[{ on := 12, ground := Go.Ground.data }, { on := 14, ground := Go.Ground.data }, { on := 11, ground := Go.Ground.chain }, { on := 7, ground := Go.Ground.guard }], guard := some (7, true) }) rfl (fun K hK => ?_) AllReadyH.nil
  go_simp
  (go_at_call 33; (with_reducible refine Calls.mono (HOD.out _ hYT.out.1.D) ?_); rintro e Wb ⟨Ab, cb, rfl, hob, hT'⟩; replace hYT := Lib.hid (And.intro (hYT.out.1.tch0 hT') (hYT.out.2.trans (hT'.mono (T := Sp) (by simp)))); have HOb := Lib.hid hob; have HOc := Lib.hid (own_tch HOa.out hT' (by simp)); clear hob hT')
  go_wp2_with fail
  refine hK.out _ _ ?_ (fun hHeld => ?_)
  · (exact (HXc.out _ hYT.out.2).c4)
  clear hK K
  try simp only [Act.put, List.setIfInBounds_toArray, List.set_cons_zero, List.set_cons_succ]
  refine wpAnyH_ready (rs := [16]) (by kernel_rfl) (by simp) ?_
  refine AllReadyH.cons (o := { dst := some 67, op := Go.Op.call { callee := Go.Callee.value (Go.Operand.func 30), args := #[Go.Operand.tmp 62, Go.Operand.tmp 66], argTypes := #[44, 44] }, type := 4, pos := "law.go:73", after := #[{ on := 11, ground := Go.Ground.data }, { on := 15, ground := Go.Ground.data }, { on := 15, ground := Go.Ground.chain }, { on := 7, ground := Go.Ground.guard }], guard := some (7, true) }) rfl (fun K hK => ?_) AllReadyH.nil
  go_simp
  (go_at_call 30; (with_reducible refine Calls.mono (HSo.out _ _ _ _ _ _ _ HOc.out HOb.out) ?_); rintro e Wc ⟨rfl, hT'⟩; replace hYT := Lib.hid (And.intro (hYT.out.1.tch0 hT') (hYT.out.2.trans (hT'.mono (T := Sp) (by simp)))); clear hT')
  go_wp2_with fail
  refine hK.out _ _ ?_ (fun hHeld => ?_)
  · (exact (HXc.out _ hYT.out.2).c4)
  clear hK K
  try simp only [Act.put, List.setIfInBounds_toArray, List.set_cons_zero, List.set_cons_succ]
  refine wpAnyH_take (i := 17) (oi := { dst := some 68, op := Go.Op.pick (Go.Operand.tmp 58) (Go.Operand.tmp 67) (Go.Operand.const (Go.Value.bool false)), type := 4, pos := "law.go:73", after := #[{ on := 7, ground := Go.Ground.data }, { on := 16, ground := Go.Ground.data }], guard := none }) (v := ?_) rfl (by kernel_rfl) (by kernel_rfl) (by kernel_rfl) (fun _ _ _ h => h) (Or.inl ⟨by rfl, ?_⟩) (by assumption) ?_
  rotate_left
  · intro w hSw
    (try dsimp only at hSw)
    go_simp
    try (with_reducible rfl)
  try simp only [Act.put, List.setIfInBounds_toArray, List.set_cons_zero, List.set_cons_succ]
  refine wpAnyH_take (i := 18) (oi := { dst := some 6, op := Go.Op.assign (Go.Operand.tmp 68), type := 4, pos := "law.go:73", after := #[{ on := 17, ground := Go.Ground.data }, { on := 16, ground := Go.Ground.chain }, { on := 0, ground := Go.Ground.phase }, { on := 1, ground := Go.Ground.phase }, { on := 2, ground := Go.Ground.phase }, { on := 3, ground := Go.Ground.phase }, { on := 4, ground := Go.Ground.phase }, { on := 5, ground := Go.Ground.phase }, { on := 6, ground := Go.Ground.phase }, { on := 7, ground := Go.Ground.phase }, { on := 8, ground := Go.Ground.phase }, { on := 9, ground := Go.Ground.phase }, { on := 10, ground := Go.Ground.phase }, { on := 11, ground := Go.Ground.phase }, { on := 12, ground := Go.Ground.phase }, { on := 13, ground := Go.Ground.phase }, { on := 14, ground := Go.Ground.phase }, { on := 15, ground := Go.Ground.phase }, { on := 16, ground := Go.Ground.phase }, { on := 17, ground := Go.Ground.phase }], guard := none }) (v := ?_) rfl (by kernel_rfl) (by kernel_rfl) (by kernel_rfl) (fun _ _ _ h => h) (Or.inl ⟨by rfl, ?_⟩) (by assumption) ?_
  rotate_left
  · intro w hSw
    (try dsimp only at hSw)
    go_simp
    try (with_reducible rfl)
  try simp only [Act.put, List.setIfInBounds_toArray, List.set_cons_zero, List.set_cons_succ]
  refine wpAnyH_done (by kernel_rfl) ?_ _
  go_wp2
  go_ret
  exact ⟨rfl, hYT.out.1, (HT0.out.mono (by simp)).trans hYT.out.2⟩
end Go.Proofs.YtjlmgkdieffjcaaGreatDoor

namespace Go.Proofs.YtjlmgkdieffjcaaGreatDoor
open Go.RowKit
set_option linter.unusedVariables false

/-- Both ribs in a law that began at w. -/
structure BotR (w W : World) (p : Nat) (Sp : List Nat) (t : Nat) (St : List Nat) (st : List TdI) : Prop where
  two : TwoR W p Sp t St st
  bel : Below w.heap.size w W
  ap : ∀ s ∈ Sp, w.heap.size ≤ s
  at_ : ∀ s ∈ St, w.heap.size ≤ s
section
variable {w W W' : World} {p t : Nat} {Sp St Sp' St' T : List Nat} {st st' : List TdI}
theorem BotR.env (h : BotR w W p Sp t St st) (hE : EnvR w) : EnvN W Sp := hE.n h.bel h.ap
theorem BotR.tch0 (h : BotR w W p Sp t St st) (ht : Tch W W' []) : BotR w W' p Sp t St st := ⟨h.two.tch0 ht, h.bel.trans (ht.below h.bel.size (by simp)), h.ap, h.at_⟩
theorem BotR.tchO (h : BotR w W p Sp t St st) (ht : Tch W W' T) (h1 : ∀ s ∈ T, s ∉ Sp ∧ s ∉ St ∧ w.heap.size ≤ s) : BotR w W' p Sp t St st :=
  ⟨⟨h.two.P.tch ht (fun s hs hm => (h1 s hm).1 hs), h.two.D.tch ht (fun s hs hm => (h1 s hm).2.1 hs), h.two.dis⟩, h.bel.trans (ht.below h.bel.size (fun s hs => (h1 s hs).2.2)), h.ap, h.at_⟩
theorem BotR.readP (h : BotR w W p Sp t St st) (hP : RbP W' p Sp st) (ht : Tch W W' Sp) : BotR w W' p Sp t St st := ⟨h.two.readP hP ht, h.bel.trans (ht.below h.bel.size h.ap), h.ap, h.at_⟩
theorem BotR.tells (h : BotR w W p Sp t St st) (hT : TwoR W' p Sp t St st) (ht : Tch W W' Sp) : BotR w W' p Sp t St st := ⟨hT, h.bel.trans (ht.below h.bel.size h.ap), h.ap, h.at_⟩
theorem BotR.step {W1 W2 : World} (h : BotR w W p Sp t St st) (hP : RbP W1 p Sp' st') (hg : Goes W W1 Sp Sp') (hD : RbD W2 t St' st') (hg2 : Goes W1 W2 St St') : BotR w W2 p Sp' t St' st' :=
  have k := hg.below h.bel.size h.ap
  have k2 := hg2.below (Nat.le_trans h.bel.size hg.tch.size) h.at_
  have e := h.two.goP hP hg
  ⟨TwoR.mk' hP e.2.1 e.2.2 hD hg2, (h.bel.trans k.1).trans k2.1, k.2, k2.2⟩
end
/-- A step's own calls, over the value that is read. -/
theorem do12 (p : Nat) (S : List Nat) (st : List TdI) (x : StpR) {wh : Int} {ps : Bool} {ph pl : Nat} {pb pr me : Int} {vs : Bool} {vh vl : Nat} {po : Int} {aw : Bool} (hxe : (⟨wh, ((ps, ph, pl), pb), (pr, me, (vs, vh, vl), po, aw)⟩ : StpR) = x) (hok : x.ok) {n1 n2 : Int} (hn1 : (doR st x).2.1 = n1) (hn2 : (doR st x).2.2 = n2) (W : World) (hE : EnvN W S) (h : RbP W p S st) :
    Calls Tryz.prog 8 #[.pointer (some ⟨p, 0, none⟩), .agg #[.int .i64 wh, .bool ps, .int .u64 (ph : Int), .int .u64 (pl : Int), .int .i64 pb, .int .i64 pr, .int .i64 me, .bool vs, .int .u64 (vh : Int), .int .u64 (vl : Int), .int .i64 po, .bool aw]] W fun e w' => e = .returned (.tuple #[.int .i64 n1, .int .i64 n2]) ∧ ∃ S', RbP w' p S' (doR st x).1 ∧ Goes W w' S S' := by
  subst hxe hn1 hn2; exact do_any p S st _ hok W hE h
theorem does12 (p : Nat) (S : List Nat) (st : List TdI) (x : StpR) {wh : Int} {ps : Bool} {ph pl : Nat} {pb pr me : Int} {vs : Bool} {vh vl : Nat} {po : Int} {aw : Bool} (hxe : (⟨wh, ((ps, ph, pl), pb), (pr, me, (vs, vh, vl), po, aw)⟩ : StpR) = x) (hok : x.ok) (hL : st.length ≤ 1000) {n1 n2 : Int} (hn1 : (doR st x).2.1 = n1) (hn2 : (doR st x).2.2 = n2) (W : World) (h : RbD W p S st) :
    Calls Tryz.prog 9 #[.pointer (some ⟨p, 0, none⟩), .agg #[.int .i64 wh, .bool ps, .int .u64 (ph : Int), .int .u64 (pl : Int), .int .i64 pb, .int .i64 pr, .int .i64 me, .bool vs, .int .u64 (vh : Int), .int .u64 (vl : Int), .int .i64 po, .bool aw]] W fun e w' => e = .returned (.tuple #[.int .i64 n1, .int .i64 n2]) ∧ ∃ S', RbD w' p S' (doR st x).1 ∧ Goes W w' S S' := by
  subst hxe hn1 hn2; exact does_any p S st _ hok hL W h
theorem own_frN {w : World} {base g n c sz : Nat} {t : TypeId} {xs : List Value} (h : w.ownsRow base t sz (.slice (some ⟨g, 0, none⟩) n c) n xs) (i : Nat) : w.frozen? ⟨g, i, none⟩ = false := by
  rcases h.2 with ⟨e, -⟩ | ⟨g', cap, cur, e, -, hb, -⟩
  · cases e
  · injection e with e2
    injection e2 with e2
    injection e2 with e2
    subst e2
    exact Blk.frozen hb _
end Go.Proofs.YtjlmgkdieffjcaaGreatDoor

namespace Go.Proofs.YtjlmgkdieffjcaaGreatDoor
open Go.RowKit
set_option linter.unusedVariables false

/-- No block of both. -/
def Dis (A B : List Nat) : Prop := ∀ s ∈ A, s ∉ B
theorem Dis.symm {A B : List Nat} (h : Dis A B) : Dis B A := fun s hs hm => h s hm hs
theorem Dis.fre {A A' B : List Nat} {k : Nat} (h : Dis A B) (hf : ∀ s ∈ A', s ∈ A ∨ k ≤ s) (hB : ∀ s ∈ B, s < k) : Dis A' B := fun s hs hm => by
  rcases hf s hs with h1 | h1
  · exact h s h1 hm
  · have := hB s hm; omega
/-- Two pairs, in a law that began at w. -/
structure FourR (w W : World) (p : Nat) (Sp : List Nat) (t : Nat) (St : List Nat) (st : List TdI) (q : Nat) (Sq : List Nat) (u : Nat) (Su : List Nat) (sq : List TdI) : Prop where
  x : BotR w W p Sp t St st
  y : BotR w W q Sq u Su sq
  pq : Dis Sp Sq
  pu : Dis Sp Su
  tq : Dis St Sq
  tu : Dis St Su
section
variable {w W W1 W2 : World} {p t q u : Nat} {Sp St Sq Su Sp' St' : List Nat} {st st' sq : List TdI}
theorem FourR.symm (h : FourR w W p Sp t St st q Sq u Su sq) : FourR w W q Sq u Su sq p Sp t St st := ⟨h.y, h.x, h.pq.symm, h.tq.symm, h.pu.symm, h.tu.symm⟩
theorem FourR.tch0 (h : FourR w W p Sp t St st q Sq u Su sq) (ht : Tch W W1 []) : FourR w W1 p Sp t St st q Sq u Su sq := ⟨h.x.tch0 ht, h.y.tch0 ht, h.pq, h.pu, h.tq, h.tu⟩
theorem FourR.step (h : FourR w W p Sp t St st q Sq u Su sq) (hP : RbP W1 p Sp' st') (hg : Goes W W1 Sp Sp') (hD : RbD W2 t St' st') (hg2 : Goes W1 W2 St St') : FourR w W2 p Sp' t St' st' q Sq u Su sq := by
  have hx := h.x.step hP hg hD hg2
  have hs := hg.tch.size
  have lq : ∀ s ∈ Sq, s < W.heap.size := h.y.two.P.lt
  have lu : ∀ s ∈ Su, s < W.heap.size := h.y.two.D.lt
  have y1 : BotR w W1 q Sq u Su sq := ⟨⟨h.y.two.P.tch hg.tch (fun s a b => h.pq s b a), h.y.two.D.tch hg.tch (fun s a b => h.pu s b a), h.y.two.dis⟩, h.x.bel.trans (hg.below h.x.bel.size h.x.ap).1, h.y.ap, h.y.at_⟩
  have y2 : BotR w W2 q Sq u Su sq := ⟨⟨y1.two.P.tch hg2.tch (fun s a b => h.tq s b a), y1.two.D.tch hg2.tch (fun s a b => h.tu s b a), y1.two.dis⟩, hx.bel, y1.ap, y1.at_⟩
  exact ⟨hx, y2, h.pq.fre hg.fre lq, h.pu.fre hg.fre lu, h.tq.fre hg2.fre (fun s a => Nat.lt_of_lt_of_le (lq s a) hs), h.tu.fre hg2.fre (fun s a => Nat.lt_of_lt_of_le (lu s a) hs)⟩
/-- Between the two steps: the program's has been done. -/
theorem FourR.mid (h : FourR w W p Sp t St st q Sq u Su sq) (hP : RbP W1 p Sp' st') (hg : Goes W W1 Sp Sp') : RbD W1 t St st ∧ Below w.heap.size w W1 :=
  ⟨(h.x.two.goP hP hg).2.1, h.x.bel.trans (hg.below h.x.bel.size h.x.ap).1⟩
theorem FourR.tells (h : FourR w W p Sp t St st q Sq u Su sq) (hT : TwoR W1 p Sp t St st) (ht : Tch W W1 Sp) : FourR w W1 p Sp t St st q Sq u Su sq :=
  ⟨h.x.tells hT ht, ⟨⟨h.y.two.P.tch ht (fun s a b => h.pq s b a), h.y.two.D.tch ht (fun s a b => h.pu s b a), h.y.two.dis⟩, h.x.bel.trans (ht.below h.x.bel.size h.x.ap), h.y.ap, h.y.at_⟩, h.pq, h.pu, h.tq, h.tu⟩
end
/-- The set, its copy, and the document's set that is played anew. -/
structure CpyR (w W : World) (p : Nat) (Sp : List Nat) (q : Nat) (Sq : List Nat) (st : List TdI) (t : Nat) (St : List Nat) (sd : List TdI) : Prop where
  P : RbP W p Sp st
  Q : RbP W q Sq st
  D : RbD W t St sd
  bel : Below w.heap.size w W
  ap : ∀ s ∈ Sp, w.heap.size ≤ s
  aq : ∀ s ∈ Sq, w.heap.size ≤ s
  at_ : ∀ s ∈ St, w.heap.size ≤ s
  pq : Dis Sp Sq
  pt : Dis Sp St
  qt : Dis Sq St
theorem CpyR.does {w W W1 : World} {p q t : Nat} {Sp Sq St St' : List Nat} {st sd sd' : List TdI} (h : CpyR w W p Sp q Sq st t St sd) (hD : RbD W1 t St' sd') (hg : Goes W W1 St St') : CpyR w W1 p Sp q Sq st t St' sd' :=
  have k := hg.below h.bel.size h.at_
  ⟨h.P.tch hg.tch h.pt, h.Q.tch hg.tch h.qt, hD, h.bel.trans k.1, h.ap, h.aq, k.2, h.pq, (h.pt.symm.fre hg.fre h.P.lt).symm, (h.qt.symm.fre hg.fre h.Q.lt).symm⟩
theorem CpyR.four {w W W1 : World} {p q t u : Nat} {Sp Sq St Su : List Nat} {st : List TdI} (h : CpyR w W p Sp q Sq st t St st) (hU : RbD W1 u Su st) (hT : Tch W W1 []) (hu : ∀ s ∈ Su, W.heap.size ≤ s) : FourR w W1 p Sp t St st q Sq u Su st := by
  have b1 := h.bel.trans (hT.below h.bel.size (by simp))
  have lp := h.P.lt
  have lq := h.Q.lt
  have lt' := h.D.lt
  exact ⟨⟨⟨h.P.tch hT (by simp), h.D.tch hT (by simp), h.pt⟩, b1, h.ap, h.at_⟩, ⟨⟨h.Q.tch hT (by simp), hU, fun s a b => by have := lq s a; have := hu s b; omega⟩, b1, h.aq, fun s a => Nat.le_trans h.bel.size (hu s a)⟩, h.pq,
    fun s a b => by have := lp s a; have := hu s b; omega, h.qt.symm, fun s a b => by have := lt' s a; have := hu s b; omega⟩
end Go.Proofs.YtjlmgkdieffjcaaGreatDoor
