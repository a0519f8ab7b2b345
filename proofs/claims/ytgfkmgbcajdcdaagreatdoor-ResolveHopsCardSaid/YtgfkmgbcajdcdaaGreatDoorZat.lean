/-
  Several texts in one: RbE, RbF.
-/
import Derived.Test.YtgfkmgbcajdcdaaGreatDoorZar
import Derived.Test.YtgfkmgbcajdcdaaGreatDoorZas
import Derived.Test.YtgfkmgbcajdcdaaGreatDoorZad
import Derived.Test.YtgfkmgbcajdcdaaGreatDoorZaa
set_option linter.unusedVariables false
set_option maxRecDepth 100000
set_option maxHeartbeats 16000000
namespace Go.Proofs.YtgfkmgbcajdcdaaGreatDoor
open Go.RowKit

theorem nbD (p : PfI) (a : AdR) (ha : N64 a.2.1 ∧ N64 a.2.2) (port : Int) (w : World) : Calls Tryz.prog 173 #[pfR p, adR a, .int .i64 port] w fun e w' => e = .returned (.bool (nbI p a port)) ∧ Tch w w' [] := by
 obtain ⟨R, hR⟩ : ∃ R, nbI p a port = R := ⟨_, rfl⟩
 rw [hR]
 unfold nbI at hR
 obtain ⟨c, hc⟩ : ∃ c, clsR a = c := ⟨_, rfl⟩
 rw [hc] at hR
 obtain ⟨⟨ps, ph, pl⟩, pb⟩ := p
 obtain ⟨s, ah, al⟩ := a
 have ha : N64 ah ∧ N64 al := ha
 have hc' : clsV s (ah : Int) (al : Int) = c := hc
 have HC := lH (fun W => rclass_at s (ah : Int) (al : Int) (by unfold U6; have := ha.1; unfold N64 at this; omega) (by unfold U6; have := ha.2; unfold N64 at this; omega) hc' W)
 have hR : (decide (s = ps) && (decide (c = 5) || (decide (c = 2) && !decide (port = 0)))) = R := hR
 obtain ⟨W2, hW2⟩ : ∃ W2, (w.alloc (.cells #[.bool ps, .int .u64 (ph : Int), .int .u64 (pl : Int), .int .i64 pb] 30)).alloc (.cells #[.bool s, .int .u64 (ah : Int), .int .u64 (al : Int)] 28) = W2 := ⟨_, rfl⟩
 obtain ⟨xb, hxb⟩ : ∃ xb, w.heap.size = xb := ⟨_, rfl⟩
 obtain ⟨yb, hyb⟩ : ∃ yb, xb + 1 = yb := ⟨_, rfl⟩
 have hX : Blk W2 xb 30 #[.bool ps, .int .u64 (ph : Int), .int .u64 (pl : Int), .int .i64 pb] := hW2 ▸ hxb ▸ (Blk.new w _ _).alloc _
 have hY : Blk W2 yb 28 #[.bool s, .int .u64 (ah : Int), .int .u64 (al : Int)] := by
  have := Blk.new (w.alloc (.cells #[.bool ps, .int .u64 (ph : Int), .int .u64 (pl : Int), .int .i64 pb] 30)) 28 #[.bool s, .int .u64 (ah : Int), .int .u64 (al : Int)]
  rw [zA, hxb, hyb, hW2] at this
  exact this
 have HX := lH hX
 have HY := lH hY
 have HT2 : Hid (Tch w W2 []) := lH (hW2 ▸ ((Tch.refl w []).alloc _).alloc _)
 have HW2 := lH (And.intro hW2 (And.intro hxb hyb))
 have HR := lH hR
 clear hc hc' ha hW2 hxb hyb hX hY hR
 have hcs : (s = ps ∧ c = 5) ∨ (s = ps ∧ c = 2) ∨ (s = ps ∧ ¬ c = 5 ∧ ¬ c = 2) ∨ ¬ s = ps := by
  by_cases e : s = ps
  ·by_cases e5 : c = 5
   ·exact .inl ⟨e, e5⟩
   ·by_cases e2 : c = 2
    ·exact .inr (.inl ⟨e, e2⟩)
    ·exact .inr (.inr (.inl ⟨e, e5, e2⟩))
  ·exact .inr (.inr (.inr e))
 go_enter Tryz.func173, Tryz.ntmps173
 go_wp2_with fail
 rw [HW2.out.1, HW2.out.2.1, HW2.out.2.2]
 refine cZm (HC.out _) ?_
 rintro e w1 ⟨rfl, hb1⟩
 have hT1 := Tch.of_below [] hb1
 have x0 := ((hT1.blk HX.out (by simp)).cell 0).trans (show _ = some (Value.bool ps) by rfl)
 have y0 := ((hT1.blk HY.out (by simp)).cell 0).trans (show _ = some (Value.bool s) by rfl)
 have HT1 := lH (HT2.out.trans hT1)
 clear hb1 hT1
 rcases hcs with ⟨rfl, rfl⟩ | ⟨rfl, rfl⟩ | ⟨rfl, h5, h2⟩ | hs
 ·have be : (s == s) = true := by simp
  have HE : Hid (R = true) := lH (by rw [← HR.out]; simp)
  go_wp2
  go_ret
  exact ⟨by rw [HE.out]; rfl, HT1.out⟩
 ·have be : (s == s) = true := by simp
  have HE : Hid (R = (port != 0)) := lH (by rw [← HR.out]; by_cases e : port = 0 <;> simp [e])
  go_wp2
  go_ret
  exact ⟨by rw [HE.out]; rfl, HT1.out⟩
 ·have be : (s == s) = true := by simp
  have b5 : (c == 5) = false := by simpa using h5
  have b2 : (c == 2) = false := by simpa using h2
  have HE : Hid (R = false) := lH (by rw [← HR.out, decide_eq_false h5, decide_eq_false h2]; simp)
  clear h5 h2
  go_wp2
  go_ret
  exact ⟨by rw [HE.out]; rfl, HT1.out⟩
 ·have be : (s == ps) = false := by simpa using hs
  have HE : Hid (R = false) := lH (by rw [← HR.out, decide_eq_false hs]; rfl)
  clear hs
  go_wp2
  go_ret
  exact ⟨by rw [HE.out]; rfl, HT1.out⟩
theorem rightD (p : PfI) (x : PaI) (hp : N64 p.1.2.1 ∧ N64 p.1.2.2) (hx : N64 x.2.2.1.2.1 ∧ N64 x.2.2.1.2.2) (w : World) : Calls Tryz.prog 132 #[pfR p, paR x] w fun e w' => e = .returned (.bool (rightI p x)) ∧ Tch w w' [] := by
 obtain ⟨V, hV⟩ : ∃ V, pvI p = V := ⟨_, rfl⟩
 have HV := lH (fun W => rpvalid_at p.1.1 p.1.2.1 p.1.2.2 p.2 hp.1 hp.2 hV W)
 have HNb := lH (fun W port => nbD p x.2.2.1 hx port W)
 obtain ⟨Z, hZ⟩ : ∃ Z, decide (x.2.2.1 = zeroA) = Z := ⟨_, rfl⟩
 have HQ := eqA_eql 28 _ _ (eq_adR x.2.2.1 zeroA hZ)
 have HBad := lH (right_bad (p := p) (x := x))
 have HAw := lH (right_away (p := p) (x := x))
 have HNn := lH (right_nb (p := p) (x := x))
 have HPo := lH (right_po (p := p) (x := x))
 rw [hV] at HBad HAw HNn HPo
 rw [hZ] at HAw HPo
 obtain ⟨R, hR⟩ : ∃ R, rightI p x = R := ⟨_, rfl⟩
 rw [hR] at HBad HAw HNn HPo ⊢
 obtain ⟨⟨ps, ph, pl⟩, pb⟩ := p
 obtain ⟨pr, me, ⟨s, ah, al⟩, po, aw⟩ := x
 have HQ : ∀ W, (binOp .eql 28 (.agg #[.bool s, .int .u64 (ah : Int), .int .u64 (al : Int)]) (.agg #[.bool false, .int .u64 0, .int .u64 0])).run Tryz.prog W = .ok (.bool Z) W := HQ
 obtain ⟨W2, hW2⟩ : ∃ W2, (w.alloc (.cells #[.bool ps, .int .u64 (ph : Int), .int .u64 (pl : Int), .int .i64 pb] 30)).alloc (.cells #[.int .i64 pr, .int .i64 me, .bool s, .int .u64 (ah : Int), .int .u64 (al : Int), .int .i64 po, .bool aw] 49) = W2 := ⟨_, rfl⟩
 obtain ⟨xb, hxb⟩ : ∃ xb, w.heap.size = xb := ⟨_, rfl⟩
 obtain ⟨yb, hyb⟩ : ∃ yb, xb + 1 = yb := ⟨_, rfl⟩
 have hX : Blk W2 xb 30 #[.bool ps, .int .u64 (ph : Int), .int .u64 (pl : Int), .int .i64 pb] := hW2 ▸ hxb ▸ (Blk.new w _ _).alloc _
 have hY : Blk W2 yb 49 #[.int .i64 pr, .int .i64 me, .bool s, .int .u64 (ah : Int), .int .u64 (al : Int), .int .i64 po, .bool aw] := by
  have := Blk.new (w.alloc (.cells #[.bool ps, .int .u64 (ph : Int), .int .u64 (pl : Int), .int .i64 pb] 30)) 49 #[.int .i64 pr, .int .i64 me, .bool s, .int .u64 (ah : Int), .int .u64 (al : Int), .int .i64 po, .bool aw]
  rw [zA, hxb, hyb, hW2] at this
  exact this
 have HX := lH hX
 have HY := lH hY
 have HT2 : Hid (Tch w W2 []) := lH (hW2 ▸ ((Tch.refl w []).alloc _).alloc _)
 have HW2 := lH (And.intro hW2 (And.intro hxb hyb))
 clear hp hx hV hZ hR hW2 hxb hyb hX hY
 go_enter Tryz.func132, Tryz.ntmps132
 go_wp2_with fail
 rw [HW2.out.1, HW2.out.2.1, HW2.out.2.2]
 refine cZm (HV.out _) ?_
 rintro e w1 ⟨rfl, hb1⟩
 have hT1 := Tch.of_below [] hb1
 have hX1 := hT1.blk HX.out (by simp)
 have hY1 := hT1.blk HY.out (by simp)
 have HT1 := lH (HT2.out.trans hT1)
 have y0 := (hY1.cell 0).trans (show _ = some (Value.int .i64 pr) by rfl)
 have y1 := (hY1.cell 1).trans (show _ = some (Value.int .i64 me) by rfl)
 have y2 := (hY1.cell 2).trans (show _ = some (Value.bool s) by rfl)
 have y3 := (hY1.cell 3).trans (show _ = some (Value.int .u64 (ah : Int)) by rfl)
 have y4 := (hY1.cell 4).trans (show _ = some (Value.int .u64 (al : Int)) by rfl)
 have y5 := (hY1.cell 5).trans (show _ = some (Value.int .i64 po) by rfl)
 have y6 := (hY1.cell 6).trans (show _ = some (Value.bool aw) by rfl)
 obtain ⟨x0, x1, x2, x3⟩ := hX1.c4
 clear hb1 hT1 hX1 hY1
 cases V with
 | false =>
  have HE : Hid (R = false) := lH (HBad.out (.inl rfl))
  go_wp2
  go_ret
  exact ⟨by rw [HE.out]; rfl, HT1.out⟩
 | true =>
  by_cases h1 : pr < 0
  ·have HE : Hid (R = false) := lH (HBad.out (.inr (.inl h1)))
   go_wp2
   go_ret
   exact ⟨by rw [HE.out]; rfl, HT1.out⟩
  by_cases h2 : 4 < pr
  ·have HE : Hid (R = false) := lH (HBad.out (.inr (.inr (.inl h2))))
   go_wp2
   go_ret
   exact ⟨by rw [HE.out]; rfl, HT1.out⟩
  by_cases h3 : me < 0
  ·have HE : Hid (R = false) := lH (HBad.out (.inr (.inr (.inr (.inl h3)))))
   go_wp2
   go_ret
   exact ⟨by rw [HE.out]; rfl, HT1.out⟩
  by_cases h4 : 65535 < me
  ·have HE : Hid (R = false) := lH (HBad.out (.inr (.inr (.inr (.inr h4)))))
   go_wp2
   go_ret
   exact ⟨by rw [HE.out]; rfl, HT1.out⟩
  have hok : ¬ (true = false ∨ pr < 0 ∨ 4 < pr ∨ me < 0 ∨ 65535 < me) := by
   rintro (h | h | h | h | h)
   ·cases h
   all_goals omega
  cases aw with
  | true =>
   have HE := lH (HAw.out hok rfl)
   by_cases h5 : po = 0
   ·have b5 : (po == 0) = true := by simpa using h5
    have HE2 : Hid (R = Z) := lH (by rw [HE.out]; show (decide (po = 0) && Z) = Z; rw [decide_eq_true h5]; rfl)
    clear hok h5
    go_wp2
    go_ret
    exact ⟨by rw [HE2.out]; rfl, HT1.out⟩
   ·have b5 : (po == 0) = false := by simpa using h5
    have HE2 : Hid (R = false) := lH (by rw [HE.out]; show (decide (po = 0) && Z) = false; rw [decide_eq_false h5]; rfl)
    clear hok h5
    go_wp2
    go_ret
    exact ⟨by rw [HE2.out]; rfl, HT1.out⟩
  | false =>
   by_cases h5 : po = 0
   ·have b5 : (po == 0) = true := by simpa using h5
    have HE : Hid (R = _) := lH (HNn.out hok rfl h5)
    clear hok h5
    go_wp2_with fail
    refine cZm (HNb.out _ 0) ?_
    rintro e w5 ⟨rfl, hT5⟩
    have HT5 := lH (HT1.out.trans hT5)
    clear hT5 x0 x1 x2 x3 y0 y1 y2 y3 y4 y5 y6
    go_wp2
    go_ret
    exact ⟨by rw [HE.out]; rfl, HT5.out⟩
   ·have b5 : (po == 0) = false := by simpa using h5
    have HE := lH (HPo.out hok rfl h5)
    have HE1 : Hid (R = (decide (1 ≤ po) && (decide (po ≤ 8) && (Z || nbI ((ps, ph, pl), pb) (s, ah, al) po)))) := HE
    clear hok h5 HE
    by_cases h6 : 1 ≤ po
    ·by_cases h7 : po ≤ 8
     ·cases Z with
      | true =>
       have HE2 : Hid (R = true) := lH (by rw [HE1.out, decide_eq_true h6, decide_eq_true h7]; rfl)
       go_wp2
       go_ret
       exact ⟨by rw [HE2.out]; rfl, HT1.out⟩
      | false =>
       have HE2 : Hid (R = nbI ((ps, ph, pl), pb) (s, ah, al) po) := lH (by rw [HE1.out, decide_eq_true h6, decide_eq_true h7]; rfl)
       go_wp2_with fail
       refine cZm (HNb.out _ po) ?_
       rintro e w5 ⟨rfl, hT5⟩
       have HT5 := lH (HT1.out.trans hT5)
       clear hT5 x0 x1 x2 x3 y0 y1 y2 y3 y4 y5 y6
       go_wp2
       go_ret
       exact ⟨by rw [HE2.out]; rfl, HT5.out⟩
     ·have HE2 : Hid (R = false) := lH (by rw [HE1.out, decide_eq_true h6, decide_eq_false h7]; rfl)
      go_wp2
      go_ret
      exact ⟨by rw [HE2.out]; rfl, HT1.out⟩
    ·have HE2 : Hid (R = false) := lH (by rw [HE1.out, decide_eq_false h6]; rfl)
     go_wp2
     go_ret
     exact ⟨by rw [HE2.out]; rfl, HT1.out⟩
end Go.Proofs.YtgfkmgbcajdcdaaGreatDoor

namespace Go.Proofs.YtgfkmgbcajdcdaaGreatDoor
open Go.RowKit

theorem wayD (t : Nat) (S : List Nat) (L : List TdI) (hL : L.length ≤ 1000) (p : PfI) (x : PaI) (w : World) (h : RbD w t S L) :
  Calls Tryz.prog 130 #[.pointer (some ⟨t, 0, none⟩), pfR p, paR x] w fun e w' => e = .returned (.int .i64 ((wayI L p x : Int) - 1)) ∧ Tch w w' [] := by
 have HH := lH h
 obtain ⟨⟨ps, ph, pl⟩, pb⟩ := p
 obtain ⟨pr, me, ⟨vs, vh, vl⟩, po, aw⟩ := x
 obtain ⟨A, cA, c0, hrow, htl, -⟩ := h.head
 obtain ⟨n, hn⟩ : ∃ n, L.length = n := ⟨_, rfl⟩
 rw [hn] at c0 hrow hL
 have HN := lH hn
 have HR := lH hrow
 have HC0 := lH (And.intro c0 htl)
 obtain ⟨xb, hxb⟩ : ∃ xb, w.heap.size = xb := ⟨_, rfl⟩
 obtain ⟨yb, hyb⟩ : ∃ yb, xb + 1 = yb := ⟨_, rfl⟩
 have HXY := lH (And.intro hxb hyb)
 have HB1 : Hid (Blk ((w.alloc (.cells #[.bool ps, .int .u64 (ph : Int), .int .u64 (pl : Int), .int .i64 pb] 30)).alloc (.cells #[.int .i64 pr, .int .i64 me, .bool vs, .int .u64 (vh : Int), .int .u64 (vl : Int), .int .i64 po, .bool aw] 49)) xb 30 #[.bool ps, .int .u64 (ph : Int), .int .u64 (pl : Int), .int .i64 pb]) := lH (hxb ▸ (Blk.new w _ _).alloc _)
 have HB2 : Hid (Blk ((w.alloc (.cells #[.bool ps, .int .u64 (ph : Int), .int .u64 (pl : Int), .int .i64 pb] 30)).alloc (.cells #[.int .i64 pr, .int .i64 me, .bool vs, .int .u64 (vh : Int), .int .u64 (vl : Int), .int .i64 po, .bool aw] 49)) yb 49 #[.int .i64 pr, .int .i64 me, .bool vs, .int .u64 (vh : Int), .int .u64 (vl : Int), .int .i64 po, .bool aw]) := lH (by
  have := Blk.new (w.alloc (.cells #[.bool ps, .int .u64 (ph : Int), .int .u64 (pl : Int), .int .i64 pb] 30)) 49 #[.int .i64 pr, .int .i64 me, .bool vs, .int .u64 (vh : Int), .int .u64 (vl : Int), .int .i64 po, .bool aw]
  rw [zA, hxb, hyb] at this
  exact this)
 clear h c0 hrow htl hxb hyb hn
 go_enter Tryz.func130, Tryz.ntmps130
 go_wp2
 rw [HXY.out.1, HXY.out.2]
 go_loopw [7] (fun kv wr => ∃ k : Nat, kv = .int .i64 (k : Int) ∧ k ≤ n ∧ Hid (∀ (j : Nat) (u : TdI), j < k → L[j]? = some u → isW ((ps, ph, pl), pb) (pr, me, (vs, vh, vl), po, aw) u = false) ∧ Hid (Tch w wr []) ∧ Hid (Blk wr xb 30 #[.bool ps, .int .u64 (ph : Int), .int .u64 (pl : Int), .int .i64 pb]) ∧ Hid (Blk wr yb 49 #[.int .i64 pr, .int .i64 me, .bool vs, .int .u64 (vh : Int), .int .u64 (vl : Int), .int .i64 po, .bool aw])) (fun kv _ => n - (intOf kv).toNat)
 case atStart => exact ⟨0, rfl, Nat.zero_le _, lH (fun j u hj => absurd hj (by omega)), lH (((Tch.refl w []).alloc _).alloc _), HB1, HB2⟩
 case round =>
  obtain ⟨k, rfl, hk, hA, hT, hX, hY⟩ := hrel
  have c0 := (hT.out.cell (p := ⟨t, 0, none⟩) HC0.out.2 (by simp)).trans HC0.out.1
  have k1 : IntKind.i64.wrap ((k : Int) + 1) = (k : Int) + 1 := by rw [IntKind.wrap_i64]; omega
  by_cases hkn : k < n
  ·have kI : (k : Int) < (n : Int) := by omega
   have k0 : (0 : Int) ≤ (k : Int) := by omega
   obtain ⟨u, hu⟩ : ∃ u, L[k]? = some u := ⟨_, List.getElem?_eq_getElem (by rw [HN.out]; exact hkn)⟩
   have d3 := own_tch HR.out hT.out (by simp)
   obtain ⟨g, rfl⟩ := slice_some d3 (by omega)
   obtain ⟨u0, u1, u2, u3, u4, u5, u6, u7, u8, u9, u10⟩ := td_cells d3 hu
   have Hu := lH hu
   have HYes : Hid (isW ((ps, ph, pl), pb) (pr, me, (vs, vh, vl), po, aw) u = true → wayI L ((ps, ph, pl), pb) (pr, me, (vs, vh, vl), po, aw) = k + 1) := lH (fun e => fndI_succ.2 ⟨⟨u, hu, e⟩, hA.out⟩)
   have HNo : Hid (isW ((ps, ph, pl), pb) (pr, me, (vs, vh, vl), po, aw) u = false → Hid (∀ (j : Nat) (v : TdI), j < k + 1 → L[j]? = some v → isW ((ps, ph, pl), pb) (pr, me, (vs, vh, vl), po, aw) v = false)) := lH (fun e => lH (fun j v hj hv => by
    rcases Nat.lt_or_ge j k with h1 | h1
    ·exact hA.out j v h1 hv
    ·obtain rfl : j = k := by omega
     rw [hu] at hv
     injection hv with hv
     subst hv
     exact e))
   obtain ⟨⟨⟨us, uh, ul⟩, ub⟩, upr, ume, ⟨uvs, uvh, uvl⟩, upo, uaw⟩ := u
   obtain ⟨b0, hb0⟩ : ∃ b, decide ((((us, uh, ul), ub) : PfI) = ((ps, ph, pl), pb)) = b := ⟨_, rfl⟩
   have HQ0 : ∀ W, (binOp .eql 30 (.agg #[.bool us, .int .u64 (uh : Int), .int .u64 (ul : Int), .int .i64 ub]) (.agg #[.bool ps, .int .u64 (ph : Int), .int .u64 (pl : Int), .int .i64 pb])).run Tryz.prog W = .ok (.bool b0) W := eqA_eql 30 _ _ (eq_pfR ((us, uh, ul), ub) ((ps, ph, pl), pb) hb0)
   obtain ⟨b2, hb2⟩ : ∃ b, decide (((vs, vh, vl) : AdR) = (uvs, uvh, uvl)) = b := ⟨_, rfl⟩
   have HQ2 : ∀ W, (binOp .eql 28 (.agg #[.bool vs, .int .u64 (vh : Int), .int .u64 (vl : Int)]) (.agg #[.bool uvs, .int .u64 (uvh : Int), .int .u64 (uvl : Int)])).run Tryz.prog W = .ok (.bool b2) W := eqA_eql 28 _ _ (eq_adR (vs, vh, vl) (uvs, uvh, uvl) hb2)
   obtain ⟨b1, hb1⟩ : ∃ b, decide (pr = upr) = b := ⟨_, rfl⟩
   obtain ⟨b3, hb3⟩ : ∃ b, decide (po = upo) = b := ⟨_, rfl⟩
   obtain ⟨b4, hb4⟩ : ∃ b, decide (aw = uaw) = b := ⟨_, rfl⟩
   have e1 : (pr == upr) = b1 := by rw [beq_int, hb1]
   have e3 : (po == upo) = b3 := by rw [beq_int, hb3]
   have e4 : (aw == uaw) = b4 := by rw [beq_bool, hb4]
   have HIs : Hid (isW ((ps, ph, pl), pb) (pr, me, (vs, vh, vl), po, aw) (((us, uh, ul), ub), upr, ume, (uvs, uvh, uvl), upo, uaw) = (b0 && (b1 && (b2 && (b3 && b4))))) := lH (by unfold isW sameW; rw [← hb0, ← hb1, ← hb2, ← hb3, ← hb4])
   have HT5d : Hid (Tch w (wr.alloc (.cells #[.int .i64 upr, .int .i64 ume, .bool uvs, .int .u64 (uvh : Int), .int .u64 (uvl : Int), .int .i64 upo, .bool uaw] 49)).drew []) := lH (hT.out.alloc _).drew
   have HX5 := lH (hX.out.alloc (.cells #[.int .i64 upr, .int .i64 ume, .bool uvs, .int .u64 (uvh : Int), .int .u64 (uvl : Int), .int .i64 upo, .bool uaw] 49))
   have HY5 := lH (hY.out.alloc (.cells #[.int .i64 upr, .int .i64 ume, .bool uvs, .int .u64 (uvh : Int), .int .u64 (uvl : Int), .int .i64 upo, .bool uaw] 49))
   have HZ5 := lH (Blk.new wr 49 #[.int .i64 upr, .int .i64 ume, .bool uvs, .int .u64 (uvh : Int), .int .u64 (uvl : Int), .int .i64 upo, .bool uaw])
   obtain ⟨W5, hW5⟩ : ∃ W5, wr.alloc (.cells #[.int .i64 upr, .int .i64 ume, .bool uvs, .int .u64 (uvh : Int), .int .u64 (uvl : Int), .int .i64 upo, .bool uaw] 49) = W5 := ⟨_, rfl⟩
   obtain ⟨zb, hzb⟩ : ∃ zb, wr.heap.size = zb := ⟨_, rfl⟩
   have HCl : Hid ((fun W => W.cell? ⟨t, 0, none⟩ = some (Value.slice (some ⟨g, 0, none⟩) n cA) ∧ W.cell? ⟨g, k * 11, none⟩ = some (Value.bool us) ∧ W.cell? ⟨g, k * 11 + 1, none⟩ = some (Value.int .u64 (uh : Int)) ∧ W.cell? ⟨g, k * 11 + 2, none⟩ = some (Value.int .u64 (ul : Int)) ∧ W.cell? ⟨g, k * 11 + 3, none⟩ = some (Value.int .i64 ub) ∧ W.cell? ⟨xb, 0, none⟩ = some (Value.bool ps) ∧ W.cell? ⟨xb, 1, none⟩ = some (Value.int .u64 (ph : Int)) ∧ W.cell? ⟨xb, 2, none⟩ = some (Value.int .u64 (pl : Int)) ∧ W.cell? ⟨xb, 3, none⟩ = some (Value.int .i64 pb) ∧ W.cell? ⟨yb, 0, none⟩ = some (Value.int .i64 pr) ∧ W.cell? ⟨yb, 2, none⟩ = some (Value.bool vs) ∧ W.cell? ⟨yb, 3, none⟩ = some (Value.int .u64 (vh : Int)) ∧ W.cell? ⟨yb, 4, none⟩ = some (Value.int .u64 (vl : Int)) ∧ W.cell? ⟨yb, 5, none⟩ = some (Value.int .i64 po) ∧ W.cell? ⟨yb, 6, none⟩ = some (Value.bool aw) ∧ W.cell? ⟨zb, 0, none⟩ = some (Value.int .i64 upr) ∧ W.cell? ⟨zb, 2, none⟩ = some (Value.bool uvs) ∧ W.cell? ⟨zb, 3, none⟩ = some (Value.int .u64 (uvh : Int)) ∧ W.cell? ⟨zb, 4, none⟩ = some (Value.int .u64 (uvl : Int)) ∧ W.cell? ⟨zb, 5, none⟩ = some (Value.int .i64 upo) ∧ W.cell? ⟨zb, 6, none⟩ = some (Value.bool uaw)) W5) := lH (by
    show _ ∧ _
    rw [hW5] at HX5 HY5 HZ5
    rw [hzb] at HZ5
    have al := fun (p : Addr) v (hv : wr.cell? p = some v) => (show W5.cell? p = some v from hW5 ▸ Lib.cell?_alloc_some _ hv)
    exact ⟨al _ _ c0, al _ _ u0, al _ _ u1, al _ _ u2, al _ _ u3, (HX5.out.cell 0).trans rfl, (HX5.out.cell 1).trans rfl, (HX5.out.cell 2).trans rfl, (HX5.out.cell 3).trans rfl, (HY5.out.cell 0).trans rfl, (HY5.out.cell 2).trans rfl, (HY5.out.cell 3).trans rfl, (HY5.out.cell 4).trans rfl, (HY5.out.cell 5).trans rfl, (HY5.out.cell 6).trans rfl, (HZ5.out.cell 0).trans rfl, (HZ5.out.cell 2).trans rfl, (HZ5.out.cell 3).trans rfl, (HZ5.out.cell 4).trans rfl, (HZ5.out.cell 5).trans rfl, (HZ5.out.cell 6).trans rfl⟩)
   have HW5 := lH (And.intro hW5 hzb)
   rw [hW5] at HT5d HX5 HY5
   clear d3 hu hT hX hY hb0 hb1 hb2 hb3 hb4 hW5 hzb HZ5 u0 u1 u2 u3
   go_wp2
   rw [HW5.out.1, HW5.out.2]
   cases b0 with
   | false =>
    have HF : Hid (isW ((ps, ph, pl), pb) (pr, me, (vs, vh, vl), po, aw) (((us, uh, ul), ub), upr, ume, (uvs, uvh, uvl), upo, uaw) = false) := lH (by rw [HIs.out]; simp)
    refine wp_region_held_drew (S := (fun W => W.cell? ⟨t, 0, none⟩ = some (Value.slice (some ⟨g, 0, none⟩) n cA) ∧ W.cell? ⟨g, k * 11, none⟩ = some (Value.bool us) ∧ W.cell? ⟨g, k * 11 + 1, none⟩ = some (Value.int .u64 (uh : Int)) ∧ W.cell? ⟨g, k * 11 + 2, none⟩ = some (Value.int .u64 (ul : Int)) ∧ W.cell? ⟨g, k * 11 + 3, none⟩ = some (Value.int .i64 ub) ∧ W.cell? ⟨xb, 0, none⟩ = some (Value.bool ps) ∧ W.cell? ⟨xb, 1, none⟩ = some (Value.int .u64 (ph : Int)) ∧ W.cell? ⟨xb, 2, none⟩ = some (Value.int .u64 (pl : Int)) ∧ W.cell? ⟨xb, 3, none⟩ = some (Value.int .i64 pb) ∧ W.cell? ⟨yb, 0, none⟩ = some (Value.int .i64 pr) ∧ W.cell? ⟨yb, 2, none⟩ = some (Value.bool vs) ∧ W.cell? ⟨yb, 3, none⟩ = some (Value.int .u64 (vh : Int)) ∧ W.cell? ⟨yb, 4, none⟩ = some (Value.int .u64 (vl : Int)) ∧ W.cell? ⟨yb, 5, none⟩ = some (Value.int .i64 po) ∧ W.cell? ⟨yb, 6, none⟩ = some (Value.bool aw) ∧ W.cell? ⟨zb, 0, none⟩ = some (Value.int .i64 upr) ∧ W.cell? ⟨zb, 2, none⟩ = some (Value.bool uvs) ∧ W.cell? ⟨zb, 3, none⟩ = some (Value.int .u64 (uvh : Int)) ∧ W.cell? ⟨zb, 4, none⟩ = some (Value.int .u64 (uvl : Int)) ∧ W.cell? ⟨zb, 5, none⟩ = some (Value.int .i64 upo) ∧ W.cell? ⟨zb, 6, none⟩ = some (Value.bool uaw))) (by kernel_rfl) ?_ (fun hHeld => ?_)
    ·(exact HCl.out)
    refine tkH 0 ?_
    refine tkH 1 ?_
    refine tkH 2 ?_
    refine tkH 3 ?_
    refine tkH 4 ?_
    refine tkH 5 ?_
    refine tkH 6 ?_
    refine tkH 7 ?_
    refine tkH 8 ?_
    refine tkH 9 ?_
    refine tkH 10 ?_
    refine tkO 11 ?_
    refine tkO 12 ?_
    refine tkO 13 ?_
    refine tkO 14 ?_
    refine tkO 15 ?_
    refine tkH 16 ?_
    refine tkH 17 ?_
    refine tkO 18 ?_
    refine tkO 19 ?_
    refine tkO 20 ?_
    refine tkO 21 ?_
    refine tkO 22 ?_
    refine tkH 23 ?_
    refine tkH 24 ?_
    refine tkO 25 ?_
    refine tkO 26 ?_
    refine tkO 27 ?_
    refine tkO 28 ?_
    refine tkO 29 ?_
    refine tkH 30 ?_
    refine tkH 31 ?_
    refine tkO 32 ?_
    refine tkO 33 ?_
    refine tkO 34 ?_
    refine tkO 35 ?_
    refine tkO 36 ?_
    refine tkH 37 ?_
    refine wpAnyH_done (by kernel_rfl) ?_ _
    go_wp2
    go_roundw
    case rel => exact ⟨k + 1, by go_num, hkn, HNo.out HF.out, HT5d, lH HX5.out, lH HY5.out⟩
    case measure => simp [intOf]; omega
   | true =>
    cases b1 with
    | false =>
     have HF : Hid (isW ((ps, ph, pl), pb) (pr, me, (vs, vh, vl), po, aw) (((us, uh, ul), ub), upr, ume, (uvs, uvh, uvl), upo, uaw) = false) := lH (by rw [HIs.out]; simp)
     refine wp_region_held_drew (S := (fun W => W.cell? ⟨t, 0, none⟩ = some (Value.slice (some ⟨g, 0, none⟩) n cA) ∧ W.cell? ⟨g, k * 11, none⟩ = some (Value.bool us) ∧ W.cell? ⟨g, k * 11 + 1, none⟩ = some (Value.int .u64 (uh : Int)) ∧ W.cell? ⟨g, k * 11 + 2, none⟩ = some (Value.int .u64 (ul : Int)) ∧ W.cell? ⟨g, k * 11 + 3, none⟩ = some (Value.int .i64 ub) ∧ W.cell? ⟨xb, 0, none⟩ = some (Value.bool ps) ∧ W.cell? ⟨xb, 1, none⟩ = some (Value.int .u64 (ph : Int)) ∧ W.cell? ⟨xb, 2, none⟩ = some (Value.int .u64 (pl : Int)) ∧ W.cell? ⟨xb, 3, none⟩ = some (Value.int .i64 pb) ∧ W.cell? ⟨yb, 0, none⟩ = some (Value.int .i64 pr) ∧ W.cell? ⟨yb, 2, none⟩ = some (Value.bool vs) ∧ W.cell? ⟨yb, 3, none⟩ = some (Value.int .u64 (vh : Int)) ∧ W.cell? ⟨yb, 4, none⟩ = some (Value.int .u64 (vl : Int)) ∧ W.cell? ⟨yb, 5, none⟩ = some (Value.int .i64 po) ∧ W.cell? ⟨yb, 6, none⟩ = some (Value.bool aw) ∧ W.cell? ⟨zb, 0, none⟩ = some (Value.int .i64 upr) ∧ W.cell? ⟨zb, 2, none⟩ = some (Value.bool uvs) ∧ W.cell? ⟨zb, 3, none⟩ = some (Value.int .u64 (uvh : Int)) ∧ W.cell? ⟨zb, 4, none⟩ = some (Value.int .u64 (uvl : Int)) ∧ W.cell? ⟨zb, 5, none⟩ = some (Value.int .i64 upo) ∧ W.cell? ⟨zb, 6, none⟩ = some (Value.bool uaw))) (by kernel_rfl) ?_ (fun hHeld => ?_)
     ·(exact HCl.out)
     refine tkH 0 ?_
     refine tkH 1 ?_
     refine tkH 2 ?_
     refine tkH 3 ?_
     refine tkH 4 ?_
     refine tkH 5 ?_
     refine tkH 6 ?_
     refine tkH 7 ?_
     refine tkH 8 ?_
     refine tkH 9 ?_
     refine tkH 10 ?_
     refine tkH 11 ?_
     refine tkH 12 ?_
     refine tkH 13 ?_
     refine tkH 14 ?_
     refine tkH 15 ?_
     refine tkH 16 ?_
     refine tkH 17 ?_
     refine tkO 18 ?_
     refine tkO 19 ?_
     refine tkO 20 ?_
     refine tkO 21 ?_
     refine tkO 22 ?_
     refine tkH 23 ?_
     refine tkH 24 ?_
     refine tkO 25 ?_
     refine tkO 26 ?_
     refine tkO 27 ?_
     refine tkO 28 ?_
     refine tkO 29 ?_
     refine tkH 30 ?_
     refine tkH 31 ?_
     refine tkO 32 ?_
     refine tkO 33 ?_
     refine tkO 34 ?_
     refine tkO 35 ?_
     refine tkO 36 ?_
     refine tkH 37 ?_
     refine wpAnyH_done (by kernel_rfl) ?_ _
     go_wp2
     go_roundw
     case rel => exact ⟨k + 1, by go_num, hkn, HNo.out HF.out, HT5d, lH HX5.out, lH HY5.out⟩
     case measure => simp [intOf]; omega
    | true =>
     cases b2 with
     | false =>
      have HF : Hid (isW ((ps, ph, pl), pb) (pr, me, (vs, vh, vl), po, aw) (((us, uh, ul), ub), upr, ume, (uvs, uvh, uvl), upo, uaw) = false) := lH (by rw [HIs.out]; simp)
      refine wp_region_held_drew (S := (fun W => W.cell? ⟨t, 0, none⟩ = some (Value.slice (some ⟨g, 0, none⟩) n cA) ∧ W.cell? ⟨g, k * 11, none⟩ = some (Value.bool us) ∧ W.cell? ⟨g, k * 11 + 1, none⟩ = some (Value.int .u64 (uh : Int)) ∧ W.cell? ⟨g, k * 11 + 2, none⟩ = some (Value.int .u64 (ul : Int)) ∧ W.cell? ⟨g, k * 11 + 3, none⟩ = some (Value.int .i64 ub) ∧ W.cell? ⟨xb, 0, none⟩ = some (Value.bool ps) ∧ W.cell? ⟨xb, 1, none⟩ = some (Value.int .u64 (ph : Int)) ∧ W.cell? ⟨xb, 2, none⟩ = some (Value.int .u64 (pl : Int)) ∧ W.cell? ⟨xb, 3, none⟩ = some (Value.int .i64 pb) ∧ W.cell? ⟨yb, 0, none⟩ = some (Value.int .i64 pr) ∧ W.cell? ⟨yb, 2, none⟩ = some (Value.bool vs) ∧ W.cell? ⟨yb, 3, none⟩ = some (Value.int .u64 (vh : Int)) ∧ W.cell? ⟨yb, 4, none⟩ = some (Value.int .u64 (vl : Int)) ∧ W.cell? ⟨yb, 5, none⟩ = some (Value.int .i64 po) ∧ W.cell? ⟨yb, 6, none⟩ = some (Value.bool aw) ∧ W.cell? ⟨zb, 0, none⟩ = some (Value.int .i64 upr) ∧ W.cell? ⟨zb, 2, none⟩ = some (Value.bool uvs) ∧ W.cell? ⟨zb, 3, none⟩ = some (Value.int .u64 (uvh : Int)) ∧ W.cell? ⟨zb, 4, none⟩ = some (Value.int .u64 (uvl : Int)) ∧ W.cell? ⟨zb, 5, none⟩ = some (Value.int .i64 upo) ∧ W.cell? ⟨zb, 6, none⟩ = some (Value.bool uaw))) (by kernel_rfl) ?_ (fun hHeld => ?_)
      ·(exact HCl.out)
      refine tkH 0 ?_
      refine tkH 1 ?_
      refine tkH 2 ?_
      refine tkH 3 ?_
      refine tkH 4 ?_
      refine tkH 5 ?_
      refine tkH 6 ?_
      refine tkH 7 ?_
      refine tkH 8 ?_
      refine tkH 9 ?_
      refine tkH 10 ?_
      refine tkH 11 ?_
      refine tkH 12 ?_
      refine tkH 13 ?_
      refine tkH 14 ?_
      refine tkH 15 ?_
      refine tkH 16 ?_
      refine tkH 17 ?_
      refine tkH 18 ?_
      refine tkH 19 ?_
      refine tkH 20 ?_
      refine tkH 21 ?_
      refine tkH 22 ?_
      refine tkH 23 ?_
      refine tkH 24 ?_
      refine tkO 25 ?_
      refine tkO 26 ?_
      refine tkO 27 ?_
      refine tkO 28 ?_
      refine tkO 29 ?_
      refine tkH 30 ?_
      refine tkH 31 ?_
      refine tkO 32 ?_
      refine tkO 33 ?_
      refine tkO 34 ?_
      refine tkO 35 ?_
      refine tkO 36 ?_
      refine tkH 37 ?_
      refine wpAnyH_done (by kernel_rfl) ?_ _
      go_wp2
      go_roundw
      case rel => exact ⟨k + 1, by go_num, hkn, HNo.out HF.out, HT5d, lH HX5.out, lH HY5.out⟩
      case measure => simp [intOf]; omega
     | true =>
      cases b3 with
      | false =>
       have HF : Hid (isW ((ps, ph, pl), pb) (pr, me, (vs, vh, vl), po, aw) (((us, uh, ul), ub), upr, ume, (uvs, uvh, uvl), upo, uaw) = false) := lH (by rw [HIs.out]; simp)
       refine wp_region_held_drew (S := (fun W => W.cell? ⟨t, 0, none⟩ = some (Value.slice (some ⟨g, 0, none⟩) n cA) ∧ W.cell? ⟨g, k * 11, none⟩ = some (Value.bool us) ∧ W.cell? ⟨g, k * 11 + 1, none⟩ = some (Value.int .u64 (uh : Int)) ∧ W.cell? ⟨g, k * 11 + 2, none⟩ = some (Value.int .u64 (ul : Int)) ∧ W.cell? ⟨g, k * 11 + 3, none⟩ = some (Value.int .i64 ub) ∧ W.cell? ⟨xb, 0, none⟩ = some (Value.bool ps) ∧ W.cell? ⟨xb, 1, none⟩ = some (Value.int .u64 (ph : Int)) ∧ W.cell? ⟨xb, 2, none⟩ = some (Value.int .u64 (pl : Int)) ∧ W.cell? ⟨xb, 3, none⟩ = some (Value.int .i64 pb) ∧ W.cell? ⟨yb, 0, none⟩ = some (Value.int .i64 pr) ∧ W.cell? ⟨yb, 2, none⟩ = some (Value.bool vs) ∧ W.cell? ⟨yb, 3, none⟩ = some (Value.int .u64 (vh : Int)) ∧ W.cell? ⟨yb, 4, none⟩ = some (Value.int .u64 (vl : Int)) ∧ W.cell? ⟨yb, 5, none⟩ = some (Value.int .i64 po) ∧ W.cell? ⟨yb, 6, none⟩ = some (Value.bool aw) ∧ W.cell? ⟨zb, 0, none⟩ = some (Value.int .i64 upr) ∧ W.cell? ⟨zb, 2, none⟩ = some (Value.bool uvs) ∧ W.cell? ⟨zb, 3, none⟩ = some (Value.int .u64 (uvh : Int)) ∧ W.cell? ⟨zb, 4, none⟩ = some (Value.int .u64 (uvl : Int)) ∧ W.cell? ⟨zb, 5, none⟩ = some (Value.int .i64 upo) ∧ W.cell? ⟨zb, 6, none⟩ = some (Value.bool uaw))) (by kernel_rfl) ?_ (fun hHeld => ?_)
       ·(exact HCl.out)
       refine tkH 0 ?_
       refine tkH 1 ?_
       refine tkH 2 ?_
       refine tkH 3 ?_
       refine tkH 4 ?_
       refine tkH 5 ?_
       refine tkH 6 ?_
       refine tkH 7 ?_
       refine tkH 8 ?_
       refine tkH 9 ?_
       refine tkH 10 ?_
       refine tkH 11 ?_
       refine tkH 12 ?_
       refine tkH 13 ?_
       refine tkH 14 ?_
       refine tkH 15 ?_
       refine tkH 16 ?_
       refine tkH 17 ?_
       refine tkH 18 ?_
       refine tkH 19 ?_
       refine tkH 20 ?_
       refine tkH 21 ?_
       refine tkH 22 ?_
       refine tkH 23 ?_
       refine tkH 24 ?_
       refine tkH 25 ?_
       refine tkH 26 ?_
       refine tkH 27 ?_
       refine tkH 28 ?_
       refine tkH 29 ?_
       refine tkH 30 ?_
       refine tkH 31 ?_
       refine tkO 32 ?_
       refine tkO 33 ?_
       refine tkO 34 ?_
       refine tkO 35 ?_
       refine tkO 36 ?_
       refine tkH 37 ?_
       refine wpAnyH_done (by kernel_rfl) ?_ _
       go_wp2
       go_roundw
       case rel => exact ⟨k + 1, by go_num, hkn, HNo.out HF.out, HT5d, lH HX5.out, lH HY5.out⟩
       case measure => simp [intOf]; omega
      | true =>
       cases b4 with
       | false =>
        have HF : Hid (isW ((ps, ph, pl), pb) (pr, me, (vs, vh, vl), po, aw) (((us, uh, ul), ub), upr, ume, (uvs, uvh, uvl), upo, uaw) = false) := lH (by rw [HIs.out]; simp)
        refine wp_region_held_drew (S := (fun W => W.cell? ⟨t, 0, none⟩ = some (Value.slice (some ⟨g, 0, none⟩) n cA) ∧ W.cell? ⟨g, k * 11, none⟩ = some (Value.bool us) ∧ W.cell? ⟨g, k * 11 + 1, none⟩ = some (Value.int .u64 (uh : Int)) ∧ W.cell? ⟨g, k * 11 + 2, none⟩ = some (Value.int .u64 (ul : Int)) ∧ W.cell? ⟨g, k * 11 + 3, none⟩ = some (Value.int .i64 ub) ∧ W.cell? ⟨xb, 0, none⟩ = some (Value.bool ps) ∧ W.cell? ⟨xb, 1, none⟩ = some (Value.int .u64 (ph : Int)) ∧ W.cell? ⟨xb, 2, none⟩ = some (Value.int .u64 (pl : Int)) ∧ W.cell? ⟨xb, 3, none⟩ = some (Value.int .i64 pb) ∧ W.cell? ⟨yb, 0, none⟩ = some (Value.int .i64 pr) ∧ W.cell? ⟨yb, 2, none⟩ = some (Value.bool vs) ∧ W.cell? ⟨yb, 3, none⟩ = some (Value.int .u64 (vh : Int)) ∧ W.cell? ⟨yb, 4, none⟩ = some (Value.int .u64 (vl : Int)) ∧ W.cell? ⟨yb, 5, none⟩ = some (Value.int .i64 po) ∧ W.cell? ⟨yb, 6, none⟩ = some (Value.bool aw) ∧ W.cell? ⟨zb, 0, none⟩ = some (Value.int .i64 upr) ∧ W.cell? ⟨zb, 2, none⟩ = some (Value.bool uvs) ∧ W.cell? ⟨zb, 3, none⟩ = some (Value.int .u64 (uvh : Int)) ∧ W.cell? ⟨zb, 4, none⟩ = some (Value.int .u64 (uvl : Int)) ∧ W.cell? ⟨zb, 5, none⟩ = some (Value.int .i64 upo) ∧ W.cell? ⟨zb, 6, none⟩ = some (Value.bool uaw))) (by kernel_rfl) ?_ (fun hHeld => ?_)
        ·(exact HCl.out)
        refine tkH 0 ?_
        refine tkH 1 ?_
        refine tkH 2 ?_
        refine tkH 3 ?_
        refine tkH 4 ?_
        refine tkH 5 ?_
        refine tkH 6 ?_
        refine tkH 7 ?_
        refine tkH 8 ?_
        refine tkH 9 ?_
        refine tkH 10 ?_
        refine tkH 11 ?_
        refine tkH 12 ?_
        refine tkH 13 ?_
        refine tkH 14 ?_
        refine tkH 15 ?_
        refine tkH 16 ?_
        refine tkH 17 ?_
        refine tkH 18 ?_
        refine tkH 19 ?_
        refine tkH 20 ?_
        refine tkH 21 ?_
        refine tkH 22 ?_
        refine tkH 23 ?_
        refine tkH 24 ?_
        refine tkH 25 ?_
        refine tkH 26 ?_
        refine tkH 27 ?_
        refine tkH 28 ?_
        refine tkH 29 ?_
        refine tkH 30 ?_
        refine tkH 31 ?_
        refine tkH 32 ?_
        refine tkH 33 ?_
        refine tkH 34 ?_
        refine tkH 35 ?_
        refine tkH 36 ?_
        refine tkH 37 ?_
        refine wpAnyH_done (by kernel_rfl) ?_ _
        go_wp2
        go_roundw
        case rel => exact ⟨k + 1, by go_num, hkn, HNo.out HF.out, HT5d, lH HX5.out, lH HY5.out⟩
        case measure => simp [intOf]; omega
       | true =>
        have HYe : Hid (wayI L ((ps, ph, pl), pb) (pr, me, (vs, vh, vl), po, aw) = k + 1) := lH (HYes.out (by rw [HIs.out]; rfl))
        refine wp_region_held_drew (S := (fun W => W.cell? ⟨t, 0, none⟩ = some (Value.slice (some ⟨g, 0, none⟩) n cA) ∧ W.cell? ⟨g, k * 11, none⟩ = some (Value.bool us) ∧ W.cell? ⟨g, k * 11 + 1, none⟩ = some (Value.int .u64 (uh : Int)) ∧ W.cell? ⟨g, k * 11 + 2, none⟩ = some (Value.int .u64 (ul : Int)) ∧ W.cell? ⟨g, k * 11 + 3, none⟩ = some (Value.int .i64 ub) ∧ W.cell? ⟨xb, 0, none⟩ = some (Value.bool ps) ∧ W.cell? ⟨xb, 1, none⟩ = some (Value.int .u64 (ph : Int)) ∧ W.cell? ⟨xb, 2, none⟩ = some (Value.int .u64 (pl : Int)) ∧ W.cell? ⟨xb, 3, none⟩ = some (Value.int .i64 pb) ∧ W.cell? ⟨yb, 0, none⟩ = some (Value.int .i64 pr) ∧ W.cell? ⟨yb, 2, none⟩ = some (Value.bool vs) ∧ W.cell? ⟨yb, 3, none⟩ = some (Value.int .u64 (vh : Int)) ∧ W.cell? ⟨yb, 4, none⟩ = some (Value.int .u64 (vl : Int)) ∧ W.cell? ⟨yb, 5, none⟩ = some (Value.int .i64 po) ∧ W.cell? ⟨yb, 6, none⟩ = some (Value.bool aw) ∧ W.cell? ⟨zb, 0, none⟩ = some (Value.int .i64 upr) ∧ W.cell? ⟨zb, 2, none⟩ = some (Value.bool uvs) ∧ W.cell? ⟨zb, 3, none⟩ = some (Value.int .u64 (uvh : Int)) ∧ W.cell? ⟨zb, 4, none⟩ = some (Value.int .u64 (uvl : Int)) ∧ W.cell? ⟨zb, 5, none⟩ = some (Value.int .i64 upo) ∧ W.cell? ⟨zb, 6, none⟩ = some (Value.bool uaw))) (by kernel_rfl) ?_ (fun hHeld => ?_)
        ·(exact HCl.out)
        refine tkH 0 ?_
        refine tkH 1 ?_
        refine tkH 2 ?_
        refine tkH 3 ?_
        refine tkH 4 ?_
        refine tkH 5 ?_
        refine tkH 6 ?_
        refine tkH 7 ?_
        refine tkH 8 ?_
        refine tkH 9 ?_
        refine tkH 10 ?_
        refine tkH 11 ?_
        refine tkH 12 ?_
        refine tkH 13 ?_
        refine tkH 14 ?_
        refine tkH 15 ?_
        refine tkH 16 ?_
        refine tkH 17 ?_
        refine tkH 18 ?_
        refine tkH 19 ?_
        refine tkH 20 ?_
        refine tkH 21 ?_
        refine tkH 22 ?_
        refine tkH 23 ?_
        refine tkH 24 ?_
        refine tkH 25 ?_
        refine tkH 26 ?_
        refine tkH 27 ?_
        refine tkH 28 ?_
        refine tkH 29 ?_
        refine tkH 30 ?_
        refine tkH 31 ?_
        refine tkH 32 ?_
        refine tkH 33 ?_
        refine tkH 34 ?_
        refine tkH 35 ?_
        refine tkH 36 ?_
        refine tkH 37 ?_
        refine wpAnyH_done (by kernel_rfl) ?_ _
        go_wp2
        go_ret
        exact ⟨by rw [HYe.out]; simp, HT5d.out⟩
  ·obtain rfl : k = n := by omega
   have kI : ¬ (k : Int) < (k : Int) := by omega
   have HE : Hid (wayI L ((ps, ph, pl), pb) (pr, me, (vs, vh, vl), po, aw) = 0) := lH (fndI_zero.2 fun j u hu => hA.out j u (by rw [← HN.out]; exact (List.getElem?_eq_some_iff.1 hu).1) hu)
   clear hkn hk
   go_wp2
   go_ret
   exact ⟨by rw [HE.out]; rfl, hT.out⟩
end Go.Proofs.YtgfkmgbcajdcdaaGreatDoor
