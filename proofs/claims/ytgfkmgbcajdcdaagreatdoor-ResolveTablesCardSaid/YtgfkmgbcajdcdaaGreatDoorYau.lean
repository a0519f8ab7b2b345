/-
  Several texts in one: RbF, RbG.
-/
import Derived.Test.YtgfkmgbcajdcdaaGreatDoorYad
import Derived.Test.YtgfkmgbcajdcdaaGreatDoorYat
import Derived.Test.YtgfkmgbcajdcdaaGreatDoorYaa
set_option linter.unusedVariables false
set_option maxRecDepth 100000
set_option maxHeartbeats 16000000
namespace Go.Proofs.YtgfkmgbcajdcdaaGreatDoor
open Go.RowKit

theorem wayD (t : Nat) (S : List Nat) (L : List TdI) (hL : L.length ≤ 1000) (p : PfI) (x : PaI) (w : World) (h : RbD w t S L) :
  Calls Tryz.prog 130 #[.pointer (some ⟨t, 0, none⟩), pfR p, paR x] w fun e w' => e = .returned (.int .i64 ((wayI L p x : Int) - 1)) ∧ Tch w w' [] := by
 have HH := lH h
 obtain ⟨⟨ps, ph, pl⟩, pb⟩ := p
 obtain ⟨pr, me, ⟨vs, vh, vl⟩, po, aw⟩ := x
 obtain ⟨A, cA, c0, hrow, htl, -⟩ := h.head
 obtain ⟨n, hn⟩ : ∃ n, L.length = n := ⟨_, rfl⟩
 rw [hn] at c0 hrow hL
 have HN := lH hn
 have HR := lH hrow
 have HC0 := lH (And.intro c0 htl)
 obtain ⟨xb, hxb⟩ : ∃ xb, w.heap.size = xb := ⟨_, rfl⟩
 obtain ⟨yb, hyb⟩ : ∃ yb, xb + 1 = yb := ⟨_, rfl⟩
 have HXY := lH (And.intro hxb hyb)
 have HB1 : Hid (Blk ((w.alloc (.cells #[.bool ps, .int .u64 (ph : Int), .int .u64 (pl : Int), .int .i64 pb] 30)).alloc (.cells #[.int .i64 pr, .int .i64 me, .bool vs, .int .u64 (vh : Int), .int .u64 (vl : Int), .int .i64 po, .bool aw] 49)) xb 30 #[.bool ps, .int .u64 (ph : Int), .int .u64 (pl : Int), .int .i64 pb]) := lH (hxb ▸ (Blk.new w _ _).alloc _)
 have HB2 : Hid (Blk ((w.alloc (.cells #[.bool ps, .int .u64 (ph : Int), .int .u64 (pl : Int), .int .i64 pb] 30)).alloc (.cells #[.int .i64 pr, .int .i64 me, .bool vs, .int .u64 (vh : Int), .int .u64 (vl : Int), .int .i64 po, .bool aw] 49)) yb 49 #[.int .i64 pr, .int .i64 me, .bool vs, .int .u64 (vh : Int), .int .u64 (vl : Int), .int .i64 po, .bool aw]) := lH (by
  have := Blk.new (w.alloc (.cells #[.bool ps, .int .u64 (ph : Int), .int .u64 (pl : Int), .int .i64 pb] 30)) 49 #[.int .i64 pr, .int .i64 me, .bool vs, .int .u64 (vh : Int), .int .u64 (vl : Int), .int .i64 po, .bool aw]
  rw [zA, hxb, hyb] at this
  exact this)
 clear h c0 hrow htl hxb hyb hn
 go_enter Tryz.func130, Tryz.ntmps130
 go_wp2
 rw [HXY.out.1, HXY.out.2]
 go_loopw [7] (fun kv wr => ∃ k : Nat, kv = .int .i64 (k : Int) ∧ k ≤ n ∧ Hid (∀ (j : Nat) (u : TdI), j < k → L[j]? = some u → isW ((ps, ph, pl), pb) (pr, me, (vs, vh, vl), po, aw) u = false) ∧ Hid (Tch w wr []) ∧ Hid (Blk wr xb 30 #[.bool ps, .int .u64 (ph : Int), .int .u64 (pl : Int), .int .i64 pb]) ∧ Hid (Blk wr yb 49 #[.int .i64 pr, .int .i64 me, .bool vs, .int .u64 (vh : Int), .int .u64 (vl : Int), .int .i64 po, .bool aw])) (fun kv _ => n - (intOf kv).toNat)
 case atStart => exact ⟨0, rfl, Nat.zero_le _, lH (fun j u hj => absurd hj (by omega)), lH (((Tch.refl w []).alloc _).alloc _), HB1, HB2⟩
 case round =>
  obtain ⟨k, rfl, hk, hA, hT, hX, hY⟩ := hrel
  have c0 := (hT.out.cell (p := ⟨t, 0, none⟩) HC0.out.2 (by simp)).trans HC0.out.1
  have k1 : IntKind.i64.wrap ((k : Int) + 1) = (k : Int) + 1 := by rw [IntKind.wrap_i64]; omega
  by_cases hkn : k < n
  ·have kI : (k : Int) < (n : Int) := by omega
   have k0 : (0 : Int) ≤ (k : Int) := by omega
   obtain ⟨u, hu⟩ : ∃ u, L[k]? = some u := ⟨_, List.getElem?_eq_getElem (by rw [HN.out]; exact hkn)⟩
   have d3 := own_tch HR.out hT.out (by simp)
   obtain ⟨g, rfl⟩ := slice_some d3 (by omega)
   obtain ⟨u0, u1, u2, u3, u4, u5, u6, u7, u8, u9, u10⟩ := td_cells d3 hu
   have Hu := lH hu
   have HYes : Hid (isW ((ps, ph, pl), pb) (pr, me, (vs, vh, vl), po, aw) u = true → wayI L ((ps, ph, pl), pb) (pr, me, (vs, vh, vl), po, aw) = k + 1) := lH (fun e => fndI_succ.2 ⟨⟨u, hu, e⟩, hA.out⟩)
   have HNo : Hid (isW ((ps, ph, pl), pb) (pr, me, (vs, vh, vl), po, aw) u = false → Hid (∀ (j : Nat) (v : TdI), j < k + 1 → L[j]? = some v → isW ((ps, ph, pl), pb) (pr, me, (vs, vh, vl), po, aw) v = false)) := lH (fun e => lH (fun j v hj hv => by
    rcases Nat.lt_or_ge j k with h1 | h1
    ·exact hA.out j v h1 hv
    ·obtain rfl : j = k := by omega
     rw [hu] at hv
     injection hv with hv
     subst hv
     exact e))
   obtain ⟨⟨⟨us, uh, ul⟩, ub⟩, upr, ume, ⟨uvs, uvh, uvl⟩, upo, uaw⟩ := u
   obtain ⟨b0, hb0⟩ : ∃ b, decide ((((us, uh, ul), ub) : PfI) = ((ps, ph, pl), pb)) = b := ⟨_, rfl⟩
   have HQ0 : ∀ W, (binOp .eql 30 (.agg #[.bool us, .int .u64 (uh : Int), .int .u64 (ul : Int), .int .i64 ub]) (.agg #[.bool ps, .int .u64 (ph : Int), .int .u64 (pl : Int), .int .i64 pb])).run Tryz.prog W = .ok (.bool b0) W := eqA_eql 30 _ _ (eq_pfR ((us, uh, ul), ub) ((ps, ph, pl), pb) hb0)
   obtain ⟨b2, hb2⟩ : ∃ b, decide (((vs, vh, vl) : AdR) = (uvs, uvh, uvl)) = b := ⟨_, rfl⟩
   have HQ2 : ∀ W, (binOp .eql 28 (.agg #[.bool vs, .int .u64 (vh : Int), .int .u64 (vl : Int)]) (.agg #[.bool uvs, .int .u64 (uvh : Int), .int .u64 (uvl : Int)])).run Tryz.prog W = .ok (.bool b2) W := eqA_eql 28 _ _ (eq_adR (vs, vh, vl) (uvs, uvh, uvl) hb2)
   obtain ⟨b1, hb1⟩ : ∃ b, decide (pr = upr) = b := ⟨_, rfl⟩
   obtain ⟨b3, hb3⟩ : ∃ b, decide (po = upo) = b := ⟨_, rfl⟩
   obtain ⟨b4, hb4⟩ : ∃ b, decide (aw = uaw) = b := ⟨_, rfl⟩
   have e1 : (pr == upr) = b1 := by rw [beq_int, hb1]
   have e3 : (po == upo) = b3 := by rw [beq_int, hb3]
   have e4 : (aw == uaw) = b4 := by rw [beq_bool, hb4]
   have HIs : Hid (isW ((ps, ph, pl), pb) (pr, me, (vs, vh, vl), po, aw) (((us, uh, ul), ub), upr, ume, (uvs, uvh, uvl), upo, uaw) = (b0 && (b1 && (b2 && (b3 && b4))))) := lH (by unfold isW sameW; rw [← hb0, ← hb1, ← hb2, ← hb3, ← hb4])
   have HT5d : Hid (Tch w (wr.alloc (.cells #[.int .i64 upr, .int .i64 ume, .bool uvs, .int .u64 (uvh : Int), .int .u64 (uvl : Int), .int .i64 upo, .bool uaw] 49)).drew []) := lH (hT.out.alloc _).drew
   have HX5 := lH (hX.out.alloc (.cells #[.int .i64 upr, .int .i64 ume, .bool uvs, .int .u64 (uvh : Int), .int .u64 (uvl : Int), .int .i64 upo, .bool uaw] 49))
   have HY5 := lH (hY.out.alloc (.cells #[.int .i64 upr, .int .i64 ume, .bool uvs, .int .u64 (uvh : Int), .int .u64 (uvl : Int), .int .i64 upo, .bool uaw] 49))
   have HZ5 := lH (Blk.new wr 49 #[.int .i64 upr, .int .i64 ume, .bool uvs, .int .u64 (uvh : Int), .int .u64 (uvl : Int), .int .i64 upo, .bool uaw])
   obtain ⟨W5, hW5⟩ : ∃ W5, wr.alloc (.cells #[.int .i64 upr, .int .i64 ume, .bool uvs, .int .u64 (uvh : Int), .int .u64 (uvl : Int), .int .i64 upo, .bool uaw] 49) = W5 := ⟨_, rfl⟩
   obtain ⟨zb, hzb⟩ : ∃ zb, wr.heap.size = zb := ⟨_, rfl⟩
   have HCl : Hid ((fun W => W.cell? ⟨t, 0, none⟩ = some (Value.slice (some ⟨g, 0, none⟩) n cA) ∧ W.cell? ⟨g, k * 11, none⟩ = some (Value.bool us) ∧ W.cell? ⟨g, k * 11 + 1, none⟩ = some (Value.int .u64 (uh : Int)) ∧ W.cell? ⟨g, k * 11 + 2, none⟩ = some (Value.int .u64 (ul : Int)) ∧ W.cell? ⟨g, k * 11 + 3, none⟩ = some (Value.int .i64 ub) ∧ W.cell? ⟨xb, 0, none⟩ = some (Value.bool ps) ∧ W.cell? ⟨xb, 1, none⟩ = some (Value.int .u64 (ph : Int)) ∧ W.cell? ⟨xb, 2, none⟩ = some (Value.int .u64 (pl : Int)) ∧ W.cell? ⟨xb, 3, none⟩ = some (Value.int .i64 pb) ∧ W.cell? ⟨yb, 0, none⟩ = some (Value.int .i64 pr) ∧ W.cell? ⟨yb, 2, none⟩ = some (Value.bool vs) ∧ W.cell? ⟨yb, 3, none⟩ = some (Value.int .u64 (vh : Int)) ∧ W.cell? ⟨yb, 4, none⟩ = some (Value.int .u64 (vl : Int)) ∧ W.cell? ⟨yb, 5, none⟩ = some (Value.int .i64 po) ∧ W.cell? ⟨yb, 6, none⟩ = some (Value.bool aw) ∧ W.cell? ⟨zb, 0, none⟩ = some (Value.int .i64 upr) ∧ W.cell? ⟨zb, 2, none⟩ = some (Value.bool uvs) ∧ W.cell? ⟨zb, 3, none⟩ = some (Value.int .u64 (uvh : Int)) ∧ W.cell? ⟨zb, 4, none⟩ = some (Value.int .u64 (uvl : Int)) ∧ W.cell? ⟨zb, 5, none⟩ = some (Value.int .i64 upo) ∧ W.cell? ⟨zb, 6, none⟩ = some (Value.bool uaw)) W5) := lH (by
    show _ ∧ _
    rw [hW5] at HX5 HY5 HZ5
    rw [hzb] at HZ5
    have al := fun (p : Addr) v (hv : wr.cell? p = some v) => (show W5.cell? p = some v from hW5 ▸ Lib.cell?_alloc_some _ hv)
    exact ⟨al _ _ c0, al _ _ u0, al _ _ u1, al _ _ u2, al _ _ u3, (HX5.out.cell 0).trans rfl, (HX5.out.cell 1).trans rfl, (HX5.out.cell 2).trans rfl, (HX5.out.cell 3).trans rfl, (HY5.out.cell 0).trans rfl, (HY5.out.cell 2).trans rfl, (HY5.out.cell 3).trans rfl, (HY5.out.cell 4).trans rfl, (HY5.out.cell 5).trans rfl, (HY5.out.cell 6).trans rfl, (HZ5.out.cell 0).trans rfl, (HZ5.out.cell 2).trans rfl, (HZ5.out.cell 3).trans rfl, (HZ5.out.cell 4).trans rfl, (HZ5.out.cell 5).trans rfl, (HZ5.out.cell 6).trans rfl⟩)
   have HW5 := lH (And.intro hW5 hzb)
   rw [hW5] at HT5d HX5 HY5
   clear d3 hu hT hX hY hb0 hb1 hb2 hb3 hb4 hW5 hzb HZ5 u0 u1 u2 u3
   go_wp2
   rw [HW5.out.1, HW5.out.2]
   cases b0 with
   | false =>
    have HF : Hid (isW ((ps, ph, pl), pb) (pr, me, (vs, vh, vl), po, aw) (((us, uh, ul), ub), upr, ume, (uvs, uvh, uvl), upo, uaw) = false) := lH (by rw [HIs.out]; simp)
    refine wp_region_held_drew (S := (fun W => W.cell? ⟨t, 0, none⟩ = some (Value.slice (some ⟨g, 0, none⟩) n cA) ∧ W.cell? ⟨g, k * 11, none⟩ = some (Value.bool us) ∧ W.cell? ⟨g, k * 11 + 1, none⟩ = some (Value.int .u64 (uh : Int)) ∧ W.cell? ⟨g, k * 11 + 2, none⟩ = some (Value.int .u64 (ul : Int)) ∧ W.cell? ⟨g, k * 11 + 3, none⟩ = some (Value.int .i64 ub) ∧ W.cell? ⟨xb, 0, none⟩ = some (Value.bool ps) ∧ W.cell? ⟨xb, 1, none⟩ = some (Value.int .u64 (ph : Int)) ∧ W.cell? ⟨xb, 2, none⟩ = some (Value.int .u64 (pl : Int)) ∧ W.cell? ⟨xb, 3, none⟩ = some (Value.int .i64 pb) ∧ W.cell? ⟨yb, 0, none⟩ = some (Value.int .i64 pr) ∧ W.cell? ⟨yb, 2, none⟩ = some (Value.bool vs) ∧ W.cell? ⟨yb, 3, none⟩ = some (Value.int .u64 (vh : Int)) ∧ W.cell? ⟨yb, 4, none⟩ = some (Value.int .u64 (vl : Int)) ∧ W.cell? ⟨yb, 5, none⟩ = some (Value.int .i64 po) ∧ W.cell? ⟨yb, 6, none⟩ = some (Value.bool aw) ∧ W.cell? ⟨zb, 0, none⟩ = some (Value.int .i64 upr) ∧ W.cell? ⟨zb, 2, none⟩ = some (Value.bool uvs) ∧ W.cell? ⟨zb, 3, none⟩ = some (Value.int .u64 (uvh : Int)) ∧ W.cell? ⟨zb, 4, none⟩ = some (Value.int .u64 (uvl : Int)) ∧ W.cell? ⟨zb, 5, none⟩ = some (Value.int .i64 upo) ∧ W.cell? ⟨zb, 6, none⟩ = some (Value.bool uaw))) (by kernel_rfl) ?_ (fun hHeld => ?_)
    ·(exact HCl.out)
    refine tkH 0 ?_
    refine tkH 1 ?_
    refine tkH 2 ?_
    refine tkH 3 ?_
    refine tkH 4 ?_
    refine tkH 5 ?_
    refine tkH 6 ?_
    refine tkH 7 ?_
    refine tkH 8 ?_
    refine tkH 9 ?_
    refine tkH 10 ?_
    refine tkO 11 ?_
    refine tkO 12 ?_
    refine tkO 13 ?_
    refine tkO 14 ?_
    refine tkO 15 ?_
    refine tkH 16 ?_
    refine tkH 17 ?_
    refine tkO 18 ?_
    refine tkO 19 ?_
    refine tkO 20 ?_
    refine tkO 21 ?_
    refine tkO 22 ?_
    refine tkH 23 ?_
    refine tkH 24 ?_
    refine tkO 25 ?_
    refine tkO 26 ?_
    refine tkO 27 ?_
    refine tkO 28 ?_
    refine tkO 29 ?_
    refine tkH 30 ?_
    refine tkH 31 ?_
    refine tkO 32 ?_
    refine tkO 33 ?_
    refine tkO 34 ?_
    refine tkO 35 ?_
    refine tkO 36 ?_
    refine tkH 37 ?_
    refine wpAnyH_done (by kernel_rfl) ?_ _
    go_wp2
    go_roundw
    case rel => exact ⟨k + 1, by go_num, hkn, HNo.out HF.out, HT5d, lH HX5.out, lH HY5.out⟩
    case measure => simp [intOf]; omega
   | true =>
    cases b1 with
    | false =>
     have HF : Hid (isW ((ps, ph, pl), pb) (pr, me, (vs, vh, vl), po, aw) (((us, uh, ul), ub), upr, ume, (uvs, uvh, uvl), upo, uaw) = false) := lH (by rw [HIs.out]; simp)
     refine wp_region_held_drew (S := (fun W => W.cell? ⟨t, 0, none⟩ = some (Value.slice (some ⟨g, 0, none⟩) n cA) ∧ W.cell? ⟨g, k * 11, none⟩ = some (Value.bool us) ∧ W.cell? ⟨g, k * 11 + 1, none⟩ = some (Value.int .u64 (uh : Int)) ∧ W.cell? ⟨g, k * 11 + 2, none⟩ = some (Value.int .u64 (ul : Int)) ∧ W.cell? ⟨g, k * 11 + 3, none⟩ = some (Value.int .i64 ub) ∧ W.cell? ⟨xb, 0, none⟩ = some (Value.bool ps) ∧ W.cell? ⟨xb, 1, none⟩ = some (Value.int .u64 (ph : Int)) ∧ W.cell? ⟨xb, 2, none⟩ = some (Value.int .u64 (pl : Int)) ∧ W.cell? ⟨xb, 3, none⟩ = some (Value.int .i64 pb) ∧ W.cell? ⟨yb, 0, none⟩ = some (Value.int .i64 pr) ∧ W.cell? ⟨yb, 2, none⟩ = some (Value.bool vs) ∧ W.cell? ⟨yb, 3, none⟩ = some (Value.int .u64 (vh : Int)) ∧ W.cell? ⟨yb, 4, none⟩ = some (Value.int .u64 (vl : Int)) ∧ W.cell? ⟨yb, 5, none⟩ = some (Value.int .i64 po) ∧ W.cell? ⟨yb, 6, none⟩ = some (Value.bool aw) ∧ W.cell? ⟨zb, 0, none⟩ = some (Value.int .i64 upr) ∧ W.cell? ⟨zb, 2, none⟩ = some (Value.bool uvs) ∧ W.cell? ⟨zb, 3, none⟩ = some (Value.int .u64 (uvh : Int)) ∧ W.cell? ⟨zb, 4, none⟩ = some (Value.int .u64 (uvl : Int)) ∧ W.cell? ⟨zb, 5, none⟩ = some (Value.int .i64 upo) ∧ W.cell? ⟨zb, 6, none⟩ = some (Value.bool uaw))) (by kernel_rfl) ?_ (fun hHeld => ?_)
     ·(exact HCl.out)
     refine tkH 0 ?_
     refine tkH 1 ?_
     refine tkH 2 ?_
     refine tkH 3 ?_
     refine tkH 4 ?_
     refine tkH 5 ?_
     refine tkH 6 ?_
     refine tkH 7 ?_
     refine tkH 8 ?_
     refine tkH 9 ?_
     refine tkH 10 ?_
     refine tkH 11 ?_
     refine tkH 12 ?_
     refine tkH 13 ?_
     refine tkH 14 ?_
     refine tkH 15 ?_
     refine tkH 16 ?_
     refine tkH 17 ?_
     refine tkO 18 ?_
     refine tkO 19 ?_
     refine tkO 20 ?_
     refine tkO 21 ?_
     refine tkO 22 ?_
     refine tkH 23 ?_
     refine tkH 24 ?_
     refine tkO 25 ?_
     refine tkO 26 ?_
     refine tkO 27 ?_
     refine tkO 28 ?_
     refine tkO 29 ?_
     refine tkH 30 ?_
     refine tkH 31 ?_
     refine tkO 32 ?_
     refine tkO 33 ?_
     refine tkO 34 ?_
     refine tkO 35 ?_
     refine tkO 36 ?_
     refine tkH 37 ?_
     refine wpAnyH_done (by kernel_rfl) ?_ _
     go_wp2
     go_roundw
     case rel => exact ⟨k + 1, by go_num, hkn, HNo.out HF.out, HT5d, lH HX5.out, lH HY5.out⟩
     case measure => simp [intOf]; omega
    | true =>
     cases b2 with
     | false =>
      have HF : Hid (isW ((ps, ph, pl), pb) (pr, me, (vs, vh, vl), po, aw) (((us, uh, ul), ub), upr, ume, (uvs, uvh, uvl), upo, uaw) = false) := lH (by rw [HIs.out]; simp)
      refine wp_region_held_drew (S := (fun W => W.cell? ⟨t, 0, none⟩ = some (Value.slice (some ⟨g, 0, none⟩) n cA) ∧ W.cell? ⟨g, k * 11, none⟩ = some (Value.bool us) ∧ W.cell? ⟨g, k * 11 + 1, none⟩ = some (Value.int .u64 (uh : Int)) ∧ W.cell? ⟨g, k * 11 + 2, none⟩ = some (Value.int .u64 (ul : Int)) ∧ W.cell? ⟨g, k * 11 + 3, none⟩ = some (Value.int .i64 ub) ∧ W.cell? ⟨xb, 0, none⟩ = some (Value.bool ps) ∧ W.cell? ⟨xb, 1, none⟩ = some (Value.int .u64 (ph : Int)) ∧ W.cell? ⟨xb, 2, none⟩ = some (Value.int .u64 (pl : Int)) ∧ W.cell? ⟨xb, 3, none⟩ = some (Value.int .i64 pb) ∧ W.cell? ⟨yb, 0, none⟩ = some (Value.int .i64 pr) ∧ W.cell? ⟨yb, 2, none⟩ = some (Value.bool vs) ∧ W.cell? ⟨yb, 3, none⟩ = some (Value.int .u64 (vh : Int)) ∧ W.cell? ⟨yb, 4, none⟩ = some (Value.int .u64 (vl : Int)) ∧ W.cell? ⟨yb, 5, none⟩ = some (Value.int .i64 po) ∧ W.cell? ⟨yb, 6, none⟩ = some (Value.bool aw) ∧ W.cell? ⟨zb, 0, none⟩ = some (Value.int .i64 upr) ∧ W.cell? ⟨zb, 2, none⟩ = some (Value.bool uvs) ∧ W.cell? ⟨zb, 3, none⟩ = some (Value.int .u64 (uvh : Int)) ∧ W.cell? ⟨zb, 4, none⟩ = some (Value.int .u64 (uvl : Int)) ∧ W.cell? ⟨zb, 5, none⟩ = some (Value.int .i64 upo) ∧ W.cell? ⟨zb, 6, none⟩ = some (Value.bool uaw))) (by kernel_rfl) ?_ (fun hHeld => ?_)
      ·(exact HCl.out)
      refine tkH 0 ?_
      refine tkH 1 ?_
      refine tkH 2 ?_
      refine tkH 3 ?_
      refine tkH 4 ?_
      refine tkH 5 ?_
      refine tkH 6 ?_
      refine tkH 7 ?_
      refine tkH 8 ?_
      refine tkH 9 ?_
      refine tkH 10 ?_
      refine tkH 11 ?_
      refine tkH 12 ?_
      refine tkH 13 ?_
      refine tkH 14 ?_
      refine tkH 15 ?_
      refine tkH 16 ?_
      refine tkH 17 ?_
      refine tkH 18 ?_
      refine tkH 19 ?_
      refine tkH 20 ?_
      refine tkH 21 ?_
      refine tkH 22 ?_
      refine tkH 23 ?_
      refine tkH 24 ?_
      refine tkO 25 ?_
      refine tkO 26 ?_
      refine tkO 27 ?_
      refine tkO 28 ?_
      refine tkO 29 ?_
      refine tkH 30 ?_
      refine tkH 31 ?_
      refine tkO 32 ?_
      refine tkO 33 ?_
      refine tkO 34 ?_
      refine tkO 35 ?_
      refine tkO 36 ?_
      refine tkH 37 ?_
      refine wpAnyH_done (by kernel_rfl) ?_ _
      go_wp2
      go_roundw
      case rel => exact ⟨k + 1, by go_num, hkn, HNo.out HF.out, HT5d, lH HX5.out, lH HY5.out⟩
      case measure => simp [intOf]; omega
     | true =>
      cases b3 with
      | false =>
       have HF : Hid (isW ((ps, ph, pl), pb) (pr, me, (vs, vh, vl), po, aw) (((us, uh, ul), ub), upr, ume, (uvs, uvh, uvl), upo, uaw) = false) := lH (by rw [HIs.out]; simp)
       refine wp_region_held_drew (S := (fun W => W.cell? ⟨t, 0, none⟩ = some (Value.slice (some ⟨g, 0, none⟩) n cA) ∧ W.cell? ⟨g, k * 11, none⟩ = some (Value.bool us) ∧ W.cell? ⟨g, k * 11 + 1, none⟩ = some (Value.int .u64 (uh : Int)) ∧ W.cell? ⟨g, k * 11 + 2, none⟩ = some (Value.int .u64 (ul : Int)) ∧ W.cell? ⟨g, k * 11 + 3, none⟩ = some (Value.int .i64 ub) ∧ W.cell? ⟨xb, 0, none⟩ = some (Value.bool ps) ∧ W.cell? ⟨xb, 1, none⟩ = some (Value.int .u64 (ph : Int)) ∧ W.cell? ⟨xb, 2, none⟩ = some (Value.int .u64 (pl : Int)) ∧ W.cell? ⟨xb, 3, none⟩ = some (Value.int .i64 pb) ∧ W.cell? ⟨yb, 0, none⟩ = some (Value.int .i64 pr) ∧ W.cell? ⟨yb, 2, none⟩ = some (Value.bool vs) ∧ W.cell? ⟨yb, 3, none⟩ = some (Value.int .u64 (vh : Int)) ∧ W.cell? ⟨yb, 4, none⟩ = some (Value.int .u64 (vl : Int)) ∧ W.cell? ⟨yb, 5, none⟩ = some (Value.int .i64 po) ∧ W.cell? ⟨yb, 6, none⟩ = some (Value.bool aw) ∧ W.cell? ⟨zb, 0, none⟩ = some (Value.int .i64 upr) ∧ W.cell? ⟨zb, 2, none⟩ = some (Value.bool uvs) ∧ W.cell? ⟨zb, 3, none⟩ = some (Value.int .u64 (uvh : Int)) ∧ W.cell? ⟨zb, 4, none⟩ = some (Value.int .u64 (uvl : Int)) ∧ W.cell? ⟨zb, 5, none⟩ = some (Value.int .i64 upo) ∧ W.cell? ⟨zb, 6, none⟩ = some (Value.bool uaw))) (by kernel_rfl) ?_ (fun hHeld => ?_)
       ·(exact HCl.out)
       refine tkH 0 ?_
       refine tkH 1 ?_
       refine tkH 2 ?_
       refine tkH 3 ?_
       refine tkH 4 ?_
       refine tkH 5 ?_
       refine tkH 6 ?_
       refine tkH 7 ?_
       refine tkH 8 ?_
       refine tkH 9 ?_
       refine tkH 10 ?_
       refine tkH 11 ?_
       refine tkH 12 ?_
       refine tkH 13 ?_
       refine tkH 14 ?_
       refine tkH 15 ?_
       refine tkH 16 ?_
       refine tkH 17 ?_
       refine tkH 18 ?_
       refine tkH 19 ?_
       refine tkH 20 ?_
       refine tkH 21 ?_
       refine tkH 22 ?_
       refine tkH 23 ?_
       refine tkH 24 ?_
       refine tkH 25 ?_
       refine tkH 26 ?_
       refine tkH 27 ?_
       refine tkH 28 ?_
       refine tkH 29 ?_
       refine tkH 30 ?_
       refine tkH 31 ?_
       refine tkO 32 ?_
       refine tkO 33 ?_
       refine tkO 34 ?_
       refine tkO 35 ?_
       refine tkO 36 ?_
       refine tkH 37 ?_
       refine wpAnyH_done (by kernel_rfl) ?_ _
       go_wp2
       go_roundw
       case rel => exact ⟨k + 1, by go_num, hkn, HNo.out HF.out, HT5d, lH HX5.out, lH HY5.out⟩
       case measure => simp [intOf]; omega
      | true =>
       cases b4 with
       | false =>
        have HF : Hid (isW ((ps, ph, pl), pb) (pr, me, (vs, vh, vl), po, aw) (((us, uh, ul), ub), upr, ume, (uvs, uvh, uvl), upo, uaw) = false) := lH (by rw [HIs.out]; simp)
        refine wp_region_held_drew (S := (fun W => W.cell? ⟨t, 0, none⟩ = some (Value.slice (some ⟨g, 0, none⟩) n cA) ∧ W.cell? ⟨g, k * 11, none⟩ = some (Value.bool us) ∧ W.cell? ⟨g, k * 11 + 1, none⟩ = some (Value.int .u64 (uh : Int)) ∧ W.cell? ⟨g, k * 11 + 2, none⟩ = some (Value.int .u64 (ul : Int)) ∧ W.cell? ⟨g, k * 11 + 3, none⟩ = some (Value.int .i64 ub) ∧ W.cell? ⟨xb, 0, none⟩ = some (Value.bool ps) ∧ W.cell? ⟨xb, 1, none⟩ = some (Value.int .u64 (ph : Int)) ∧ W.cell? ⟨xb, 2, none⟩ = some (Value.int .u64 (pl : Int)) ∧ W.cell? ⟨xb, 3, none⟩ = some (Value.int .i64 pb) ∧ W.cell? ⟨yb, 0, none⟩ = some (Value.int .i64 pr) ∧ W.cell? ⟨yb, 2, none⟩ = some (Value.bool vs) ∧ W.cell? ⟨yb, 3, none⟩ = some (Value.int .u64 (vh : Int)) ∧ W.cell? ⟨yb, 4, none⟩ = some (Value.int .u64 (vl : Int)) ∧ W.cell? ⟨yb, 5, none⟩ = some (Value.int .i64 po) ∧ W.cell? ⟨yb, 6, none⟩ = some (Value.bool aw) ∧ W.cell? ⟨zb, 0, none⟩ = some (Value.int .i64 upr) ∧ W.cell? ⟨zb, 2, none⟩ = some (Value.bool uvs) ∧ W.cell? ⟨zb, 3, none⟩ = some (Value.int .u64 (uvh : Int)) ∧ W.cell? ⟨zb, 4, none⟩ = some (Value.int .u64 (uvl : Int)) ∧ W.cell? ⟨zb, 5, none⟩ = some (Value.int .i64 upo) ∧ W.cell? ⟨zb, 6, none⟩ = some (Value.bool uaw))) (by kernel_rfl) ?_ (fun hHeld => ?_)
        ·(exact HCl.out)
        refine tkH 0 ?_
        refine tkH 1 ?_
        refine tkH 2 ?_
        refine tkH 3 ?_
        refine tkH 4 ?_
        refine tkH 5 ?_
        refine tkH 6 ?_
        refine tkH 7 ?_
        refine tkH 8 ?_
        refine tkH 9 ?_
        refine tkH 10 ?_
        refine tkH 11 ?_
        refine tkH 12 ?_
        refine tkH 13 ?_
        refine tkH 14 ?_
        refine tkH 15 ?_
        refine tkH 16 ?_
        refine tkH 17 ?_
        refine tkH 18 ?_
        refine tkH 19 ?_
        refine tkH 20 ?_
        refine tkH 21 ?_
        refine tkH 22 ?_
        refine tkH 23 ?_
        refine tkH 24 ?_
        refine tkH 25 ?_
        refine tkH 26 ?_
        refine tkH 27 ?_
        refine tkH 28 ?_
        refine tkH 29 ?_
        refine tkH 30 ?_
        refine tkH 31 ?_
        refine tkH 32 ?_
        refine tkH 33 ?_
        refine tkH 34 ?_
        refine tkH 35 ?_
        refine tkH 36 ?_
        refine tkH 37 ?_
        refine wpAnyH_done (by kernel_rfl) ?_ _
        go_wp2
        go_roundw
        case rel => exact ⟨k + 1, by go_num, hkn, HNo.out HF.out, HT5d, lH HX5.out, lH HY5.out⟩
        case measure => simp [intOf]; omega
       | true =>
        have HYe : Hid (wayI L ((ps, ph, pl), pb) (pr, me, (vs, vh, vl), po, aw) = k + 1) := lH (HYes.out (by rw [HIs.out]; rfl))
        refine wp_region_held_drew (S := (fun W => W.cell? ⟨t, 0, none⟩ = some (Value.slice (some ⟨g, 0, none⟩) n cA) ∧ W.cell? ⟨g, k * 11, none⟩ = some (Value.bool us) ∧ W.cell? ⟨g, k * 11 + 1, none⟩ = some (Value.int .u64 (uh : Int)) ∧ W.cell? ⟨g, k * 11 + 2, none⟩ = some (Value.int .u64 (ul : Int)) ∧ W.cell? ⟨g, k * 11 + 3, none⟩ = some (Value.int .i64 ub) ∧ W.cell? ⟨xb, 0, none⟩ = some (Value.bool ps) ∧ W.cell? ⟨xb, 1, none⟩ = some (Value.int .u64 (ph : Int)) ∧ W.cell? ⟨xb, 2, none⟩ = some (Value.int .u64 (pl : Int)) ∧ W.cell? ⟨xb, 3, none⟩ = some (Value.int .i64 pb) ∧ W.cell? ⟨yb, 0, none⟩ = some (Value.int .i64 pr) ∧ W.cell? ⟨yb, 2, none⟩ = some (Value.bool vs) ∧ W.cell? ⟨yb, 3, none⟩ = some (Value.int .u64 (vh : Int)) ∧ W.cell? ⟨yb, 4, none⟩ = some (Value.int .u64 (vl : Int)) ∧ W.cell? ⟨yb, 5, none⟩ = some (Value.int .i64 po) ∧ W.cell? ⟨yb, 6, none⟩ = some (Value.bool aw) ∧ W.cell? ⟨zb, 0, none⟩ = some (Value.int .i64 upr) ∧ W.cell? ⟨zb, 2, none⟩ = some (Value.bool uvs) ∧ W.cell? ⟨zb, 3, none⟩ = some (Value.int .u64 (uvh : Int)) ∧ W.cell? ⟨zb, 4, none⟩ = some (Value.int .u64 (uvl : Int)) ∧ W.cell? ⟨zb, 5, none⟩ = some (Value.int .i64 upo) ∧ W.cell? ⟨zb, 6, none⟩ = some (Value.bool uaw))) (by kernel_rfl) ?_ (fun hHeld => ?_)
        ·(exact HCl.out)
        refine tkH 0 ?_
        refine tkH 1 ?_
        refine tkH 2 ?_
        refine tkH 3 ?_
        refine tkH 4 ?_
        refine tkH 5 ?_
        refine tkH 6 ?_
        refine tkH 7 ?_
        refine tkH 8 ?_
        refine tkH 9 ?_
        refine tkH 10 ?_
        refine tkH 11 ?_
        refine tkH 12 ?_
        refine tkH 13 ?_
        refine tkH 14 ?_
        refine tkH 15 ?_
        refine tkH 16 ?_
        refine tkH 17 ?_
        refine tkH 18 ?_
        refine tkH 19 ?_
        refine tkH 20 ?_
        refine tkH 21 ?_
        refine tkH 22 ?_
        refine tkH 23 ?_
        refine tkH 24 ?_
        refine tkH 25 ?_
        refine tkH 26 ?_
        refine tkH 27 ?_
        refine tkH 28 ?_
        refine tkH 29 ?_
        refine tkH 30 ?_
        refine tkH 31 ?_
        refine tkH 32 ?_
        refine tkH 33 ?_
        refine tkH 34 ?_
        refine tkH 35 ?_
        refine tkH 36 ?_
        refine tkH 37 ?_
        refine wpAnyH_done (by kernel_rfl) ?_ _
        go_wp2
        go_ret
        exact ⟨by rw [HYe.out]; simp, HT5d.out⟩
  ·obtain rfl : k = n := by omega
   have kI : ¬ (k : Int) < (k : Int) := by omega
   have HE : Hid (wayI L ((ps, ph, pl), pb) (pr, me, (vs, vh, vl), po, aw) = 0) := lH (fndI_zero.2 fun j u hu => hA.out j u (by rw [← HN.out]; exact (List.getElem?_eq_some_iff.1 hu).1) hu)
   clear hkn hk
   go_wp2
   go_ret
   exact ⟨by rw [HE.out]; rfl, hT.out⟩
end Go.Proofs.YtgfkmgbcajdcdaaGreatDoor

namespace Go.Proofs.YtgfkmgbcajdcdaaGreatDoor
open Go.RowKit

theorem wpList_apx (tS tE : TypeId) (zv : Value) (sz by_ : Nat) (hu : Tryz.prog.underlying tS = some (.slice tE)) (hinf : (Tryz.prog.info? tE).map (fun i => (i.zero, i.size, i.bytes)) = some (some zv, sz, by_)) (hzs : zv.cells.size = sz) (hsz : 0 < sz) (hby : by_ ≤ 1000)
  (w : World) {ops : Array Oper} {rest : List Oper} {o : Oper} {a : Act} {Q : Exit → Act → World → Prop} (hgd : o.guard = none) (s x : Operand)
  (ho : o.op = .call { callee := .builtin .append, args := #[s, x], argTypes := #[tS, tS] })
  (base : Nat) (v : Value) (n : Nat) (xs : List Value) (hs : a.eval s = v) (hown : w.ownsRow base tE sz v n xs)
  (ad : Addr) (m c : Nat) (e : List Value) (hx : a.eval x = .slice (some ad) m c) (hl : e.length = m * sz) (hc : ∀ j u, e[j]? = some u → w.cell? (ad.add j) = some u) (h1 : ∀ u ∈ e, u.oneCell' = true)
  (hn : n + m ≤ 1000000) (hbase : base ≤ w.heap.size)
  (h : ∀ v' w', w'.ownsRow base tE sz v' (n + m) (xs ++ e) → w.grownBy w' v.ownBlock → (v'.ownBlock = v.ownBlock ∨ v'.ownBlock = some w.heap.size) → wpList Tryz.prog ops Q rest (a.put o.dst v') w') :
  wpList Tryz.prog ops Q (o :: rest) a w := by
 obtain ⟨i0, hi, hz0, hz1, hz2⟩ := info_parts hinf
 have hb : (n + m) * by_ ≤ 1000000 * 1000 := Nat.mul_le_mul hn hby
 refine wpList_append_own_at w hgd s x tS ho base tE i0 zv sz by_ hu hi hz0 hz1 hz2 hzs hsz v n xs hs hown ad m c e hx hl hc h1 (by unfold maxLen; omega) (by omega) hbase ?_
 intro v' w' h1 h2 h3 h4
 exact h v' w' h1 h2 h4
theorem own_take {w : World} {g n c sz k : Nat} {t : TypeId} {xs : List Value} (h : w.ownsRow 0 t sz (.slice (some ⟨g, 0, none⟩) n c) n xs) (hk : k ≤ n) : w.ownsRow 0 t sz (.slice (some ⟨g, 0, none⟩) k c) k (xs.take (k * sz)) := by
 have hl := h.1
 have hm : k * sz ≤ n * sz := Nat.mul_le_mul_right _ hk
 rcases h.2 with ⟨e, -⟩ | ⟨g', cap, cur, e, h1, h2, h3, h4, h5, h6⟩
 ·cases e
 ·injection e with e1 e2 e3
  injection e1 with e1
  injection e1 with e1
  subst e1 e3
  exact ⟨by rw [List.length_take, hl, Nat.min_eq_left hm], .inr ⟨g, c, cur, rfl, h1, h2, by omega, h4, h5, by rw [← h6, List.take_take, Nat.min_eq_left hm]⟩⟩
theorem flatk_take {α : Type} {f : α → List Value} {sz : Nat} (hf : ∀ x, (f x).length = sz) : ∀ (l : List α) (k : Nat), (l.flatMap f).take (k * sz) = (l.take k).flatMap f
 | [], k => by simp
 | x :: r, 0 => by simp
 | x :: r, k + 1 => by
  rw [List.flatMap_cons, List.take_succ_cons, List.flatMap_cons, ← flatk_take hf r k, List.take_append, List.take_of_length_le (l := f x) (by rw [hf, Nat.succ_mul]; omega), hf, show (k + 1) * sz - sz = k * sz by rw [Nat.succ_mul]; omega]
theorem flatk_drop {α : Type} {f : α → List Value} {sz : Nat} (hf : ∀ x, (f x).length = sz) : ∀ (l : List α) (k : Nat), (l.flatMap f).drop (k * sz) = (l.drop k).flatMap f
 | [], k => by simp
 | x :: r, 0 => by simp
 | x :: r, k + 1 => by
  have e : (f x).drop ((k + 1) * sz) = [] := List.drop_of_length_le (by rw [hf, Nat.succ_mul]; omega)
  rw [List.flatMap_cons, List.drop_succ_cons, ← flatk_drop hf r k, List.drop_append, e, List.nil_append, hf, show (k + 1) * sz - sz = k * sz by rw [Nat.succ_mul]; omega]
theorem td_rest {w : World} {g n c k : Nat} {L : List TdI} (h : w.ownsRow 0 113 11 (.slice (some ⟨g, 0, none⟩) n c) n (L.flatMap tdC)) (hn : L.length = n) (hk : k ≤ n) : ∃ A : Addr, (if c = k then (some ⟨g, 0, none⟩ : Option Addr) else some ⟨g, k * 11, none⟩) = some A ∧ (∀ W, Tch w W [] → ∀ j u, ((L.drop k).flatMap tdC)[j]? = some u → W.cell? (A.add j) = some u) ∧ ((L.drop k).flatMap tdC).length = (n - k) * 11 := by
 obtain ⟨A', c', e, hnc, -⟩ := own_sl h
 injection e with e1 e2 e3
 subst e3
 have hlen : ((L.drop k).flatMap tdC).length = (n - k) * 11 := by rw [flatk_len td_eleven, List.length_drop, hn]
 by_cases hck : c = k
 ·refine ⟨_, if_pos hck, fun W hT j u hj => ?_, hlen⟩
  have := (List.getElem?_eq_some_iff.1 hj).1
  omega
 ·refine ⟨_, if_neg hck, fun W hT j u hj => ?_, hlen⟩
  rw [← flatk_drop td_eleven, List.getElem?_drop] at hj
  rw [show (⟨g, k * 11, none⟩ : Addr).add j = ⟨g, k * 11 + j, none⟩ by unfold Addr.add; split <;> simp_all]
  exact own_cellN (own_tch h hT (by simp)) hj
theorem withoutD (t : Nat) (S : List Nat) (L : List TdI) (hL : L.length ≤ 1000) (i : Nat) (hi : i < L.length) (w : World) (h : RbD w t S L) :
  Calls Tryz.prog 131 #[.pointer (some ⟨t, 0, none⟩), .int .i64 (i : Int)] w fun e w' => e = .returned (.tuple #[]) ∧ ∃ S', RbD w' t S' (L.eraseIdx i) ∧ Goes w w' S S' := by
 have HH := lH h
 obtain ⟨A, c, c0, hrow, htl, hfz⟩ := h.head
 obtain ⟨g, rfl⟩ := slice_some hrow (by omega)
 obtain ⟨n, hn⟩ : ∃ n, L.length = n := ⟨_, rfl⟩
 rw [hn] at c0 hrow hi hL
 obtain ⟨A1, hA1, hcells, hlen⟩ := td_rest (k := i + 1) hrow hn (by omega)
 have hrow1 := own_take hrow (k := i) (by omega)
 rw [flatk_take td_eleven] at hrow1
 have HRow1 := lH hrow1
 have HCells := lH hcells
 have HLen := lH hlen
 obtain ⟨d, hd⟩ : ∃ d, n - (i + 1) = d := ⟨_, rfl⟩
 rw [hd] at HLen
 have HNil : Hid (w.ownsRow w.heap.size 113 11 (.slice none 0 0) 0 []) := lH ⟨rfl, .inl ⟨rfl, rfl⟩⟩
 have HSz : Hid (0 + i ≤ 1000000 ∧ 0 + i + d ≤ 1000000) := lH (by omega)
 have HEr : Hid ([] ++ (L.take i).flatMap tdC ++ (L.drop (i + 1)).flatMap tdC = (L.eraseIdx i).flatMap tdC ∧ (L.eraseIdx i).length = 0 + i + d) := lH (by
  rw [List.eraseIdx_eq_take_drop_succ, List.flatMap_append, List.length_append, List.length_take, List.length_drop, hn]
  exact ⟨rfl, by omega⟩)
 have HNum : Hid (∀ u ∈ L.eraseIdx i, NumT u) := lH (fun u hu => h.num u (List.mem_of_mem_eraseIdx hu))
 have HTl := lH htl
 have j1 : IntKind.i64.wrap ((i : Int) + 1) = (i : Int) + 1 := by rw [IntKind.wrap_i64]; omega
 have hnc' : n ≤ c := by
  obtain ⟨_, _, e, h9, _⟩ := own_sl hrow
  injection e with e1 e2 e3
  omega
 have hic : i ≤ c := by omega
 have hib : (0 : Int) ≤ (i : Int) + 1 ∧ (i : Int) + 1 ≤ (n : Int) := by omega
 clear hrow hrow1 hcells hlen h hn
 go_enter Tryz.func131, Tryz.ntmps131
 go_wp2_with (first
  | (at_builtin; (refine wpList_apm 54 113 (.agg #[.bool false, .int .u64 0, .int .u64 0, .int .i64 0, .int .i64 0, .int .i64 0, .bool false, .int .u64 0, .int .u64 0, .int .i64 0, .bool false]) 11 88 Tryz.underlying54 infoTd rfl (by decide) (by decide) _ rfl (.tmp 5) (.tmp 11) rfl w.heap.size (.slice none 0 0) 0 [] rfl HNil.out 0 (.slice (some ⟨g, 0, none⟩) i c) i ((L.take i).flatMap tdC) rfl HRow1.out (flat_one td_one _) HSz.out.1 (Nat.le_refl _) ?_; intro v5 w5 hown hg hv; have hT5 : Tch w w5 [] := Tch.of_grown' hg (fun g e => by cases e); have c5 := (hT5.cell (p := ⟨t, 0, none⟩) HTl.out (by simp)).trans c0; have HC5 := lH (HCells.out w5 hT5); have HO5 := lH hown; have HT5 := lH hT5; clear hown hg hv hT5 c0))
  | (at_builtin; (refine wpList_apx 54 113 (.agg #[.bool false, .int .u64 0, .int .u64 0, .int .i64 0, .int .i64 0, .int .i64 0, .bool false, .int .u64 0, .int .u64 0, .int .i64 0, .bool false]) 11 88 Tryz.underlying54 infoTd rfl (by decide) (by decide) _ rfl (.tmp 14) (.tmp 21) rfl w.heap.size v5 (0 + i) _ rfl HO5.out A1 d (c - (i + 1)) _ rfl HLen.out HC5.out (flat_one td_one _) HSz.out.2 HT5.out.size ?_; intro v7 w7 hown hg hv; obtain ⟨A7, c7, e7, -, -⟩ := own_sl hown; subst e7; have hT7 : Tch w w7 [] := HT5.out.trans_fre (Tch.of_grown' (S := obI v5) hg (fun k e => by rw [obI_some e]; simp)) (fun s hs => .inr (own_geI HO5.out s hs).1); obtain ⟨⟨u7, k7⟩, f7, S', hD7, hG7⟩ := RbD.set_ HH.out hT7 (A := A7) (c := c7) (M := L.eraseIdx i) (by rw [HEr.out.2, ← HEr.out.1]; exact hown) HNum.out; rw [HEr.out.2, Nat.zero_add] at hD7 hG7; have HD7 := lH hD7; have HG7 := lH hG7; clear hown hg hv hT7 hD7 hG7)))
 go_end0
 exact ⟨rfl, S', HD7.out, HG7.out⟩
theorem dropRD (t : Nat) (S : List Nat) (L : List TdI) (hL : L.length ≤ 1000) (p : PfI) (x : PaI) (w : World) (h : RbD w t S L) :
  Calls Tryz.prog 86 #[.pointer (some ⟨t, 0, none⟩), pfR p, paR x] w fun e w' => e = .returned (.int .i64 (dropR L p x).2) ∧ ∃ S', RbD w' t S' (dropR L p x).1 ∧ Goes w w' S S' := by
 have HH := lH h
 have HWay := lH (fun W (hT : Tch w W []) => wayD t S L hL p x W (h.tch hT (by simp)))
 have HWt := lH (fun i (hi : i < L.length) W (hD : RbD W t S L) => withoutD t S L hL i hi W hD)
 have hle : wayI L p x ≤ L.length := fndI_le _ _
 have HT : Hid (∀ (o o' : Obj), Tch w ((w.alloc o).alloc o') []) := lH (fun o o' => ((Tch.refl w []).alloc _).alloc _)
 have HE0 : Hid (wayI L p x = 0 → dropR L p x = (L, 142)) := lH (fun e => by unfold dropR; rw [if_pos e])
 have HE1 : Hid (∀ k, wayI L p x = k + 1 → dropR L p x = (L.eraseIdx k, 0)) := lH (fun k e => by unfold dropR; rw [if_neg (by omega), e, Nat.add_sub_cancel])
 obtain ⟨⟨⟨ps, ph, pl⟩, pb⟩, hp⟩ : ∃ q : PfI, q = p := ⟨p, rfl⟩
 obtain ⟨⟨pr, me, ⟨vs, vh, vl⟩, po, aw⟩, hx⟩ : ∃ q : PaI, q = x := ⟨x, rfl⟩
 subst hp hx
 obtain ⟨z, hz⟩ : ∃ z : Int, ((wayI L ((ps, ph, pl), pb) (pr, me, (vs, vh, vl), po, aw) : Nat) : Int) - 1 = z := ⟨_, rfl⟩
 rw [hz] at HWay
 have HZ := lH hz
 have HLe := lH hle
 clear h hz hle
 go_enter Tryz.func86, Tryz.ntmps86
 go_wp2_with fail
 refine cZm (HWay.out _ (HT.out _ _)) ?_
 rintro e w5 ⟨rfl, hT5⟩
 have HT5 := lH ((HT.out _ _).trans hT5)
 clear hT5
 by_cases hz0 : z < 0
 ·have HE := lH (HE0.out (by have := HZ.out; omega))
  go_wp2
  go_ret
  rw [HE.out]
  exact ⟨rfl, S, HH.out.tch HT5.out (by simp), Goes.of_tch (HT5.out.mono (by simp))⟩
 ·obtain ⟨k, rfl⟩ : ∃ k : Nat, z = (k : Int) := ⟨z.toNat, by omega⟩
  have hk : wayI L ((ps, ph, pl), pb) (pr, me, (vs, vh, vl), po, aw) = k + 1 := by have := HZ.out; omega
  have HE := lH (HE1.out k hk)
  have HW2 := lH (HWt.out k (by have := HLe.out; omega) w5 (HH.out.tch HT5.out (by simp)))
  clear hk
  go_wp2_with fail
  refine cZm HW2.out ?_
  rintro e w7 ⟨rfl, S', hD, hG⟩
  have HD := lH hD
  have HG : Hid (Goes w w7 S S') := lH ⟨(HT5.out.mono (by simp)).trans hG.tch, fun s hs => by
   rcases hG.fre s hs with h1 | h1
   ·exact .inl h1
   ·exact .inr (Nat.le_trans HT5.out.size h1)⟩
  clear hD hG
  go_wp2
  go_ret
  rw [HE.out]
  exact ⟨rfl, S', HD.out, HG.out⟩
end Go.Proofs.YtgfkmgbcajdcdaaGreatDoor
