/-
  The document's own rib (layer 15): way.
-/
import Derived.Test.YtjlmgkdieffjcaaGreatDoorTk
import Derived.Test.YtjlmgkdieffjcaaGreatDoorRbE
namespace Go.Proofs.YtjlmgkdieffjcaaGreatDoor
open Go.RowKit
set_option linter.unusedVariables false

set_option maxRecDepth 100000 in
set_option maxHeartbeats 8000000 in
theorem wayD (t : Nat) (S : List Nat) (L : List TdI) (hL : L.length ≤ 1000) (p : PfI) (x : PaI) (w : World) (h : RbD w t S L) :
    Calls Tryz.prog 50 #[.pointer (some ⟨t, 0, none⟩), pfR p, paR x] w fun e w' => e = .returned (.int .i64 ((wayI L p x : Int) - 1)) ∧ Tch w w' [] := by
  have HH := Lib.hid h
  obtain ⟨⟨ps, ph, pl⟩, pb⟩ := p
  obtain ⟨pr, me, ⟨vs, vh, vl⟩, po, aw⟩ := x
  obtain ⟨A, cA, c0, hrow, htl, -⟩ := h.head
  obtain ⟨n, hn⟩ : ∃ n, L.length = n := ⟨_, rfl⟩
  rw [hn] at c0 hrow hL
  have HN := Lib.hid hn
  have HR := Lib.hid hrow
  have HC0 := Lib.hid (And.intro c0 htl)
  obtain ⟨xb, hxb⟩ : ∃ xb, w.heap.size = xb := ⟨_, rfl⟩
  obtain ⟨yb, hyb⟩ : ∃ yb, xb + 1 = yb := ⟨_, rfl⟩
  have HXY := Lib.hid (And.intro hxb hyb)
  have HB1 : Hid (Blk ((w.alloc (.cells #[.bool ps, .int .u64 (ph : Int), .int .u64 (pl : Int), .int .i64 pb] 32)).alloc (.cells #[.int .i64 pr, .int .i64 me, .bool vs, .int .u64 (vh : Int), .int .u64 (vl : Int), .int .i64 po, .bool aw] 34)) xb 32 #[.bool ps, .int .u64 (ph : Int), .int .u64 (pl : Int), .int .i64 pb]) := Lib.hid (hxb ▸ (Blk.new w _ _).alloc _)
  have HB2 : Hid (Blk ((w.alloc (.cells #[.bool ps, .int .u64 (ph : Int), .int .u64 (pl : Int), .int .i64 pb] 32)).alloc (.cells #[.int .i64 pr, .int .i64 me, .bool vs, .int .u64 (vh : Int), .int .u64 (vl : Int), .int .i64 po, .bool aw] 34)) yb 34 #[.int .i64 pr, .int .i64 me, .bool vs, .int .u64 (vh : Int), .int .u64 (vl : Int), .int .i64 po, .bool aw]) := Lib.hid (by
    have := Blk.new (w.alloc (.cells #[.bool ps, .int .u64 (ph : Int), .int .u64 (pl : Int), .int .i64 pb] 32)) 34 #[.int .i64 pr, .int .i64 me, .bool vs, .int .u64 (vh : Int), .int .u64 (vl : Int), .int .i64 po, .bool aw]
    rw [World.size_alloc, hxb, hyb] at this
    exact this)
  clear h c0 hrow htl hxb hyb hn
  go_enter Tryz.func50, Tryz.ntmps50
  go_wp2
  rw [HXY.out.1, HXY.out.2]
  go_loopw [7] (fun kv wr => ∃ k : Nat, kv = .int .i64 (k : Int) ∧ k ≤ n ∧ Hid (∀ (j : Nat) (u : TdI), j < k → L[j]? = some u → isW ((ps, ph, pl), pb) (pr, me, (vs, vh, vl), po, aw) u = false) ∧ Hid (Tch w wr []) ∧ Hid (Blk wr xb 32 #[.bool ps, .int .u64 (ph : Int), .int .u64 (pl : Int), .int .i64 pb]) ∧ Hid (Blk wr yb 34 #[.int .i64 pr, .int .i64 me, .bool vs, .int .u64 (vh : Int), .int .u64 (vl : Int), .int .i64 po, .bool aw])) (fun kv _ => n - (intOf kv).toNat)
  case atStart => exact ⟨0, rfl, Nat.zero_le _, Lib.hid (fun j u hj => absurd hj (by omega)), Lib.hid (((Tch.refl w []).alloc _).alloc _), HB1, HB2⟩
  case round =>
    obtain ⟨k, rfl, hk, hA, hT, hX, hY⟩ := hrel
    have c0 := (hT.out.cell (p := ⟨t, 0, none⟩) HC0.out.2 (by simp)).trans HC0.out.1
    have k1 : IntKind.i64.wrap ((k : Int) + 1) = (k : Int) + 1 := by rw [IntKind.wrap_i64]; omega
    by_cases hkn : k < n
    · have kI : (k : Int) < (n : Int) := by omega
      have k0 : (0 : Int) ≤ (k : Int) := by omega
      obtain ⟨u, hu⟩ : ∃ u, L[k]? = some u := ⟨_, List.getElem?_eq_getElem (by rw [HN.out]; exact hkn)⟩
      have d3 := own_tch HR.out hT.out (by simp)
      obtain ⟨g, rfl⟩ := slice_some d3 (by omega)
      obtain ⟨u0, u1, u2, u3, u4, u5, u6, u7, u8, u9, u10⟩ := td_cells d3 hu
      have Hu := Lib.hid hu
      have HYes : Hid (isW ((ps, ph, pl), pb) (pr, me, (vs, vh, vl), po, aw) u = true → wayI L ((ps, ph, pl), pb) (pr, me, (vs, vh, vl), po, aw) = k + 1) := Lib.hid (fun e => fndI_succ.2 ⟨⟨u, hu, e⟩, hA.out⟩)
      have HNo : Hid (isW ((ps, ph, pl), pb) (pr, me, (vs, vh, vl), po, aw) u = false → Hid (∀ (j : Nat) (v : TdI), j < k + 1 → L[j]? = some v → isW ((ps, ph, pl), pb) (pr, me, (vs, vh, vl), po, aw) v = false)) := Lib.hid (fun e => Lib.hid (fun j v hj hv => by
        rcases Nat.lt_or_ge j k with h1 | h1
        · exact hA.out j v h1 hv
        · obtain rfl : j = k := by omega
          rw [hu] at hv
          injection hv with hv
          subst hv
          exact e))
      obtain ⟨⟨⟨us, uh, ul⟩, ub⟩, upr, ume, ⟨uvs, uvh, uvl⟩, upo, uaw⟩ := u
      obtain ⟨b0, hb0⟩ : ∃ b, decide ((((us, uh, ul), ub) : PfI) = ((ps, ph, pl), pb)) = b := ⟨_, rfl⟩
      have HQ0 : ∀ W, (binOp .eql 32 (.agg #[.bool us, .int .u64 (uh : Int), .int .u64 (ul : Int), .int .i64 ub]) (.agg #[.bool ps, .int .u64 (ph : Int), .int .u64 (pl : Int), .int .i64 pb])).run Tryz.prog W = .ok (.bool b0) W := eqA_eql 32 _ _ (eq_pfR ((us, uh, ul), ub) ((ps, ph, pl), pb) hb0)
      obtain ⟨b2, hb2⟩ : ∃ b, decide (((vs, vh, vl) : AdR) = (uvs, uvh, uvl)) = b := ⟨_, rfl⟩
      have HQ2 : ∀ W, (binOp .eql 30 (.agg #[.bool vs, .int .u64 (vh : Int), .int .u64 (vl : Int)]) (.agg #[.bool uvs, .int .u64 (uvh : Int), .int .u64 (uvl : Int)])).run Tryz.prog W = .ok (.bool b2) W := eqA_eql 30 _ _ (eq_adR (vs, vh, vl) (uvs, uvh, uvl) hb2)
      obtain ⟨b1, hb1⟩ : ∃ b, decide (pr = upr) = b := ⟨_, rfl⟩
      obtain ⟨b3, hb3⟩ : ∃ b, decide (po = upo) = b := ⟨_, rfl⟩
      obtain ⟨b4, hb4⟩ : ∃ b, decide (aw = uaw) = b := ⟨_, rfl⟩
      have e1 : (pr == upr) = b1 := by rw [beq_int, hb1]
      have e3 : (po == upo) = b3 := by rw [beq_int, hb3]
      have e4 : (aw == uaw) = b4 := by rw [beq_bool, hb4]
      have HIs : Hid (isW ((ps, ph, pl), pb) (pr, me, (vs, vh, vl), po, aw) (((us, uh, ul), ub), upr, ume, (uvs, uvh, uvl), upo, uaw) = (b0 && (b1 && (b2 && (b3 && b4))))) := Lib.hid (by unfold isW sameW; rw [← hb0, ← hb1, ← hb2, ← hb3, ← hb4])
      have HT5d : Hid (Tch w (wr.alloc (.cells #[.int .i64 upr, .int .i64 ume, .bool uvs, .int .u64 (uvh : Int), .int .u64 (uvl : Int), .int .i64 upo, .bool uaw] 34)).drew []) := Lib.hid (hT.out.alloc _).drew
      have HX5 := Lib.hid (hX.out.alloc (.cells #[.int .i64 upr, .int .i64 ume, .bool uvs, .int .u64 (uvh : Int), .int .u64 (uvl : Int), .int .i64 upo, .bool uaw] 34))
      have HY5 := Lib.hid (hY.out.alloc (.cells #[.int .i64 upr, .int .i64 ume, .bool uvs, .int .u64 (uvh : Int), .int .u64 (uvl : Int), .int .i64 upo, .bool uaw] 34))
      have HZ5 := Lib.hid (Blk.new wr 34 #[.int .i64 upr, .int .i64 ume, .bool uvs, .int .u64 (uvh : Int), .int .u64 (uvl : Int), .int .i64 upo, .bool uaw])
      obtain ⟨W5, hW5⟩ : ∃ W5, wr.alloc (.cells #[.int .i64 upr, .int .i64 ume, .bool uvs, .int .u64 (uvh : Int), .int .u64 (uvl : Int), .int .i64 upo, .bool uaw] 34) = W5 := ⟨_, rfl⟩
      obtain ⟨zb, hzb⟩ : ∃ zb, wr.heap.size = zb := ⟨_, rfl⟩
      have HCl : Hid ((fun W => W.cell? ⟨t, 0, none⟩ = some (Value.slice (some ⟨g, 0, none⟩) n cA) ∧ W.cell? ⟨g, k * 11, none⟩ = some (Value.bool us) ∧ W.cell? ⟨g, k * 11 + 1, none⟩ = some (Value.int .u64 (uh : Int)) ∧ W.cell? ⟨g, k * 11 + 2, none⟩ = some (Value.int .u64 (ul : Int)) ∧ W.cell? ⟨g, k * 11 + 3, none⟩ = some (Value.int .i64 ub) ∧ W.cell? ⟨xb, 0, none⟩ = some (Value.bool ps) ∧ W.cell? ⟨xb, 1, none⟩ = some (Value.int .u64 (ph : Int)) ∧ W.cell? ⟨xb, 2, none⟩ = some (Value.int .u64 (pl : Int)) ∧ W.cell? ⟨xb, 3, none⟩ = some (Value.int .i64 pb) ∧ W.cell? ⟨yb, 0, none⟩ = some (Value.int .i64 pr) ∧ W.cell? ⟨yb, 2, none⟩ = some (Value.bool vs) ∧ W.cell? ⟨yb, 3, none⟩ = some (Value.int .u64 (vh : Int)) ∧ W.cell? ⟨yb, 4, none⟩ = some (Value.int .u64 (vl : Int)) ∧ W.cell? ⟨yb, 5, none⟩ = some (Value.int .i64 po) ∧ W.cell? ⟨yb, 6, none⟩ = some (Value.bool aw) ∧ W.cell? ⟨zb, 0, none⟩ = some (Value.int .i64 upr) ∧ W.cell? ⟨zb, 2, none⟩ = some (Value.bool uvs) ∧ W.cell? ⟨zb, 3, none⟩ = some (Value.int .u64 (uvh : Int)) ∧ W.cell? ⟨zb, 4, none⟩ = some (Value.int .u64 (uvl : Int)) ∧ W.cell? ⟨zb, 5, none⟩ = some (Value.int .i64 upo) ∧ W.cell? ⟨zb, 6, none⟩ = some (Value.bool uaw)) W5) := Lib.hid (by
        show _ ∧ _
        rw [hW5] at HX5 HY5 HZ5
        rw [hzb] at HZ5
        have al := fun (p : Addr) v (hv : wr.cell? p = some v) => (show W5.cell? p = some v from hW5 ▸ Lib.cell?_alloc_some _ hv)
        exact ⟨al _ _ c0, al _ _ u0, al _ _ u1, al _ _ u2, al _ _ u3, (HX5.out.cell 0).trans rfl, (HX5.out.cell 1).trans rfl, (HX5.out.cell 2).trans rfl, (HX5.out.cell 3).trans rfl, (HY5.out.cell 0).trans rfl, (HY5.out.cell 2).trans rfl, (HY5.out.cell 3).trans rfl, (HY5.out.cell 4).trans rfl, (HY5.out.cell 5).trans rfl, (HY5.out.cell 6).trans rfl, (HZ5.out.cell 0).trans rfl, (HZ5.out.cell 2).trans rfl, (HZ5.out.cell 3).trans rfl, (HZ5.out.cell 4).trans rfl, (HZ5.out.cell 5).trans rfl, (HZ5.out.cell 6).trans rfl⟩)
      have HW5 := Lib.hid (And.intro hW5 hzb)
      rw [hW5] at HT5d HX5 HY5
      clear d3 hu hT hX hY hb0 hb1 hb2 hb3 hb4 hW5 hzb HZ5 u0 u1 u2 u3
      go_wp2
      rw [HW5.out.1, HW5.out.2]
      cases b0 with
      | false =>
        have HF : Hid (isW ((ps, ph, pl), pb) (pr, me, (vs, vh, vl), po, aw) (((us, uh, ul), ub), upr, ume, (uvs, uvh, uvl), upo, uaw) = false) := Lib.hid (by rw [HIs.out]; simp)
        refine wp_region_held_drew (S := (fun W => W.cell? ⟨t, 0, none⟩ = some (Value.slice (some ⟨g, 0, none⟩) n cA) ∧ W.cell? ⟨g, k * 11, none⟩ = some (Value.bool us) ∧ W.cell? ⟨g, k * 11 + 1, none⟩ = some (Value.int .u64 (uh : Int)) ∧ W.cell? ⟨g, k * 11 + 2, none⟩ = some (Value.int .u64 (ul : Int)) ∧ W.cell? ⟨g, k * 11 + 3, none⟩ = some (Value.int .i64 ub) ∧ W.cell? ⟨xb, 0, none⟩ = some (Value.bool ps) ∧ W.cell? ⟨xb, 1, none⟩ = some (Value.int .u64 (ph : Int)) ∧ W.cell? ⟨xb, 2, none⟩ = some (Value.int .u64 (pl : Int)) ∧ W.cell? ⟨xb, 3, none⟩ = some (Value.int .i64 pb) ∧ W.cell? ⟨yb, 0, none⟩ = some (Value.int .i64 pr) ∧ W.cell? ⟨yb, 2, none⟩ = some (Value.bool vs) ∧ W.cell? ⟨yb, 3, none⟩ = some (Value.int .u64 (vh : Int)) ∧ W.cell? ⟨yb, 4, none⟩ = some (Value.int .u64 (vl : Int)) ∧ W.cell? ⟨yb, 5, none⟩ = some (Value.int .i64 po) ∧ W.cell? ⟨yb, 6, none⟩ = some (Value.bool aw) ∧ W.cell? ⟨zb, 0, none⟩ = some (Value.int .i64 upr) ∧ W.cell? ⟨zb, 2, none⟩ = some (Value.bool uvs) ∧ W.cell? ⟨zb, 3, none⟩ = some (Value.int .u64 (uvh : Int)) ∧ W.cell? ⟨zb, 4, none⟩ = some (Value.int .u64 (uvl : Int)) ∧ W.cell? ⟨zb, 5, none⟩ = some (Value.int .i64 upo) ∧ W.cell? ⟨zb, 6, none⟩ = some (Value.bool uaw))) (by kernel_rfl) ?_ (fun hHeld => ?_)
        · (exact HCl.out)
        refine tkH 0 (by assumption) ?_
        refine tkH 1 (by assumption) ?_
        refine tkH 2 (by assumption) ?_
        refine tkH 3 (by assumption) ?_
        refine tkH 4 (by assumption) ?_
        refine tkH 5 (by assumption) ?_
        refine tkH 6 (by assumption) ?_
        refine tkH 7 (by assumption) ?_
        refine tkH 8 (by assumption) ?_
        refine tkH 9 (by assumption) ?_
        refine tkH 10 (by assumption) ?_
        refine tkO 11 (by assumption) ?_
        refine tkO 12 (by assumption) ?_
        refine tkO 13 (by assumption) ?_
        refine tkO 14 (by assumption) ?_
        refine tkO 15 (by assumption) ?_
        refine tkH 16 (by assumption) ?_
        refine tkH 17 (by assumption) ?_
        refine tkO 18 (by assumption) ?_
        refine tkO 19 (by assumption) ?_
        refine tkO 20 (by assumption) ?_
        refine tkO 21 (by assumption) ?_
        refine tkO 22 (by assumption) ?_
        refine tkH 23 (by assumption) ?_
        refine tkH 24 (by assumption) ?_
        refine tkO 25 (by assumption) ?_
        refine tkO 26 (by assumption) ?_
        refine tkO 27 (by assumption) ?_
        refine tkO 28 (by assumption) ?_
        refine tkO 29 (by assumption) ?_
        refine tkH 30 (by assumption) ?_
        refine tkH 31 (by assumption) ?_
        refine tkO 32 (by assumption) ?_
        refine tkO 33 (by assumption) ?_
        refine tkO 34 (by assumption) ?_
        refine tkO 35 (by assumption) ?_
        refine tkO 36 (by assumption) ?_
        refine tkH 37 (by assumption) ?_
        refine wpAnyH_done (by kernel_rfl) ?_ _
        go_wp2
        go_roundw
        case rel => exact ⟨k + 1, by go_num, hkn, HNo.out HF.out, HT5d, Lib.hid HX5.out, Lib.hid HY5.out⟩
        case measure => simp [intOf]; omega
      | true =>
        cases b1 with
        | false =>
          have HF : Hid (isW ((ps, ph, pl), pb) (pr, me, (vs, vh, vl), po, aw) (((us, uh, ul), ub), upr, ume, (uvs, uvh, uvl), upo, uaw) = false) := Lib.hid (by rw [HIs.out]; simp)
          refine wp_region_held_drew (S := (fun W => W.cell? ⟨t, 0, none⟩ = some (Value.slice (some ⟨g, 0, none⟩) n cA) ∧ W.cell? ⟨g, k * 11, none⟩ = some (Value.bool us) ∧ W.cell? ⟨g, k * 11 + 1, none⟩ = some (Value.int .u64 (uh : Int)) ∧ W.cell? ⟨g, k * 11 + 2, none⟩ = some (Value.int .u64 (ul : Int)) ∧ W.cell? ⟨g, k * 11 + 3, none⟩ = some (Value.int .i64 ub) ∧ W.cell? ⟨xb, 0, none⟩ = some (Value.bool ps) ∧ W.cell? ⟨xb, 1, none⟩ = some (Value.int .u64 (ph : Int)) ∧ W.cell? ⟨xb, 2, none⟩ = some (Value.int .u64 (pl : Int)) ∧ W.cell? ⟨xb, 3, none⟩ = some (Value.int .i64 pb) ∧ W.cell? ⟨yb, 0, none⟩ = some (Value.int .i64 pr) ∧ W.cell? ⟨yb, 2, none⟩ = some (Value.bool vs) ∧ W.cell? ⟨yb, 3, none⟩ = some (Value.int .u64 (vh : Int)) ∧ W.cell? ⟨yb, 4, none⟩ = some (Value.int .u64 (vl : Int)) ∧ W.cell? ⟨yb, 5, none⟩ = some (Value.int .i64 po) ∧ W.cell? ⟨yb, 6, none⟩ = some (Value.bool aw) ∧ W.cell? ⟨zb, 0, none⟩ = some (Value.int .i64 upr) ∧ W.cell? ⟨zb, 2, none⟩ = some (Value.bool uvs) ∧ W.cell? ⟨zb, 3, none⟩ = some (Value.int .u64 (uvh : Int)) ∧ W.cell? ⟨zb, 4, none⟩ = some (Value.int .u64 (uvl : Int)) ∧ W.cell? ⟨zb, 5, none⟩ = some (Value.int .i64 upo) ∧ W.cell? ⟨zb, 6, none⟩ = some (Value.bool uaw))) (by kernel_rfl) ?_ (fun hHeld => ?_)
          · (exact HCl.out)
          refine tkH 0 (by assumption) ?_
          refine tkH 1 (by assumption) ?_
          refine tkH 2 (by assumption) ?_
          refine tkH 3 (by assumption) ?_
          refine tkH 4 (by assumption) ?_
          refine tkH 5 (by assumption) ?_
          refine tkH 6 (by assumption) ?_
          refine tkH 7 (by assumption) ?_
          refine tkH 8 (by assumption) ?_
          refine tkH 9 (by assumption) ?_
          refine tkH 10 (by assumption) ?_
          refine tkH 11 (by assumption) ?_
          refine tkH 12 (by assumption) ?_
          refine tkH 13 (by assumption) ?_
          refine tkH 14 (by assumption) ?_
          refine tkH 15 (by assumption) ?_
          refine tkH 16 (by assumption) ?_
          refine tkH 17 (by assumption) ?_
          refine tkO 18 (by assumption) ?_
          refine tkO 19 (by assumption) ?_
          refine tkO 20 (by assumption) ?_
          refine tkO 21 (by assumption) ?_
          refine tkO 22 (by assumption) ?_
          refine tkH 23 (by assumption) ?_
          refine tkH 24 (by assumption) ?_
          refine tkO 25 (by assumption) ?_
          refine tkO 26 (by assumption) ?_
          refine tkO 27 (by assumption) ?_
          refine tkO 28 (by assumption) ?_
          refine tkO 29 (by assumption) ?_
          refine tkH 30 (by assumption) ?_
          refine tkH 31 (by assumption) ?_
          refine tkO 32 (by assumption) ?_
          refine tkO 33 (by assumption) ?_
          refine tkO 34 (by assumption) ?_
          refine tkO 35 (by assumption) ?_
          refine tkO 36 (by assumption) ?_
          refine tkH 37 (by assumption) ?_
          refine wpAnyH_done (by kernel_rfl) ?_ _
          go_wp2
          go_roundw
          case rel => exact ⟨k + 1, by go_num, hkn, HNo.out HF.out, HT5d, Lib.hid HX5.out, Lib.hid HY5.out⟩
          case measure => simp [intOf]; omega
        | true =>
          cases b2 with
          | false =>
            have HF : Hid (isW ((ps, ph, pl), pb) (pr, me, (vs, vh, vl), po, aw) (((us, uh, ul), ub), upr, ume, (uvs, uvh, uvl), upo, uaw) = false) := Lib.hid (by rw [HIs.out]; simp)
            refine wp_region_held_drew (S := (fun W => W.cell? ⟨t, 0, none⟩ = some (Value.slice (some ⟨g, 0, none⟩) n cA) ∧ W.cell? ⟨g, k * 11, none⟩ = some (Value.bool us) ∧ W.cell? ⟨g, k * 11 + 1, none⟩ = some (Value.int .u64 (uh : Int)) ∧ W.cell? ⟨g, k * 11 + 2, none⟩ = some (Value.int .u64 (ul : Int)) ∧ W.cell? ⟨g, k * 11 + 3, none⟩ = some (Value.int .i64 ub) ∧ W.cell? ⟨xb, 0, none⟩ = some (Value.bool ps) ∧ W.cell? ⟨xb, 1, none⟩ = some (Value.int .u64 (ph : Int)) ∧ W.cell? ⟨xb, 2, none⟩ = some (Value.int .u64 (pl : Int)) ∧ W.cell? ⟨xb, 3, none⟩ = some (Value.int .i64 pb) ∧ W.cell? ⟨yb, 0, none⟩ = some (Value.int .i64 pr) ∧ W.cell? ⟨yb, 2, none⟩ = some (Value.bool vs) ∧ W.cell? ⟨yb, 3, none⟩ = some (Value.int .u64 (vh : Int)) ∧ W.cell? ⟨yb, 4, none⟩ = some (Value.int .u64 (vl : Int)) ∧ W.cell? ⟨yb, 5, none⟩ = some (Value.int .i64 po) ∧ W.cell? ⟨yb, 6, none⟩ = some (Value.bool aw) ∧ W.cell? ⟨zb, 0, none⟩ = some (Value.int .i64 upr) ∧ W.cell? ⟨zb, 2, none⟩ = some (Value.bool uvs) ∧ W.cell? ⟨zb, 3, none⟩ = some (Value.int .u64 (uvh : Int)) ∧ W.cell? ⟨zb, 4, none⟩ = some (Value.int .u64 (uvl : Int)) ∧ W.cell? ⟨zb, 5, none⟩ = some (Value.int .i64 upo) ∧ W.cell? ⟨zb, 6, none⟩ = some (Value.bool uaw))) (by kernel_rfl) ?_ (fun hHeld => ?_)
            · (exact HCl.out)
            refine tkH 0 (by assumption) ?_
            refine tkH 1 (by assumption) ?_
            refine tkH 2 (by assumption) ?_
            refine tkH 3 (by assumption) ?_
            refine tkH 4 (by assumption) ?_
            refine tkH 5 (by assumption) ?_
            refine tkH 6 (by assumption) ?_
            refine tkH 7 (by assumption) ?_
            refine tkH 8 (by assumption) ?_
            refine tkH 9 (by assumption) ?_
            refine tkH 10 (by assumption) ?_
            refine tkH 11 (by assumption) ?_
            refine tkH 12 (by assumption) ?_
            refine tkH 13 (by assumption) ?_
            refine tkH 14 (by assumption) ?_
            refine tkH 15 (by assumption) ?_
            refine tkH 16 (by assumption) ?_
            refine tkH 17 (by assumption) ?_
            refine tkH 18 (by assumption) ?_
            refine tkH 19 (by assumption) ?_
            refine tkH 20 (by assumption) ?_
            refine tkH 21 (by assumption) ?_
            refine tkH 22 (by assumption) ?_
            refine tkH 23 (by assumption) ?_
            refine tkH 24 (by assumption) ?_
            refine tkO 25 (by assumption) ?_
            refine tkO 26 (by assumption) ?_
            refine tkO 27 (by assumption) ?_
            refine tkO 28 (by assumption) ?_
            refine tkO 29 (by assumption) ?_
            refine tkH 30 (by assumption) ?_
            refine tkH 31 (by assumption) ?_
            refine tkO 32 (by assumption) ?_
            refine tkO 33 (by assumption) ?_
            refine tkO 34 (by assumption) ?_
            refine tkO 35 (by assumption) ?_
            refine tkO 36 (by assumption) ?_
            refine tkH 37 (by assumption) ?_
            refine wpAnyH_done (by kernel_rfl) ?_ _
            go_wp2
            go_roundw
            case rel => exact ⟨k + 1, by go_num, hkn, HNo.out HF.out, HT5d, Lib.hid HX5.out, Lib.hid HY5.out⟩
            case measure => simp [intOf]; omega
          | true =>
            cases b3 with
            | false =>
              have HF : Hid (isW ((ps, ph, pl), pb) (pr, me, (vs, vh, vl), po, aw) (((us, uh, ul), ub), upr, ume, (uvs, uvh, uvl), upo, uaw) = false) := Lib.hid (by rw [HIs.out]; simp)
              refine wp_region_held_drew (S := (fun W => W.cell? ⟨t, 0, none⟩ = some (Value.slice (some ⟨g, 0, none⟩) n cA) ∧ W.cell? ⟨g, k * 11, none⟩ = some (Value.bool us) ∧ W.cell? ⟨g, k * 11 + 1, none⟩ = some (Value.int .u64 (uh : Int)) ∧ W.cell? ⟨g, k * 11 + 2, none⟩ = some (Value.int .u64 (ul : Int)) ∧ W.cell? ⟨g, k * 11 + 3, none⟩ = some (Value.int .i64 ub) ∧ W.cell? ⟨xb, 0, none⟩ = some (Value.bool ps) ∧ W.cell? ⟨xb, 1, none⟩ = some (Value.int .u64 (ph : Int)) ∧ W.cell? ⟨xb, 2, none⟩ = some (Value.int .u64 (pl : Int)) ∧ W.cell? ⟨xb, 3, none⟩ = some (Value.int .i64 pb) ∧ W.cell? ⟨yb, 0, none⟩ = some (Value.int .i64 pr) ∧ W.cell? ⟨yb, 2, none⟩ = some (Value.bool vs) ∧ W.cell? ⟨yb, 3, none⟩ = some (Value.int .u64 (vh : Int)) ∧ W.cell? ⟨yb, 4, none⟩ = some (Value.int .u64 (vl : Int)) ∧ W.cell? ⟨yb, 5, none⟩ = some (Value.int .i64 po) ∧ W.cell? ⟨yb, 6, none⟩ = some (Value.bool aw) ∧ W.cell? ⟨zb, 0, none⟩ = some (Value.int .i64 upr) ∧ W.cell? ⟨zb, 2, none⟩ = some (Value.bool uvs) ∧ W.cell? ⟨zb, 3, none⟩ = some (Value.int .u64 (uvh : Int)) ∧ W.cell? ⟨zb, 4, none⟩ = some (Value.int .u64 (uvl : Int)) ∧ W.cell? ⟨zb, 5, none⟩ = some (Value.int .i64 upo) ∧ W.cell? ⟨zb, 6, none⟩ = some (Value.bool uaw))) (by kernel_rfl) ?_ (fun hHeld => ?_)
              · (exact HCl.out)
              refine tkH 0 (by assumption) ?_
              refine tkH 1 (by assumption) ?_
              refine tkH 2 (by assumption) ?_
              refine tkH 3 (by assumption) ?_
              refine tkH 4 (by assumption) ?_
              refine tkH 5 (by assumption) ?_
              refine tkH 6 (by assumption) ?_
              refine tkH 7 (by assumption) ?_
              refine tkH 8 (by assumption) ?_
              refine tkH 9 (by assumption) ?_
              refine tkH 10 (by assumption) ?_
              refine tkH 11 (by assumption) ?_
              refine tkH 12 (by assumption) ?_
              refine tkH 13 (by assumption) ?_
              refine tkH 14 (by assumption) ?_
              refine tkH 15 (by assumption) ?_
              refine tkH 16 (by assumption) ?_
              refine tkH 17 (by assumption) ?_
              refine tkH 18 (by assumption) ?_
              refine tkH 19 (by assumption) ?_
              refine tkH 20 (by assumption) ?_
              refine tkH 21 (by assumption) ?_
              refine tkH 22 (by assumption) ?_
              refine tkH 23 (by assumption) ?_
              refine tkH 24 (by assumption) ?_
              refine tkH 25 (by assumption) ?_
              refine tkH 26 (by assumption) ?_
              refine tkH 27 (by assumption) ?_
              refine tkH 28 (by assumption) ?_
              refine tkH 29 (by assumption) ?_
              refine tkH 30 (by assumption) ?_
              refine tkH 31 (by assumption) ?_
              refine tkO 32 (by assumption) ?_
              refine tkO 33 (by assumption) ?_
              refine tkO 34 (by assumption) ?_
              refine tkO 35 (by assumption) ?_
              refine tkO 36 (by assumption) ?_
              refine tkH 37 (by assumption) ?_
              refine wpAnyH_done (by kernel_rfl) ?_ _
              go_wp2
              go_roundw
              case rel => exact ⟨k + 1, by go_num, hkn, HNo.out HF.out, HT5d, Lib.hid HX5.out, Lib.hid HY5.out⟩
              case measure => simp [intOf]; omega
            | true =>
              cases b4 with
              | false =>
                have HF : Hid (isW ((ps, ph, pl), pb) (pr, me, (vs, vh, vl), po, aw) (((us, uh, ul), ub), upr, ume, (uvs, uvh, uvl), upo, uaw) = false) := Lib.hid (by rw [HIs.out]; simp)
                refine wp_region_held_drew (S := (fun W => W.cell? ⟨t, 0, none⟩ = some (Value.slice (some ⟨g, 0, none⟩) n cA) ∧ W.cell? ⟨g, k * 11, none⟩ = some (Value.bool us) ∧ W.cell? ⟨g, k * 11 + 1, none⟩ = some (Value.int .u64 (uh : Int)) ∧ W.cell? ⟨g, k * 11 + 2, none⟩ = some (Value.int .u64 (ul : Int)) ∧ W.cell? ⟨g, k * 11 + 3, none⟩ = some (Value.int .i64 ub) ∧ W.cell? ⟨xb, 0, none⟩ = some (Value.bool ps) ∧ W.cell? ⟨xb, 1, none⟩ = some (Value.int .u64 (ph : Int)) ∧ W.cell? ⟨xb, 2, none⟩ = some (Value.int .u64 (pl : Int)) ∧ W.cell? ⟨xb, 3, none⟩ = some (Value.int .i64 pb) ∧ W.cell? ⟨yb, 0, none⟩ = some (Value.int .i64 pr) ∧ W.cell? ⟨yb, 2, none⟩ = some (Value.bool vs) ∧ W.cell? ⟨yb, 3, none⟩ = some (Value.int .u64 (vh : Int)) ∧ W.cell? ⟨yb, 4, none⟩ = some (Value.int .u64 (vl : Int)) ∧ W.cell? ⟨yb, 5, none⟩ = some (Value.int .i64 po) ∧ W.cell? ⟨yb, 6, none⟩ = some (Value.bool aw) ∧ W.cell? ⟨zb, 0, none⟩ = some (Value.int .i64 upr) ∧ W.cell? ⟨zb, 2, none⟩ = some (Value.bool uvs) ∧ W.cell? ⟨zb, 3, none⟩ = some (Value.int .u64 (uvh : Int)) ∧ W.cell? ⟨zb, 4, none⟩ = some (Value.int .u64 (uvl : Int)) ∧ W.cell? ⟨zb, 5, none⟩ = some (Value.int .i64 upo) ∧ W.cell? ⟨zb, 6, none⟩ = some (Value.bool uaw))) (by kernel_rfl) ?_ (fun hHeld => ?_)
                · (exact HCl.out)
                refine tkH 0 (by assumption) ?_
                refine tkH 1 (by assumption) ?_
                refine tkH 2 (by assumption) ?_
                refine tkH 3 (by assumption) ?_
                refine tkH 4 (by assumption) ?_
                refine tkH 5 (by assumption) ?_
                refine tkH 6 (by assumption) ?_
                refine tkH 7 (by assumption) ?_
                refine tkH 8 (by assumption) ?_
                refine tkH 9 (by assumption) ?_
                refine tkH 10 (by assumption) ?_
                refine tkH 11 (by assumption) ?_
                refine tkH 12 (by assumption) ?_
                refine tkH 13 (by assumption) ?_
                refine tkH 14 (by assumption) ?_
                refine tkH 15 (by assumption) ?_
                refine tkH 16 (by assumption) ?_
                refine tkH 17 (by assumption) ?_
                refine tkH 18 (by assumption) ?_
                refine tkH 19 (by assumption) ?_
                refine tkH 20 (by assumption) ?_
                refine tkH 21 (by assumption) ?_
                refine tkH 22 (by assumption) ?_
                refine tkH 23 (by assumption) ?_
                refine tkH 24 (by assumption) ?_
                refine tkH 25 (by assumption) ?_
                refine tkH 26 (by assumption) ?_
                refine tkH 27 (by assumption) ?_
                refine tkH 28 (by assumption) ?_
                refine tkH 29 (by assumption) ?_
                refine tkH 30 (by assumption) ?_
                refine tkH 31 (by assumption) ?_
                refine tkH 32 (by assumption) ?_
                refine tkH 33 (by assumption) ?_
                refine tkH 34 (by assumption) ?_
                refine tkH 35 (by assumption) ?_
                refine tkH 36 (by assumption) ?_
                refine tkH 37 (by assumption) ?_
                refine wpAnyH_done (by kernel_rfl) ?_ _
                go_wp2
                go_roundw
                case rel => exact ⟨k + 1, by go_num, hkn, HNo.out HF.out, HT5d, Lib.hid HX5.out, Lib.hid HY5.out⟩
                case measure => simp [intOf]; omega
              | true =>
                have HYe : Hid (wayI L ((ps, ph, pl), pb) (pr, me, (vs, vh, vl), po, aw) = k + 1) := Lib.hid (HYes.out (by rw [HIs.out]; rfl))
                refine wp_region_held_drew (S := (fun W => W.cell? ⟨t, 0, none⟩ = some (Value.slice (some ⟨g, 0, none⟩) n cA) ∧ W.cell? ⟨g, k * 11, none⟩ = some (Value.bool us) ∧ W.cell? ⟨g, k * 11 + 1, none⟩ = some (Value.int .u64 (uh : Int)) ∧ W.cell? ⟨g, k * 11 + 2, none⟩ = some (Value.int .u64 (ul : Int)) ∧ W.cell? ⟨g, k * 11 + 3, none⟩ = some (Value.int .i64 ub) ∧ W.cell? ⟨xb, 0, none⟩ = some (Value.bool ps) ∧ W.cell? ⟨xb, 1, none⟩ = some (Value.int .u64 (ph : Int)) ∧ W.cell? ⟨xb, 2, none⟩ = some (Value.int .u64 (pl : Int)) ∧ W.cell? ⟨xb, 3, none⟩ = some (Value.int .i64 pb) ∧ W.cell? ⟨yb, 0, none⟩ = some (Value.int .i64 pr) ∧ W.cell? ⟨yb, 2, none⟩ = some (Value.bool vs) ∧ W.cell? ⟨yb, 3, none⟩ = some (Value.int .u64 (vh : Int)) ∧ W.cell? ⟨yb, 4, none⟩ = some (Value.int .u64 (vl : Int)) ∧ W.cell? ⟨yb, 5, none⟩ = some (Value.int .i64 po) ∧ W.cell? ⟨yb, 6, none⟩ = some (Value.bool aw) ∧ W.cell? ⟨zb, 0, none⟩ = some (Value.int .i64 upr) ∧ W.cell? ⟨zb, 2, none⟩ = some (Value.bool uvs) ∧ W.cell? ⟨zb, 3, none⟩ = some (Value.int .u64 (uvh : Int)) ∧ W.cell? ⟨zb, 4, none⟩ = some (Value.int .u64 (uvl : Int)) ∧ W.cell? ⟨zb, 5, none⟩ = some (Value.int .i64 upo) ∧ W.cell? ⟨zb, 6, none⟩ = some (Value.bool uaw))) (by kernel_rfl) ?_ (fun hHeld => ?_)
                · (exact HCl.out)
                refine tkH 0 (by assumption) ?_
                refine tkH 1 (by assumption) ?_
                refine tkH 2 (by assumption) ?_
                refine tkH 3 (by assumption) ?_
                refine tkH 4 (by assumption) ?_
                refine tkH 5 (by assumption) ?_
                refine tkH 6 (by assumption) ?_
                refine tkH 7 (by assumption) ?_
                refine tkH 8 (by assumption) ?_
                refine tkH 9 (by assumption) ?_
                refine tkH 10 (by assumption) ?_
                refine tkH 11 (by assumption) ?_
                refine tkH 12 (by assumption) ?_
                refine tkH 13 (by assumption) ?_
                refine tkH 14 (by assumption) ?_
                refine tkH 15 (by assumption) ?_
                refine tkH 16 (by assumption) ?_
                refine tkH 17 (by assumption) ?_
                refine tkH 18 (by assumption) ?_
                refine tkH 19 (by assumption) ?_
                refine tkH 20 (by assumption) ?_
                refine tkH 21 (by assumption) ?_
                refine tkH 22 (by assumption) ?_
                refine tkH 23 (by assumption) ?_
                refine tkH 24 (by assumption) ?_
                refine tkH 25 (by assumption) ?_
                refine tkH 26 (by assumption) ?_
                refine tkH 27 (by assumption) ?_
                refine tkH 28 (by assumption) ?_
                refine tkH 29 (by assumption) ?_
                refine tkH 30 (by assumption) ?_
                refine tkH 31 (by assumption) ?_
                refine tkH 32 (by assumption) ?_
                refine tkH 33 (by assumption) ?_
                refine tkH 34 (by assumption) ?_
                refine tkH 35 (by assumption) ?_
                refine tkH 36 (by assumption) ?_
                refine tkH 37 (by assumption) ?_
                refine wpAnyH_done (by kernel_rfl) ?_ _
                go_wp2
                go_ret
                exact ⟨by rw [HYe.out]; simp, HT5d.out⟩
    · obtain rfl : k = n := by omega
      have kI : ¬ (k : Int) < (k : Int) := by omega
      have HE : Hid (wayI L ((ps, ph, pl), pb) (pr, me, (vs, vh, vl), po, aw) = 0) := Lib.hid (fndI_zero.2 fun j u hu => hA.out j u (by rw [← HN.out]; exact (List.getElem?_eq_some_iff.1 hu).1) hu)
      clear hkn hk
      go_wp2
      go_ret
      exact ⟨by rw [HE.out]; rfl, hT.out⟩
end Go.Proofs.YtjlmgkdieffjcaaGreatDoor
