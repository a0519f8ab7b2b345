/-
  crosswaylaw15.RibPlays returns true for every input, and leaves its arguments alone.
  Conditions: none of our own.
-/
import Derived.Test.YtjlmgkdieffjcaaGreatDoorMgB
import Derived.Test.YtjlmgkdieffjcaaGreatDoorREnv
namespace Go.Proofs.YtjlmgkdieffjcaaGreatDoor
open Go.ChangeShapes Go.WideShapes Go.ChangeAt Go.RowKit
set_option linter.unusedVariables false
theorem own_blkK {w : World} {base g n c sz k : Nat} {t : TypeId} {xs : List Value} (h : w.ownsRow base t sz (.slice (some ⟨g, 0, none⟩) n c) n xs) (hk : k < n) : ∃ old, Blk w g t old ∧ k * sz + sz ≤ old.size := by
  rcases h.2 with ⟨e, -⟩ | ⟨g', cap, cur, e, -, hb, h3, h4, h5, -⟩
  · cases e
  · injection e with e1 e2 e3
    injection e1 with e1
    injection e1 with e1
    subst e1 e3
    refine ⟨cur, hb, ?_⟩
    have := Nat.mul_le_mul_right sz (show k + 1 ≤ c by omega)
    rw [Nat.succ_mul] at this
    omega
theorem own_sta {w w' : World} {base g n c sz off : Nat} {t : TypeId} {xs : List Value} {old cs : Array Value} (h : w.ownsRow base t sz (.slice (some ⟨g, 0, none⟩) n c) n xs) (hB : Blk w g t old) (hs : Sta w w' g off t old cs) : ∃ ys, w'.ownsRow base t sz (.slice (some ⟨g, 0, none⟩) n c) n ys := by
  rcases h.2 with ⟨e, -⟩ | ⟨g', cap, cur, e, h1, hb, h3, h4, h5, h6⟩
  · cases e
  · injection e with e1 e2 e3
    injection e1 with e1
    injection e1 with e1
    subst e1 e3
    obtain ⟨new, hn, hsz, -, -⟩ := hs.blk
    have hco : cur.size = old.size := by
      have e9 : some (Obj.cells cur t (0, 0)) = some (Obj.cells old t (0, 0)) := hb.symm.trans hB
      injection e9 with e9
      injection e9 with e9
      rw [e9]
    refine ⟨_, ?_, .inr ⟨g, c, new, rfl, h1, hn, h3, h4, by rw [hsz, ← hco, h5], rfl⟩⟩
    rw [List.length_take, Array.length_toList, hsz, ← hco, h5]
    exact Nat.min_eq_left (Nat.mul_le_mul_right _ h3)
namespace RPly
set_option maxRecDepth 100000 in
set_option maxHeartbeats 4000000 in
theorem walk (w : World) (hE : EnvR w) (a0 : Option Addr) (l0 c0 : Nat) (z0 : List Stp) (w0 : IsStp w a0 l0 z0) :
    Calls Tryz.prog 3 #[.slice a0 l0 c0] w fun e w' => e = .returned (.bool true) ∧ Below w.heap.size w w' := by
  have HEn := Lib.hid hE
  clear hE
  have HZ := Lib.hid w0
  clear w0
  go_enter Tryz.func3, Tryz.ntmps3
  go_wp2_with fail
  refine Calls.mono (awake_yes w HEn.out) ?_
  rintro e x1 ⟨rfl, hb1⟩
  have B1 := Lib.hid hb1
  have HNew := Lib.hid (newP x1)
  clear hb1
  go_wp2_with fail
  refine Calls.mono HNew.out ?_
  rintro e x2 ⟨p, Sp0, rfl, hP, hb, hs⟩
  have HP2 := Lib.hid hP
  have B2 := Lib.hid (B1.out.trans (hb.mono B1.out.size))
  have HS2 : Hid (∀ s ∈ Sp0, w.heap.size ≤ s) := Lib.hid (fun s h => Nat.le_trans B1.out.size (hs s h))
  have HND := Lib.hid (newR x2)
  clear hP hb hs
  go_wp2_with fail
  refine Calls.mono HND.out ?_
  rintro e x3 ⟨t, St0, rfl, hD, hTb, hs⟩
  have hT : Tch x2 x3 [] := Tch.of_below [] hTb
  have Y0 : Hid (BotR w x3 p Sp0 t St0 (plR z0 0)) := Lib.hid (by
    rw [plR_zero]
    exact ⟨⟨HP2.out.tch hT (by simp), hD, fun s h hm => by have := HP2.out.lt s h; have := hs s hm; omega⟩, B2.out.trans (hT.below B2.out.size (by simp)), HS2.out, fun s h => Nat.le_trans B2.out.size (hs s h)⟩)
  clear hD hT hTb hs
  go_wp2
  go_loopw [6] (fun iv wr => ∃ (i : Nat) (Sp St : List Nat), iv = .int .i64 (i : Int) ∧ i ≤ l0 ∧ i ≤ 60 ∧ Hid (BotR w wr p Sp t St (plR z0 i))) (fun iv _ => 60 - (intOf iv).toNat)
  case atStart => exact ⟨0, Sp0, St0, rfl, Nat.zero_le _, Nat.zero_le _, Y0⟩
  case round =>
    obtain ⟨i, Sp, St, rfl, hil, hi6, hY⟩ := hrel
    have j1 : IntKind.i64.wrap ((i : Int) + 1) = (i : Int) + 1 := by rw [IntKind.wrap_i64]; omega
    by_cases hlt : i < l0
    · have i1 : (i : Int) < (l0 : Int) := by omega
      have i0 : (0 : Int) ≤ (i : Int) := by omega
      by_cases h60 : i < 60
      · have i6 : (i : Int) < 60 := by omega
        obtain ⟨g, o, wh, ps, ph, pl, pb, pr, me, vs, vh, vl, po, aw, rfl, hzi, hok, c0, c1, c2, c3, c4, c5, c6, c7, c8, c9, ca', cb'⟩ := HZ.out.cells hY.out.bel hlt
        obtain ⟨st, hst⟩ : ∃ st, plR z0 i = st := ⟨_, rfl⟩
        obtain ⟨x, hxe⟩ : ∃ x : StpR, (⟨wh, ((ps, ph, pl), pb), (pr, me, (vs, vh, vl), po, aw)⟩ : StpR) = x := ⟨_, rfl⟩
        rw [hst] at hY
        have HS := Lib.hid (plR_succ hzi)
        rw [hst, hxe] at HS
        obtain ⟨n1, hn1⟩ : ∃ n, (doR st x).2.1 = n := ⟨_, rfl⟩
        obtain ⟨n2, hn2⟩ : ∃ n, (doR st x).2.2 = n := ⟨_, rfl⟩
        have HOk : Hid x.ok := Lib.hid (hxe ▸ hok)
        obtain ⟨xb, hxb⟩ : ∃ xb, wr.heap.size = xb := ⟨_, rfl⟩
        obtain ⟨W1, hW1⟩ : ∃ W, wr.alloc (.cells #[.int .i64 wh, .bool ps, .int .u64 (ph : Int), .int .u64 (pl : Int), .int .i64 pb, .int .i64 pr, .int .i64 me, .bool vs, .int .u64 (vh : Int), .int .u64 (vl : Int), .int .i64 po, .bool aw] 36) = W := ⟨_, rfl⟩
        have V1 : Hid (Blk W1 xb 36 #[.int .i64 wh, .bool ps, .int .u64 (ph : Int), .int .u64 (pl : Int), .int .i64 pb, .int .i64 pr, .int .i64 me, .bool vs, .int .u64 (vh : Int), .int .u64 (vl : Int), .int .i64 po, .bool aw]) := Lib.hid (hW1 ▸ hxb ▸ Blk.new _ _ _)
        have Y1 : Hid (BotR w W1 p Sp t St st) := Lib.hid (hW1 ▸ hY.out.tch0 ((Tch.refl wr []).alloc _))
        have HL1 : Hid (∀ s ∈ Sp, s < xb) := Lib.hid (fun s hs => by have := hY.out.two.P.lt s hs; omega)
        have HL2 : Hid (∀ s ∈ St, s < xb) := Lib.hid (fun s hs => by have := hY.out.two.D.lt s hs; omega)
        have HDo := Lib.hid (do12 p Sp st x hxe HOk.out hn1 hn2 W1 (Y1.out.env HEn.out) Y1.out.two.P)
        have HDs := Lib.hid (fun W hD => does12 t St st x hxe HOk.out hY.out.two.P.inv.len3 hn1 hn2 W hD)
        have HPk : Hid (PfOk ((ps, ph, pl), pb)) := Lib.hid hok.2.1
        have bn1 : (n1 != n1) = false := by simp
        have bn2 : (n2 != n2) = false := by simp
        have HW1 := Lib.hid (And.intro hW1 hxb)
        clear hst hn1 hn2 hok hxe hzi hW1 hxb
        go_wp2_with fail
        rw [HW1.out.1, HW1.out.2]
        refine Calls.mono HDo.out ?_
        rintro e w2 ⟨rfl, Sp', hP, hg⟩
        have hDm := Y1.out.two.goP hP hg
        have HPg := Lib.hid (And.intro hP hg)
        have HD2 := Lib.hid (HDs.out w2 hDm.2.1)
        have V2 := Lib.hid (hg.tch.blk V1.out (fun hm => by have := HL1.out _ hm; omega))
        have HSl' : Hid (∀ s ∈ Sp', ¬ s = xb) := Lib.hid (fun s hs e => by
          rcases hg.fre s hs with h1 | h1
          · have := HL1.out s h1; omega
          · have := V1.out.lt; omega)
        have d0 := (V2.out.cell 0).trans (show _ = some (Value.int .i64 wh) by rfl)
        have d1 := (V2.out.cell 1).trans (show _ = some (Value.bool ps) by rfl)
        have d2 := (V2.out.cell 2).trans (show _ = some (Value.int .u64 (ph : Int)) by rfl)
        have d3 := (V2.out.cell 3).trans (show _ = some (Value.int .u64 (pl : Int)) by rfl)
        have d4 := (V2.out.cell 4).trans (show _ = some (Value.int .i64 pb) by rfl)
        have d5 := (V2.out.cell 5).trans (show _ = some (Value.int .i64 pr) by rfl)
        have d6 := (V2.out.cell 6).trans (show _ = some (Value.int .i64 me) by rfl)
        have d7 := (V2.out.cell 7).trans (show _ = some (Value.bool vs) by rfl)
        have d8 := (V2.out.cell 8).trans (show _ = some (Value.int .u64 (vh : Int)) by rfl)
        have d9 := (V2.out.cell 9).trans (show _ = some (Value.int .u64 (vl : Int)) by rfl)
        have d10 := (V2.out.cell 10).trans (show _ = some (Value.int .i64 po) by rfl)
        have d11 := (V2.out.cell 11).trans (show _ = some (Value.bool aw) by rfl)
        clear hP hg hDm c0 c1 c2 c3 c4 c5 c6 c7 c8 c9 ca' cb'
        go_wp2_with fail
        refine Calls.mono HD2.out ?_
        rintro e w3 ⟨rfl, St', hD3, hg3⟩
        have Y3 := Lib.hid (Y1.out.step HPg.out.1 HPg.out.2 hD3 hg3)
        rw [← HS.out] at Y3
        have V3 := Lib.hid (hg3.tch.blk V2.out (fun hm => by have := HL2.out _ hm; omega))
        have HT3 := Lib.hid (tells_any p Sp' t St' _ ((ps, ph, pl), pb) HPk.out w3 Y3.out.two)
        have e1 := (V3.out.cell 1).trans (show _ = some (Value.bool ps) by rfl)
        have e2 := (V3.out.cell 2).trans (show _ = some (Value.int .u64 (ph : Int)) by rfl)
        have e3 := (V3.out.cell 3).trans (show _ = some (Value.int .u64 (pl : Int)) by rfl)
        have e4 := (V3.out.cell 4).trans (show _ = some (Value.int .i64 pb) by rfl)
        clear hD3 hg3 d0 d1 d2 d3 d4 d5 d6 d7 d8 d9 d10 d11
        go_wp2_with fail
        refine Calls.mono HT3.out ?_
        rintro e w4 ⟨rfl, hT4, hh4⟩
        have Y4 := Lib.hid (Y3.out.tells hT4 hh4)
        have V4 := Lib.hid (hh4.blk V3.out (fun hm => HSl'.out _ hm rfl))
        have HL4 := Lib.hid (pathsP p Sp' _ ((ps, ph, pl), pb) HPk.out w4 Y4.out.two.P)
        have f1 := (V4.out.cell 1).trans (show _ = some (Value.bool ps) by rfl)
        have f2 := (V4.out.cell 2).trans (show _ = some (Value.int .u64 (ph : Int)) by rfl)
        have f3 := (V4.out.cell 3).trans (show _ = some (Value.int .u64 (pl : Int)) by rfl)
        have f4 := (V4.out.cell 4).trans (show _ = some (Value.int .i64 pb) by rfl)
        clear hT4 hh4 e1 e2 e3 e4
        go_wp2_with fail
        refine Calls.mono HL4.out ?_
        rintro e w5 ⟨Aa, ca, rfl, ho5, hP5, hT5⟩
        have Ya := Lib.hid (Y4.out.readP hP5 hT5)
        have Va := Lib.hid (hT5.blk V4.out (fun hm => HSl'.out _ hm rfl))
        have hle := Y4.out.two.P.inv.four ((ps, ph, pl), pb)
        generalize pathsI (plR z0 (i + 1)) ((ps, ph, pl), pb) = ll at ho5 hle ⊢
        obtain ⟨m1, hm1⟩ : ∃ m, ll.length = m := ⟨_, rfl⟩
        rw [hm1] at ho5 hle ⊢
        have HOa : Hid (∃ xs, w5.ownsRow w4.heap.size 34 7 (.slice Aa m1 ca) m1 xs) := Lib.hid ⟨_, ho5⟩
        have HNoa : Hid (∀ s ∈ obI (.slice Aa m1 ca), s ∉ Sp' ∧ s ∉ St' ∧ w.heap.size ≤ s) := Lib.hid (fun s hs => by
          have h1 := (own_geI ho5 s hs).1
          refine ⟨fun h2 => ?_, fun h2 => ?_, Nat.le_trans Y4.out.bel.size h1⟩
          · have := Y4.out.two.P.lt s h2; omega
          · have := Y4.out.two.D.lt s h2; omega)
        have HNxa : Hid (xb ∉ obI (.slice Aa m1 ca)) := Lib.hid (fun hm => by have := (own_geI ho5 _ hm).1; have := V4.out.lt; omega)
        obtain ⟨wo, hwo⟩ : ∃ x, x = wr := ⟨_, rfl⟩
        clear ho5 hP5 hT5 f1 f2 f3 f4 hm1 hwo wo
        go_wp2
        go_loopw [13] (fun kv wk => ∃ (k : Nat), kv = .int .i64 (k : Int) ∧ k ≤ m1 ∧ Hid (∃ xs, wk.ownsRow w4.heap.size 34 7 (.slice Aa m1 ca) m1 xs) ∧ Hid (BotR w wk p Sp' t St' (plR z0 (i + 1))) ∧ Hid (Blk wk xb 36 #[.int .i64 wh, .bool ps, .int .u64 (ph : Int), .int .u64 (pl : Int), .int .i64 pb, .int .i64 pr, .int .i64 me, .bool vs, .int .u64 (vh : Int), .int .u64 (vl : Int), .int .i64 po, .bool aw])) (fun kv _ => m1 - (intOf kv).toNat)
        case atStart => exact ⟨0, rfl, Nat.zero_le _, HOa, Ya, Va⟩
        case round =>
          obtain ⟨k, rfl, hk, hO, hYk, hV⟩ := hrel
          have k1 : IntKind.i64.wrap ((k : Int) + 1) = (k : Int) + 1 := by rw [IntKind.wrap_i64]; omega
          by_cases hkm : k < m1
          · have kI : (k : Int) < (m1 : Int) := by omega
            have k0 : (0 : Int) ≤ (k : Int) := by omega
            obtain ⟨xs, hxs⟩ := hO.out
            obtain ⟨gl, rfl⟩ := slice_some hxs (by omega)
            have hin : gl ∈ obI (.slice (some ⟨gl, 0, none⟩) m1 ca) := by simp [obI, Value.ownBlock]
            have hnx : xb ≠ gl := fun e => HNxa.out (by rw [e]; exact hin)
            obtain ⟨old, hB, hsz⟩ : ∃ old, Blk wr gl 34 old ∧ k * 7 + 7 ≤ old.size := own_blkK hxs hkm
            have HB := Lib.hid hB
            have HSz := Lib.hid hsz
            have HXs := Lib.hid hxs
            have HIn := Lib.hid hin
            have HNe := Lib.hid hnx
            clear hxs hB hsz hin hnx
            go_wp2_with (refine wpList_sta rfl 34 (.tmp 80) (.tmp 79) rfl gl (k * 7) #[.int .i64 0, .int .i64 77, .bool false, .int .u64 0, .int .u64 0, .int .i64 0, .bool false] rfl rfl 34 old HB.out 7 sizePa rfl HSz.out (by simp [Value.oneCell']) ?_; intro w6 hs6; have HN : Hid (∃ xs, w6.ownsRow w4.heap.size 34 7 (.slice (some ⟨gl, 0, none⟩) m1 ca) m1 xs) := Lib.hid (own_sta HXs.out HB.out hs6); have HYn := Lib.hid (hYk.out.tchO hs6.tch (fun s hs => HNoa.out s (by rw [List.mem_singleton.1 hs]; exact HIn.out))); have HVn := Lib.hid (hs6.tch.blk hV.out (by simpa using HNe.out)); clear hs6)
            go_roundw
            case rel => exact ⟨k + 1, by go_num, hkm, HN, HYn, HVn⟩
            case measure => simp [intOf]; omega
          · obtain rfl : k = m1 := by omega
            have kI : ¬ (k : Int) < (k : Int) := by omega
            clear hkm hk
            have HPf := Lib.hid (prefsP p Sp' _ wr hYk.out.two.P)
            have HBw := Lib.hid (hYk.out.bel)
            obtain ⟨wv, hwv⟩ : ∃ x, x = wr := ⟨_, rfl⟩
            go_wp2_with fail
            refine Calls.mono HPf.out ?_
            rintro e w7 ⟨Af, cf, rfl, ho7, hP7, hT7⟩
            have Yf := Lib.hid (hYk.out.readP hP7 hT7)
            have Vf := Lib.hid (hT7.blk hV.out (fun hm => HSl'.out _ hm rfl))
            obtain ⟨BB0, hBB0⟩ : ∃ B, wr.heap.size = B := ⟨_, rfl⟩
            have hlx := hV.out.lt
            have hle2 := hYk.out.two.P.inv.ninety
            generalize prefsI (plR z0 (i + 1)) = ll at ho7 hle2 ⊢
            obtain ⟨m2, hm2⟩ : ∃ m, ll.length = m := ⟨_, rfl⟩
            rw [hm2] at ho7 hle2 ⊢
            have HOf : Hid (∃ xs, w7.ownsRow wr.heap.size 32 4 (.slice Af m2 cf) m2 xs) := Lib.hid ⟨_, ho7⟩
            have HNof : Hid (∀ s ∈ obI (.slice Af m2 cf), s ∉ Sp' ∧ s ∉ St' ∧ w.heap.size ≤ s) := Lib.hid (fun s hs => by
              have h1 := (own_geI ho7 s hs).1
              refine ⟨fun h2 => ?_, fun h2 => ?_, Nat.le_trans HBw.out.size h1⟩
              · have := hYk.out.two.P.lt s h2; omega
              · have := hYk.out.two.D.lt s h2; omega)
            have HNxf : Hid (xb ∉ obI (.slice Af m2 cf)) := Lib.hid (fun hm => by have := (own_geI ho7 _ hm).1; omega)
            rw [hBB0] at HOf
            clear hBB0 ho7 hP7 hT7 hm2 hlx hwv wv
            go_wp2
            go_loopw [15] (fun kv wk => ∃ (k : Nat), kv = .int .i64 (k : Int) ∧ k ≤ m2 ∧ Hid (∃ xs, wk.ownsRow BB0 32 4 (.slice Af m2 cf) m2 xs) ∧ Hid (BotR w wk p Sp' t St' (plR z0 (i + 1))) ∧ Hid (Blk wk xb 36 #[.int .i64 wh, .bool ps, .int .u64 (ph : Int), .int .u64 (pl : Int), .int .i64 pb, .int .i64 pr, .int .i64 me, .bool vs, .int .u64 (vh : Int), .int .u64 (vl : Int), .int .i64 po, .bool aw])) (fun kv _ => m2 - (intOf kv).toNat)
            case atStart => exact ⟨0, rfl, Nat.zero_le _, HOf, Yf, Vf⟩
            case round =>
              obtain ⟨k, rfl, hk, hO, hYk, hV⟩ := hrel
              have k1 : IntKind.i64.wrap ((k : Int) + 1) = (k : Int) + 1 := by rw [IntKind.wrap_i64]; omega
              by_cases hkm : k < m2
              · have kI : (k : Int) < (m2 : Int) := by omega
                have k0 : (0 : Int) ≤ (k : Int) := by omega
                obtain ⟨xs, hxs⟩ := hO.out
                obtain ⟨gl, rfl⟩ := slice_some hxs (by omega)
                have hin : gl ∈ obI (.slice (some ⟨gl, 0, none⟩) m2 cf) := by simp [obI, Value.ownBlock]
                have hnx : xb ≠ gl := fun e => HNxf.out (by rw [e]; exact hin)
                have hfr := own_frN hxs (k * 4 + 3)
                obtain ⟨u, hu⟩ : ∃ u, xs[k * 4 + 3]? = some u := ⟨_, List.getElem?_eq_getElem (by rw [hxs.1]; omega)⟩
                have hcu := own_cellN hxs hu
                have hts : Tch wr (wr.setCell ⟨gl, k * 4 + 3, none⟩ (.int .i64 77)) [gl] := (Tch.refl wr [gl]).set_ (p := ⟨gl, k * 4 + 3, none⟩) (by simp) (.int .i64 77)
                have HN : Hid (∃ xs, (wr.setCell ⟨gl, k * 4 + 3, none⟩ (.int .i64 77)).ownsRow BB0 32 4 (.slice (some ⟨gl, 0, none⟩) m2 cf) m2 xs) := Lib.hid ⟨_, own_setN hxs (i := k * 4 + 3) (by omega) (.int .i64 77)⟩
                have HYn := Lib.hid (hYk.out.tchO hts (fun s hs => HNof.out s (by rw [List.mem_singleton.1 hs]; exact hin)))
                have HVn := Lib.hid (hts.blk hV.out (by simpa using hnx))
                clear hxs hu hts hin hnx
                go_wp2
                go_roundw
                case rel => exact ⟨k + 1, by go_num, hkm, HN, HYn, HVn⟩
                case measure => simp [intOf]; omega
              · obtain rfl : k = m2 := by omega
                have kI : ¬ (k : Int) < (k : Int) := by omega
                clear hkm hk
                go_wp2
                go_roundw
                case rel => exact ⟨i + 1, Sp', St', by go_num, hlt, h60, hYk⟩
                case measure => simp [intOf]; omega
      · have i6 : ¬ (i : Int) < 60 := by omega
        go_wp2
        go_ret
        exact ⟨rfl, hY.out.bel⟩
    · have i1 : ¬ (i : Int) < (l0 : Int) := by omega
      have i1b : decide ((i : Int) < (l0 : Int)) = false := decide_eq_false i1
      go_wp2
      go_ret
      exact ⟨rfl, hY.out.bel⟩
set_option maxRecDepth 100000 in
theorem contract (H : Type) (enc : TypeId × Value → H) (W : World) (base : Nat) (args : Array Value) (ds gs : List (DataW H)) (before : List MemPlace)
    (hval0 : ∀ (j : Nat) t v, Tryz.f3.params[j]? = some t → args[j]? = some v → Value.okWide Tryz.prog W .any base t v)
    (hW : DataW.Whole enc Tryz.prog Tryz.f3.params.toList Rows.ribPlaysSpec.vars false W args.toList ds gs before)
    (hsz0 : (DataW.weightsEach Tryz.prog (Tryz.f3.params.toList ++ Rows.ribPlaysSpec.plain.varTypes Tryz.prog) (ds ++ gs)).all (· ≤ reachBytes) = true) (hE : EnvR W) :
    Calls Tryz.prog 3 args W fun e W' => ∃ v, e = .returned v ∧ Rows.ribPlaysSpec.post enc Tryz.prog Tryz.f3 false true false false W args v W' := by
  have hsz := hsz0
  clear hsz0
  have hval := hval0
  clear hval0
  have hW' := hW
  obtain ⟨p, q, hA0, hV, rfl, hfz, hnd⟩ := hW
  have hA : DataW.TrodAll enc Tryz.prog W 0 (fun _ => true) true Tryz.f3.params.toList args.toList ds p := hA0
  rw [Tryz.params3] at hA hval hsz
  obtain ⟨v0, vs0, d0, ds0, p0, q0, hargs, rfl, rfl, h0, r0⟩ := trodAll_cons hA
  obtain ⟨rfl, rfl, rfl⟩ := trodAll_nil r0
  obtain rfl : args = #[v0] := by cases args; simp_all
  obtain ⟨rfl, rfl⟩ := trodVars_none hV
  obtain ⟨a0, l0, c0, rfl⟩ := okWide_slice Tryz.underlying22 (hval 0 22 v0 rfl rfl)
  have k0 := h0
  have lt0 : ∀ x ∈ p0, x.block < W.heap.size := by obtain ⟨m, hm⟩ := k0; exact DataW.trod_lt m _ _ _ hm
  obtain ⟨z0, w0⟩ := isStp_of h0
  clear hA0
  refine (walk W hE a0 l0 c0 z0 w0).mono fun e W' ⟨he, bel⟩ => ?_
  subst he
  exact ⟨_, rfl, _, _, _, [], _, [], hW', trodAll_mk1 (shut_bool Tryz.underlying4 _), (trodAll_cons_mk (Below.trod laidOut (by kernel_rfl) (of_decide_eq_true (by kernel_rfl)) k0 bel lt0) trodAll_mk0), rfl, bel.frame _, fun h => by cases h⟩

theorem laid_met (os : Os) (args : Array Value) : laidMet Tryz.prog Rows.ribPlaysRow.laid ((World.laidAll Tryz.prog os Rows.ribPlaysRow.laid).forCall (fun _ _ => 0) ⟨#[], args, []⟩).memory :=
  laidMet_laidAll _ (by kernel_rfl) (by kernel_rfl)
set_option maxRecDepth 100000 in
theorem pre_row (os : Os) {H : Type} (enc : TypeId × Value → H) :
    (OpenSpec.ofChange Rows.ribPlaysSpec).preRow enc Tryz.prog Tryz.f3 Rows.ribPlaysRow.domain false Rows.ribPlaysRow.laid ((World.laidAll Tryz.prog os Rows.ribPlaysRow.laid).forCall (fun _ _ => 0) ⟨#[], #[.slice none 0 0], []⟩).memory #[.slice none 0 0] := by
  exact ⟨⟨ChangeSpec.pre_of_preB (fuel := 8) (by kernel_rfl), by rw [MakeChecks.laidMetH_plain _ _ _ (by kernel_rfl)]; exact laid_met os _⟩, sizedMet_of_sizedB (fuel := 8) (by kernel_rfl)⟩
set_option maxRecDepth 100000 in
theorem lifted (os : Os) (started : os.Started) (H : Type) (enc : TypeId × Value → H) (F : Stop.Interp) :
    ReturnsInHanded {} Tryz.checked os 3 .any ((OpenSpec.ofChange Rows.ribPlaysSpec).preRow enc Tryz.prog Tryz.f3 Rows.ribPlaysRow.domain false Rows.ribPlaysRow.laid) (((OpenSpec.ofChange Rows.ribPlaysSpec).at F).post enc Tryz.prog Tryz.f3 false true false false) := by
  refine returnsInHanded_of_row (C := Tryz.checked) (s := (OpenSpec.ofChange Rows.ribPlaysSpec)) own started (by kernel_rfl) Tryz.func3
    ⟨World.laidAll Tryz.prog os Rows.ribPlaysRow.laid, fun _ _ => 0, ⟨#[], #[.slice none 0 0], []⟩, World.laidAll_os _ _ _, World.shaped_of_ZipB (by kernel_rfl) (by kernel_rfl), rfl, (Input.okWide_of_okWideB (by kernel_rfl)).2, pre_row os enc, (by simp only [Assume.holds]; exact ⟨by simp, by simp, fun _ => Modest.zero, by simp, by simp⟩)⟩ ?_
  intro W base args ds gs before hval hW _ hcond hsz hL hsh _
  rw [MakeChecks.laidMetH_plain _ _ _ (by kernel_rfl)] at hL
  exact contract H enc W base args ds gs before hval hW hsz (envR_of hL)

theorem over : Rows.ribPlaysRow.holds Tryz.pinned (OpenSpec.ofChange Rows.ribPlaysSpec) :=
  OpenClaim.holds_of_cond 3 Tryz.f3 rfl rfl rfl rfl rfl rfl rfl ⟨rfl, rfl, rfl, rfl, rfl⟩ rfl rfl rfl rfl rfl (by kernel_rfl) Tryz.func3 (by kernel_rfl)
    (of_decide_eq_true (by kernel_rfl)) (by unfold Func.isWrapper; first | (rw [if_pos (by decide +kernel)]; kernel_rfl) | (rw [if_neg (by decide +kernel)]; exact ⟨rfl, rfl⟩))
    (fun os started H enc _ F => by rw [OpenClaim.pre_eq_preRow]; exact lifted os started H enc F)

theorem proved : Rows.RibPlaysCardSaid :=
  Claim7.holds_tied_plain_at .later [] Rows.ribPlaysCard.laidKinds true Rows.ribPlaysCard.stood.harness Rows.ribPlaysCard.stood.looks over (fun _ h => by cases h) (by kernel_rfl) (fun _ h => by cases h) ribPlays_row_tie rfl ⟨rfl, rfl⟩ (by kernel_rfl) rfl
    (fun f fn hf hfn => by
      obtain rfl : f = 3 := Option.some.inj ((show Tryz.prog.funcNamed Rows.ribPlaysRow.func = some 3 by kernel_rfl).symm.trans hf) |>.symm
      obtain rfl : fn = Tryz.f3 := (Option.some.inj (Tryz.func3.symm.trans hfn)).symm
      exact ⟨by kernel_rfl, fun j t ht => by
        rw [Tryz.params3] at ht
        have hm : t ∈ [22] := by simpa using Array.mem_of_getElem? ht
        have hall : ([22].all fun u => !Tryz.prog.wantsStandIn u) = true := by kernel_rfl
        exact (show Tryz.prog.wantsStandIn t = false by simpa using List.all_eq_true.1 hall t hm)⟩)
    (by kernel_rfl)
#print axioms proved
