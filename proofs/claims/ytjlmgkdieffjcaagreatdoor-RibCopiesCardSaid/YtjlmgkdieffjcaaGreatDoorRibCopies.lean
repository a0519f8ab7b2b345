/-
  crosswaylaw15.RibCopies returns true for every input, and leaves its arguments alone.
  Conditions: none of our own.
-/
import Derived.Test.YtjlmgkdieffjcaaGreatDoorMgB
import Derived.Test.YtjlmgkdieffjcaaGreatDoorREnv
namespace Go.Proofs.YtjlmgkdieffjcaaGreatDoor
open Go.ChangeShapes Go.WideShapes Go.ChangeAt Go.RowKit
set_option linter.unusedVariables false
namespace RCop
theorem z_ok : PfOk ((false, 0, 0), 0) := by unfold PfOk N64 I64; decide
theorem cells_of {w : World} {g o l j : Nat} {z : List Stp} {wh : Int} {ps : Bool} {ph pl : Nat} {pb pr me : Int} {vs : Bool} {vh vl : Nat} {po : Int} {aw : Bool} (h : IsStp w (some ⟨g, o, none⟩) l z) (hx : z[j]? = some ⟨wh, ((ps, ph, pl), pb), (pr, me, (vs, vh, vl), po, aw)⟩) : ∀ W, Below w.heap.size w W →
    W.cell? ⟨g, o + j * 12, none⟩ = some (.int .i64 wh) ∧ W.cell? ⟨g, o + j * 12 + 1, none⟩ = some (.bool ps) ∧ W.cell? ⟨g, o + j * 12 + 2, none⟩ = some (.int .u64 (ph : Int)) ∧ W.cell? ⟨g, o + j * 12 + 3, none⟩ = some (.int .u64 (pl : Int)) ∧ W.cell? ⟨g, o + j * 12 + 4, none⟩ = some (.int .i64 pb) ∧ W.cell? ⟨g, o + j * 12 + 5, none⟩ = some (.int .i64 pr) ∧ W.cell? ⟨g, o + j * 12 + 6, none⟩ = some (.int .i64 me) ∧ W.cell? ⟨g, o + j * 12 + 7, none⟩ = some (.bool vs) ∧ W.cell? ⟨g, o + j * 12 + 8, none⟩ = some (.int .u64 (vh : Int)) ∧ W.cell? ⟨g, o + j * 12 + 9, none⟩ = some (.int .u64 (vl : Int)) ∧ W.cell? ⟨g, o + j * 12 + 10, none⟩ = some (.int .i64 po) ∧ W.cell? ⟨g, o + j * 12 + 11, none⟩ = some (.bool aw) := by
  intro W hW
  obtain ⟨b, o', e, hlt, hc⟩ := h.2.2 (by have := (List.getElem?_eq_some_iff.1 hx).1; have := h.1; omega)
  injection e with e
  injection e with e1 e2
  subst e1 e2
  have k : ∀ k v, (srC ⟨wh, ((ps, ph, pl), pb), (pr, me, (vs, vh, vl), po, aw)⟩)[k]? = some v → W.cell? ⟨g, o + j * 12 + k, none⟩ = some v := fun k v hv => (hW.cell (p := ⟨g, o + j * 12 + k, none⟩) hlt).trans (hc j _ hx k v hv)
  exact ⟨k 0 _ rfl, k 1 _ rfl, k 2 _ rfl, k 3 _ rfl, k 4 _ rfl, k 5 _ rfl, k 6 _ rfl, k 7 _ rfl, k 8 _ rfl, k 9 _ rfl, k 10 _ rfl, k 11 _ rfl⟩
set_option maxRecDepth 100000 in
set_option maxHeartbeats 8000000 in
theorem walk (w : World) (hE : EnvR w) (a0 : Option Addr) (l0 c0 : Nat) (z0 : List Stp) (w0 : IsStp w a0 l0 z0) (a1 : Option Addr) (l1 c1 : Nat) (z1 : List Stp) (w1 : IsStp w a1 l1 z1) (a2 : Option Addr) (l2 c2 : Nat) (z2 : List Stp) (w2 : IsStp w a2 l2 z2) :
    Calls Tryz.prog 4 #[.slice a0 l0 c0, .slice a1 l1 c1, .slice a2 l2 c2] w fun e w' => e = .returned (.bool true) ∧ Below w.heap.size w w' := by
  have HEn := Lib.hid hE
  clear hE
  have HZ0 := Lib.hid w0
  have HZ1 := Lib.hid w1
  have HZ2 := Lib.hid w2
  clear w0 w1 w2
  go_enter Tryz.func4, Tryz.ntmps4
  go_wp2_with fail
  refine Calls.mono (awake_yes w HEn.out) ?_
  rintro e x1 ⟨rfl, hb1⟩
  have B1 := Lib.hid hb1
  have HM := Lib.hid (made_any w a0 l0 c0 z0 HZ0.out x1 hb1 HEn.out)
  clear hb1
  go_wp2_with fail
  refine Calls.mono HM.out ?_
  rintro e x2 ⟨p, Sp0, rfl, hY⟩
  obtain ⟨sF, hsF⟩ : ∃ st, plR z0 (min l0 60) = st := ⟨_, rfl⟩
  have HsF := Lib.hid hsF
  rw [hsF] at hY
  have B2 := Lib.hid (B1.out.trans (hY.bel.mono B1.out.size))
  have HSp : Hid (∀ s ∈ Sp0, w.heap.size ≤ s) := Lib.hid (fun s h => Nat.le_trans B1.out.size (hY.abv s h))
  have HP2 := Lib.hid hY.P
  have HCo := Lib.hid (copyP p Sp0 sF x2 hY.P)
  clear hY hsF
  go_wp2_with fail
  refine Calls.mono HCo.out ?_
  rintro e x3 ⟨q, Sq0, rfl, hQ, hP, hT, hs⟩
  have B3 := Lib.hid (B2.out.trans (hT.below B2.out.size HSp.out))
  have HC3 := Lib.hid (And.intro hP (And.intro hQ hs))
  have HND := Lib.hid (newR x3)
  clear hQ hP hT hs
  go_wp2_with fail
  refine Calls.mono HND.out ?_
  rintro e x4 ⟨t, St0, rfl, hD, hTb, hs⟩
  have hT : Tch x3 x4 [] := Tch.of_below [] hTb
  have Y0 : Hid (CpyR w x4 p Sp0 q Sq0 sF t St0 (plR z0 0)) := Lib.hid (by
    rw [plR_zero]
    exact ⟨HC3.out.1.tch hT (by simp), HC3.out.2.1.tch hT (by simp), hD, B3.out.trans (hT.below B3.out.size (by simp)), HSp.out, fun s h => Nat.le_trans B2.out.size (HC3.out.2.2 s h), fun s h => Nat.le_trans B3.out.size (hs s h),
      fun s a b => by have := HP2.out.lt s a; have := HC3.out.2.2 s b; omega, fun s a b => by have := HC3.out.1.lt s a; have := hs s b; omega, fun s a b => by have := HC3.out.2.1.lt s a; have := hs s b; omega⟩)
  clear hD hT hTb hs
  go_wp2
  go_loopw [11] (fun iv wr => ∃ (i : Nat) (St : List Nat), iv = .int .i64 (i : Int) ∧ i ≤ l0 ∧ i ≤ 60 ∧ Hid (CpyR w wr p Sp0 q Sq0 sF t St (plR z0 i))) (fun iv _ => 60 - (intOf iv).toNat)
  case atStart => exact ⟨0, St0, rfl, Nat.zero_le _, Nat.zero_le _, Y0⟩
  case round =>
    obtain ⟨i, St, rfl, hil, hi6, hY⟩ := hrel
    have j1 : IntKind.i64.wrap ((i : Int) + 1) = (i : Int) + 1 := by rw [IntKind.wrap_i64]; omega
    have hmain : Hid (i = min l0 60 → plR z0 i = sF) := Lib.hid (fun h => by rw [h]; exact HsF.out)
    by_cases hlt : i < l0 ∧ i < 60
    · have i1 : (i : Int) < (l0 : Int) := by omega
      have i6 : (i : Int) < 60 := by omega
      have i0 : (0 : Int) ≤ (i : Int) := by omega
      obtain ⟨g, o, wh, ps, ph, pl, pb, pr, me, vs, vh, vl, po, aw, rfl, hzi, hok, c0, c1, c2, c3, c4, c5, c6, c7, c8, c9, c10, c11⟩ := HZ0.out.cells hY.out.bel hlt.1
      have HDs := Lib.hid (does12 t St (plR z0 i) _ rfl hok (plR_inv HZ0.out.2.1 i).len3 rfl rfl wr hY.out.D)
      have HS := Lib.hid (plR_succ hzi)
      clear hzi hok
      go_wp2_with fail
      refine Calls.mono HDs.out ?_
      rintro e w2 ⟨rfl, St', hD2, hg2⟩
      rw [← HS.out] at hD2
      have Y2 := Lib.hid (hY.out.does hD2 hg2)
      clear hD2 hg2 c0 c1 c2 c3 c4 c5 c6 c7 c8 c9 c10 c11
      go_wp2
      go_roundw
      case rel => exact ⟨i + 1, St', by go_num, by omega, by omega, Y2⟩
      case measure => simp [intOf]; omega
    · have hend : plR z0 i = sF := hmain.out (by omega)
      rw [hend] at hY
      have HCD := Lib.hid (copyRD t St sF HP2.out.inv.len3 wr hY.out.D)
      have hcs : (¬ (i : Int) < (l0 : Int) ∧ decide ((i : Int) < (l0 : Int)) = false) ∨ ((i : Int) < (l0 : Int) ∧ ¬ (i : Int) < 60) := by
        by_cases h1 : i < l0
        · exact .inr ⟨by omega, by omega⟩
        · exact .inl ⟨by omega, decide_eq_false (by omega)⟩
      clear hend hlt hil hi6
      rcases hcs with ⟨i1, i1b⟩ | ⟨i1, i6⟩
      all_goals
        go_wp2_with fail
        refine Calls.mono HCD.out ?_
        rintro e w3 ⟨u, Su0, rfl, hU, hT, hs⟩
        have Z0 := Lib.hid (hY.out.four hU hT hs)
        clear hU hT hs
        go_wp2
        go_loopw [13] (fun kv wr => ∃ (k : Nat) (Sp St Sq Su : List Nat) (st sq : List TdI), kv = .int .i64 (k : Int) ∧ k ≤ 20 ∧ Hid (FourR w wr p Sp t St st q Sq u Su sq)) (fun kv _ => 20 - (intOf kv).toNat)
        case atStart => exact ⟨0, Sp0, St, Sq0, Su0, sF, sF, rfl, Nat.zero_le _, Z0⟩
        case round =>
          obtain ⟨k, Sp, St, Sq, Su, st, sq, rfl, hk, hZ⟩ := hrel
          have j2 : IntKind.i64.wrap ((k : Int) + 1) = (k : Int) + 1 := by rw [IntKind.wrap_i64]; omega
          have k0 : (0 : Int) ≤ (k : Int) := by omega
          clear j1
          by_cases hlt20 : k < 20
          · have k20 : (k : Int) < 20 := by omega
            by_cases hlt1 : k < l1
            · have kl1 : (k : Int) < (l1 : Int) := by omega
              by_cases hlt2 : k < l2
              · have kl2 : (k : Int) < (l2 : Int) := by omega
                obtain ⟨ga, oa, wha, psa, pha, pla, pba, pra, mea, vsa, vha, vla, poa, awa, haea, hzia, hoka, -⟩ := HZ1.out.cells hZ.out.x.bel hlt1
                subst haea
                obtain ⟨xa, hxa⟩ : ∃ x : StpR, (⟨wha, ((psa, pha, pla), pba), (pra, mea, (vsa, vha, vla), poa, awa)⟩ : StpR) = x := ⟨_, rfl⟩
                obtain ⟨ma, hma⟩ : ∃ n, (doR st xa).2.1 = n := ⟨_, rfl⟩
                obtain ⟨ea, hea⟩ : ∃ n, (doR st xa).2.2 = n := ⟨_, rfl⟩
                have HOka : Hid xa.ok := Lib.hid (hxa ▸ hoka)
                have HDoa := Lib.hid (do12 p Sp st xa hxa HOka.out hma hea wr (hZ.out.x.env HEn.out) hZ.out.x.two.P)
                have HDsa := Lib.hid (fun W hD => does12 t St st xa hxa HOka.out hZ.out.x.two.P.inv.len3 hma hea W hD)
                have HPka : Hid (PfOk ((psa, pha, pla), pba)) := Lib.hid hoka.2.1
                have HTla := Lib.hid (fun p' t' W Sp' St' st' h2 => tells_any p' Sp' t' St' st' ((psa, pha, pla), pba) HPka.out W h2)
                have bma : (ma != ma) = false := by simp
                have bea : (ea != ea) = false := by simp
                have HCea := Lib.hid (cells_of HZ1.out hzia)
                obtain ⟨ca0, ca1, ca2, ca3, ca4, ca5, ca6, ca7, ca8, ca9, ca10, ca11⟩ := HCea.out wr hZ.out.x.bel
                clear hma hea hoka hxa hzia
                go_wp2_with fail
                refine Calls.mono HDoa.out ?_
                rintro e va1 ⟨rfl, Spa, hP, hg⟩
                have hmid := hZ.out.mid hP hg
                have HPga := Lib.hid (And.intro hP hg)
                have HD2a := Lib.hid (HDsa.out va1 hmid.1)
                obtain ⟨da0, da1, da2, da3, da4, da5, da6, da7, da8, da9, da10, da11⟩ := HCea.out va1 hmid.2
                clear hP hg hmid ca0 ca1 ca2 ca3 ca4 ca5 ca6 ca7 ca8 ca9 ca10 ca11
                go_wp2_with fail
                refine Calls.mono HD2a.out ?_
                rintro e va2 ⟨rfl, Sta, hD3, hg3⟩
                have Ya2 := Lib.hid (hZ.out.step HPga.out.1 HPga.out.2 hD3 hg3)
                have Ya3 := Lib.hid Ya2.out
                have HT3a := Lib.hid (HTla.out p t va2 _ _ _ Ya3.out.x.two)
                clear da0 da1 da2 da3 da4 da5 da6 da7 da8 da9 da10 da11; obtain ⟨da0, da1, da2, da3, da4, da5, da6, da7, da8, da9, da10, da11⟩ := HCea.out va2 Ya3.out.x.bel
                clear hD3 hg3
                go_wp2_with fail
                refine Calls.mono HT3a.out ?_
                rintro e va3 ⟨rfl, hT4, hh4⟩
                have Ya4 := Lib.hid (Ya3.out.tells hT4 hh4)
                have HT4a := Lib.hid (HTla.out q u va3 _ _ _ Ya4.out.y.two)
                clear da0 da1 da2 da3 da4 da5 da6 da7 da8 da9 da10 da11; obtain ⟨da0, da1, da2, da3, da4, da5, da6, da7, da8, da9, da10, da11⟩ := HCea.out va3 Ya4.out.x.bel
                clear hT4 hh4
                go_wp2_with fail
                refine Calls.mono HT4a.out ?_
                rintro e va4 ⟨rfl, hT4, hh4⟩
                have Ya5 := Lib.hid ((Ya4.out.symm.tells hT4 hh4).symm)
                clear hT4 hh4 da0 da1 da2 da3 da4 da5 da6 da7 da8 da9 da10 da11
                obtain ⟨gb, ob, whb, psb, phb, plb, pbb, prb, meb, vsb, vhb, vlb, pob, awb, haeb, hzib, hokb, -⟩ := HZ2.out.cells Ya5.out.x.bel hlt2
                subst haeb
                obtain ⟨xb, hxb⟩ : ∃ x : StpR, (⟨whb, ((psb, phb, plb), pbb), (prb, meb, (vsb, vhb, vlb), pob, awb)⟩ : StpR) = x := ⟨_, rfl⟩
                obtain ⟨mb, hmb⟩ : ∃ n, (doR sq xb).2.1 = n := ⟨_, rfl⟩
                obtain ⟨eb, heb⟩ : ∃ n, (doR sq xb).2.2 = n := ⟨_, rfl⟩
                have HOkb : Hid xb.ok := Lib.hid (hxb ▸ hokb)
                have HDob := Lib.hid (do12 q Sq sq xb hxb HOkb.out hmb heb va4 (Ya5.out.symm.x.env HEn.out) Ya5.out.symm.x.two.P)
                have HDsb := Lib.hid (fun W hD => does12 u Su sq xb hxb HOkb.out Ya5.out.symm.x.two.P.inv.len3 hmb heb W hD)
                have HPkb : Hid (PfOk ((psb, phb, plb), pbb)) := Lib.hid hokb.2.1
                have HTlb := Lib.hid (fun p' t' W Sp' St' st' h2 => tells_any p' Sp' t' St' st' ((psb, phb, plb), pbb) HPkb.out W h2)
                have bmb : (mb != mb) = false := by simp
                have beb : (eb != eb) = false := by simp
                have HCeb := Lib.hid (cells_of HZ2.out hzib)
                obtain ⟨cb0, cb1, cb2, cb3, cb4, cb5, cb6, cb7, cb8, cb9, cb10, cb11⟩ := HCeb.out va4 Ya5.out.x.bel
                clear hmb heb hokb hxb hzib
                go_wp2_with fail
                refine Calls.mono HDob.out ?_
                rintro e vb1 ⟨rfl, Sqb, hP, hg⟩
                have hmid := Ya5.out.symm.mid hP hg
                have HPgb := Lib.hid (And.intro hP hg)
                have HD2b := Lib.hid (HDsb.out vb1 hmid.1)
                obtain ⟨db0, db1, db2, db3, db4, db5, db6, db7, db8, db9, db10, db11⟩ := HCeb.out vb1 hmid.2
                clear hP hg hmid cb0 cb1 cb2 cb3 cb4 cb5 cb6 cb7 cb8 cb9 cb10 cb11
                go_wp2_with fail
                refine Calls.mono HD2b.out ?_
                rintro e vb2 ⟨rfl, Sub, hD3, hg3⟩
                have Yb2 := Lib.hid (Ya5.out.symm.step HPgb.out.1 HPgb.out.2 hD3 hg3)
                have Yb3 := Lib.hid Yb2.out.symm
                have HT3b := Lib.hid (HTlb.out p t vb2 _ _ _ Yb3.out.x.two)
                clear db0 db1 db2 db3 db4 db5 db6 db7 db8 db9 db10 db11; obtain ⟨db0, db1, db2, db3, db4, db5, db6, db7, db8, db9, db10, db11⟩ := HCeb.out vb2 Yb3.out.x.bel
                clear hD3 hg3
                go_wp2_with fail
                refine Calls.mono HT3b.out ?_
                rintro e vb3 ⟨rfl, hT4, hh4⟩
                have Yb4 := Lib.hid (Yb3.out.tells hT4 hh4)
                have HT4b := Lib.hid (HTlb.out q u vb3 _ _ _ Yb4.out.y.two)
                clear db0 db1 db2 db3 db4 db5 db6 db7 db8 db9 db10 db11; obtain ⟨db0, db1, db2, db3, db4, db5, db6, db7, db8, db9, db10, db11⟩ := HCeb.out vb3 Yb4.out.x.bel
                clear hT4 hh4
                go_wp2_with fail
                refine Calls.mono HT4b.out ?_
                rintro e vb4 ⟨rfl, hT4, hh4⟩
                have Yb5 := Lib.hid ((Yb4.out.symm.tells hT4 hh4).symm)
                clear hT4 hh4 db0 db1 db2 db3 db4 db5 db6 db7 db8 db9 db10 db11
                go_wp2
                go_roundw
                case rel => exact ⟨k + 1, Spa, Sta, Sqb, Sub, (doR st xa).1, (doR sq xb).1, by go_num, by omega, Yb5⟩
                case measure => simp [intOf]; omega
              · have kl2 : ¬ (k : Int) < (l2 : Int) := by omega
                obtain ⟨ga, oa, wha, psa, pha, pla, pba, pra, mea, vsa, vha, vla, poa, awa, haea, hzia, hoka, -⟩ := HZ1.out.cells hZ.out.x.bel hlt1
                subst haea
                obtain ⟨xa, hxa⟩ : ∃ x : StpR, (⟨wha, ((psa, pha, pla), pba), (pra, mea, (vsa, vha, vla), poa, awa)⟩ : StpR) = x := ⟨_, rfl⟩
                obtain ⟨ma, hma⟩ : ∃ n, (doR st xa).2.1 = n := ⟨_, rfl⟩
                obtain ⟨ea, hea⟩ : ∃ n, (doR st xa).2.2 = n := ⟨_, rfl⟩
                have HOka : Hid xa.ok := Lib.hid (hxa ▸ hoka)
                have HDoa := Lib.hid (do12 p Sp st xa hxa HOka.out hma hea wr (hZ.out.x.env HEn.out) hZ.out.x.two.P)
                have HDsa := Lib.hid (fun W hD => does12 t St st xa hxa HOka.out hZ.out.x.two.P.inv.len3 hma hea W hD)
                have HPka : Hid (PfOk ((psa, pha, pla), pba)) := Lib.hid hoka.2.1
                have HTla := Lib.hid (fun p' t' W Sp' St' st' h2 => tells_any p' Sp' t' St' st' ((psa, pha, pla), pba) HPka.out W h2)
                have bma : (ma != ma) = false := by simp
                have bea : (ea != ea) = false := by simp
                have HCea := Lib.hid (cells_of HZ1.out hzia)
                obtain ⟨ca0, ca1, ca2, ca3, ca4, ca5, ca6, ca7, ca8, ca9, ca10, ca11⟩ := HCea.out wr hZ.out.x.bel
                clear hma hea hoka hxa hzia
                go_wp2_with fail
                refine Calls.mono HDoa.out ?_
                rintro e va1 ⟨rfl, Spa, hP, hg⟩
                have hmid := hZ.out.mid hP hg
                have HPga := Lib.hid (And.intro hP hg)
                have HD2a := Lib.hid (HDsa.out va1 hmid.1)
                obtain ⟨da0, da1, da2, da3, da4, da5, da6, da7, da8, da9, da10, da11⟩ := HCea.out va1 hmid.2
                clear hP hg hmid ca0 ca1 ca2 ca3 ca4 ca5 ca6 ca7 ca8 ca9 ca10 ca11
                go_wp2_with fail
                refine Calls.mono HD2a.out ?_
                rintro e va2 ⟨rfl, Sta, hD3, hg3⟩
                have Ya2 := Lib.hid (hZ.out.step HPga.out.1 HPga.out.2 hD3 hg3)
                have Ya3 := Lib.hid Ya2.out
                have HT3a := Lib.hid (HTla.out p t va2 _ _ _ Ya3.out.x.two)
                clear da0 da1 da2 da3 da4 da5 da6 da7 da8 da9 da10 da11; obtain ⟨da0, da1, da2, da3, da4, da5, da6, da7, da8, da9, da10, da11⟩ := HCea.out va2 Ya3.out.x.bel
                clear hD3 hg3
                go_wp2_with fail
                refine Calls.mono HT3a.out ?_
                rintro e va3 ⟨rfl, hT4, hh4⟩
                have Ya4 := Lib.hid (Ya3.out.tells hT4 hh4)
                have HT4a := Lib.hid (HTla.out q u va3 _ _ _ Ya4.out.y.two)
                clear da0 da1 da2 da3 da4 da5 da6 da7 da8 da9 da10 da11; obtain ⟨da0, da1, da2, da3, da4, da5, da6, da7, da8, da9, da10, da11⟩ := HCea.out va3 Ya4.out.x.bel
                clear hT4 hh4
                go_wp2_with fail
                refine Calls.mono HT4a.out ?_
                rintro e va4 ⟨rfl, hT4, hh4⟩
                have Ya5 := Lib.hid ((Ya4.out.symm.tells hT4 hh4).symm)
                clear hT4 hh4 da0 da1 da2 da3 da4 da5 da6 da7 da8 da9 da10 da11
                go_wp2
                go_roundw
                case rel => exact ⟨k + 1, Spa, Sta, Sq, Su, (doR st xa).1, sq, by go_num, by omega, Ya5⟩
                case measure => simp [intOf]; omega
            · have kl1 : ¬ (k : Int) < (l1 : Int) := by omega
              by_cases hlt2 : k < l2
              · have kl2 : (k : Int) < (l2 : Int) := by omega
                obtain ⟨gb, ob, whb, psb, phb, plb, pbb, prb, meb, vsb, vhb, vlb, pob, awb, haeb, hzib, hokb, -⟩ := HZ2.out.cells hZ.out.x.bel hlt2
                subst haeb
                obtain ⟨xb, hxb⟩ : ∃ x : StpR, (⟨whb, ((psb, phb, plb), pbb), (prb, meb, (vsb, vhb, vlb), pob, awb)⟩ : StpR) = x := ⟨_, rfl⟩
                obtain ⟨mb, hmb⟩ : ∃ n, (doR sq xb).2.1 = n := ⟨_, rfl⟩
                obtain ⟨eb, heb⟩ : ∃ n, (doR sq xb).2.2 = n := ⟨_, rfl⟩
                have HOkb : Hid xb.ok := Lib.hid (hxb ▸ hokb)
                have HDob := Lib.hid (do12 q Sq sq xb hxb HOkb.out hmb heb wr (hZ.out.symm.x.env HEn.out) hZ.out.symm.x.two.P)
                have HDsb := Lib.hid (fun W hD => does12 u Su sq xb hxb HOkb.out hZ.out.symm.x.two.P.inv.len3 hmb heb W hD)
                have HPkb : Hid (PfOk ((psb, phb, plb), pbb)) := Lib.hid hokb.2.1
                have HTlb := Lib.hid (fun p' t' W Sp' St' st' h2 => tells_any p' Sp' t' St' st' ((psb, phb, plb), pbb) HPkb.out W h2)
                have bmb : (mb != mb) = false := by simp
                have beb : (eb != eb) = false := by simp
                have HCeb := Lib.hid (cells_of HZ2.out hzib)
                obtain ⟨cb0, cb1, cb2, cb3, cb4, cb5, cb6, cb7, cb8, cb9, cb10, cb11⟩ := HCeb.out wr hZ.out.x.bel
                clear hmb heb hokb hxb hzib
                go_wp2_with fail
                refine Calls.mono HDob.out ?_
                rintro e vb1 ⟨rfl, Sqb, hP, hg⟩
                have hmid := hZ.out.symm.mid hP hg
                have HPgb := Lib.hid (And.intro hP hg)
                have HD2b := Lib.hid (HDsb.out vb1 hmid.1)
                obtain ⟨db0, db1, db2, db3, db4, db5, db6, db7, db8, db9, db10, db11⟩ := HCeb.out vb1 hmid.2
                clear hP hg hmid cb0 cb1 cb2 cb3 cb4 cb5 cb6 cb7 cb8 cb9 cb10 cb11
                go_wp2_with fail
                refine Calls.mono HD2b.out ?_
                rintro e vb2 ⟨rfl, Sub, hD3, hg3⟩
                have Yb2 := Lib.hid (hZ.out.symm.step HPgb.out.1 HPgb.out.2 hD3 hg3)
                have Yb3 := Lib.hid Yb2.out.symm
                have HT3b := Lib.hid (HTlb.out p t vb2 _ _ _ Yb3.out.x.two)
                clear db0 db1 db2 db3 db4 db5 db6 db7 db8 db9 db10 db11; obtain ⟨db0, db1, db2, db3, db4, db5, db6, db7, db8, db9, db10, db11⟩ := HCeb.out vb2 Yb3.out.x.bel
                clear hD3 hg3
                go_wp2_with fail
                refine Calls.mono HT3b.out ?_
                rintro e vb3 ⟨rfl, hT4, hh4⟩
                have Yb4 := Lib.hid (Yb3.out.tells hT4 hh4)
                have HT4b := Lib.hid (HTlb.out q u vb3 _ _ _ Yb4.out.y.two)
                clear db0 db1 db2 db3 db4 db5 db6 db7 db8 db9 db10 db11; obtain ⟨db0, db1, db2, db3, db4, db5, db6, db7, db8, db9, db10, db11⟩ := HCeb.out vb3 Yb4.out.x.bel
                clear hT4 hh4
                go_wp2_with fail
                refine Calls.mono HT4b.out ?_
                rintro e vb4 ⟨rfl, hT4, hh4⟩
                have Yb5 := Lib.hid ((Yb4.out.symm.tells hT4 hh4).symm)
                clear hT4 hh4 db0 db1 db2 db3 db4 db5 db6 db7 db8 db9 db10 db11
                go_wp2
                go_roundw
                case rel => exact ⟨k + 1, Sp, St, Sqb, Sub, st, (doR sq xb).1, by go_num, by omega, Yb5⟩
                case measure => simp [intOf]; omega
              · have kl2 : ¬ (k : Int) < (l2 : Int) := by omega
                go_wp2
                go_roundw
                case rel => exact ⟨k + 1, Sp, St, Sq, Su, st, sq, by go_num, by omega, hZ⟩
                case measure => simp [intOf]; omega
          · obtain rfl : k = 20 := by omega
            have k20 : ¬ ((20 : Nat) : Int) < 20 := by omega
            have HTz := Lib.hid (tells_any q Sq u Su sq ((false, 0, 0), 0) z_ok wr hZ.out.y.two)
            have HTz' : Hid (Calls Tryz.prog 10 #[.pointer (some ⟨q, 0, none⟩), .pointer (some ⟨u, 0, none⟩), .agg #[.bool false, .int .u64 0, .int .u64 0, .int .i64 0]] wr _) := HTz
            clear HTz hlt20
            go_wp2_with fail
            refine Calls.mono HTz'.out ?_
            rintro e w9 ⟨rfl, hT9, hh9⟩
            have HE := Lib.hid (hZ.out.symm.tells hT9 hh9)
            clear hT9 hh9
            go_wp2
            go_ret
            exact ⟨rfl, HE.out.x.bel⟩
set_option maxRecDepth 100000 in
theorem contract (H : Type) (enc : TypeId × Value → H) (W : World) (base : Nat) (args : Array Value) (ds gs : List (DataW H)) (before : List MemPlace)
    (hval0 : ∀ (j : Nat) t v, Tryz.f4.params[j]? = some t → args[j]? = some v → Value.okWide Tryz.prog W .any base t v)
    (hW : DataW.Whole enc Tryz.prog Tryz.f4.params.toList Rows.ribCopiesSpec.vars false W args.toList ds gs before)
    (hsz0 : (DataW.weightsEach Tryz.prog (Tryz.f4.params.toList ++ Rows.ribCopiesSpec.plain.varTypes Tryz.prog) (ds ++ gs)).all (· ≤ reachBytes) = true) (hE : EnvR W) :
    Calls Tryz.prog 4 args W fun e W' => ∃ v, e = .returned v ∧ Rows.ribCopiesSpec.post enc Tryz.prog Tryz.f4 false true false false W args v W' := by
  have hsz := hsz0
  clear hsz0
  have hval := hval0
  clear hval0
  have hW' := hW
  obtain ⟨p, q, hA0, hV, rfl, hfz, hnd⟩ := hW
  have hA : DataW.TrodAll enc Tryz.prog W 0 (fun _ => true) true Tryz.f4.params.toList args.toList ds p := hA0
  rw [Tryz.params4] at hA hval hsz
  obtain ⟨v0, vs0, d0, ds0, p0, q0, hargs, rfl, rfl, h0, r0⟩ := trodAll_cons hA
  obtain ⟨v1, vs1, d1, ds1, p1, q1, rfl, rfl, rfl, h1, r1⟩ := trodAll_cons r0
  obtain ⟨v2, vs2, d2, ds2, p2, q2, rfl, rfl, rfl, h2, r2⟩ := trodAll_cons r1
  obtain ⟨rfl, rfl, rfl⟩ := trodAll_nil r2
  obtain rfl : args = #[v0, v1, v2] := by cases args; simp_all
  obtain ⟨rfl, rfl⟩ := trodVars_none hV
  obtain ⟨a0, l0, c0, rfl⟩ := okWide_slice Tryz.underlying22 (hval 0 22 v0 rfl rfl)
  have k0 := h0
  have lt0 : ∀ x ∈ p0, x.block < W.heap.size := by obtain ⟨m, hm⟩ := k0; exact DataW.trod_lt m _ _ _ hm
  obtain ⟨z0, w0⟩ := isStp_of h0
  obtain ⟨a1, l1, c1, rfl⟩ := okWide_slice Tryz.underlying22 (hval 1 22 v1 rfl rfl)
  have k1 := h1
  have lt1 : ∀ x ∈ p1, x.block < W.heap.size := by obtain ⟨m, hm⟩ := k1; exact DataW.trod_lt m _ _ _ hm
  obtain ⟨z1, w1⟩ := isStp_of h1
  obtain ⟨a2, l2, c2, rfl⟩ := okWide_slice Tryz.underlying22 (hval 2 22 v2 rfl rfl)
  have k2 := h2
  have lt2 : ∀ x ∈ p2, x.block < W.heap.size := by obtain ⟨m, hm⟩ := k2; exact DataW.trod_lt m _ _ _ hm
  obtain ⟨z2, w2⟩ := isStp_of h2
  clear hA0
  refine (walk W hE a0 l0 c0 z0 w0 a1 l1 c1 z1 w1 a2 l2 c2 z2 w2).mono fun e W' ⟨he, bel⟩ => ?_
  subst he
  exact ⟨_, rfl, _, _, _, [], _, [], hW', trodAll_mk1 (shut_bool Tryz.underlying4 _), (trodAll_cons_mk (Below.trod laidOut (by kernel_rfl) (of_decide_eq_true (by kernel_rfl)) k0 bel lt0) (trodAll_cons_mk (Below.trod laidOut (by kernel_rfl) (of_decide_eq_true (by kernel_rfl)) k1 bel lt1) (trodAll_cons_mk (Below.trod laidOut (by kernel_rfl) (of_decide_eq_true (by kernel_rfl)) k2 bel lt2) trodAll_mk0))), rfl, bel.frame _, fun h => by cases h⟩

theorem laid_met (os : Os) (args : Array Value) : laidMet Tryz.prog Rows.ribCopiesRow.laid ((World.laidAll Tryz.prog os Rows.ribCopiesRow.laid).forCall (fun _ _ => 0) ⟨#[], args, []⟩).memory :=
  laidMet_laidAll _ (by kernel_rfl) (by kernel_rfl)
set_option maxRecDepth 100000 in
theorem pre_row (os : Os) {H : Type} (enc : TypeId × Value → H) :
    (OpenSpec.ofChange Rows.ribCopiesSpec).preRow enc Tryz.prog Tryz.f4 Rows.ribCopiesRow.domain false Rows.ribCopiesRow.laid ((World.laidAll Tryz.prog os Rows.ribCopiesRow.laid).forCall (fun _ _ => 0) ⟨#[], #[.slice none 0 0, .slice none 0 0, .slice none 0 0], []⟩).memory #[.slice none 0 0, .slice none 0 0, .slice none 0 0] := by
  exact ⟨⟨ChangeSpec.pre_of_preB (fuel := 8) (by kernel_rfl), by rw [MakeChecks.laidMetH_plain _ _ _ (by kernel_rfl)]; exact laid_met os _⟩, sizedMet_of_sizedB (fuel := 8) (by kernel_rfl)⟩
set_option maxRecDepth 100000 in
theorem lifted (os : Os) (started : os.Started) (H : Type) (enc : TypeId × Value → H) (F : Stop.Interp) :
    ReturnsInHanded {} Tryz.checked os 4 .any ((OpenSpec.ofChange Rows.ribCopiesSpec).preRow enc Tryz.prog Tryz.f4 Rows.ribCopiesRow.domain false Rows.ribCopiesRow.laid) (((OpenSpec.ofChange Rows.ribCopiesSpec).at F).post enc Tryz.prog Tryz.f4 false true false false) := by
  refine returnsInHanded_of_row (C := Tryz.checked) (s := (OpenSpec.ofChange Rows.ribCopiesSpec)) own started (by kernel_rfl) Tryz.func4
    ⟨World.laidAll Tryz.prog os Rows.ribCopiesRow.laid, fun _ _ => 0, ⟨#[], #[.slice none 0 0, .slice none 0 0, .slice none 0 0], []⟩, World.laidAll_os _ _ _, World.shaped_of_ZipB (by kernel_rfl) (by kernel_rfl), rfl, (Input.okWide_of_okWideB (by kernel_rfl)).2, pre_row os enc, (by simp only [Assume.holds]; exact ⟨by simp, by simp, fun _ => Modest.zero, by simp, by simp⟩)⟩ ?_
  intro W base args ds gs before hval hW _ hcond hsz hL hsh _
  rw [MakeChecks.laidMetH_plain _ _ _ (by kernel_rfl)] at hL
  exact contract H enc W base args ds gs before hval hW hsz (envR_of hL)

theorem over : Rows.ribCopiesRow.holds Tryz.pinned (OpenSpec.ofChange Rows.ribCopiesSpec) :=
  OpenClaim.holds_of_cond 4 Tryz.f4 rfl rfl rfl rfl rfl rfl rfl ⟨rfl, rfl, rfl, rfl, rfl⟩ rfl rfl rfl rfl rfl (by kernel_rfl) Tryz.func4 (by kernel_rfl)
    (of_decide_eq_true (by kernel_rfl)) (by unfold Func.isWrapper; first | (rw [if_pos (by decide +kernel)]; kernel_rfl) | (rw [if_neg (by decide +kernel)]; exact ⟨rfl, rfl⟩))
    (fun os started H enc _ F => by rw [OpenClaim.pre_eq_preRow]; exact lifted os started H enc F)

theorem proved : Rows.RibCopiesCardSaid :=
  Claim7.holds_tied_plain_at .later [] Rows.ribCopiesCard.laidKinds true Rows.ribCopiesCard.stood.harness Rows.ribCopiesCard.stood.looks over (fun _ h => by cases h) (by kernel_rfl) (fun _ h => by cases h) ribCopies_row_tie rfl ⟨rfl, rfl⟩ (by kernel_rfl) rfl
    (fun f fn hf hfn => by
      obtain rfl : f = 4 := Option.some.inj ((show Tryz.prog.funcNamed Rows.ribCopiesRow.func = some 4 by kernel_rfl).symm.trans hf) |>.symm
      obtain rfl : fn = Tryz.f4 := (Option.some.inj (Tryz.func4.symm.trans hfn)).symm
      exact ⟨by kernel_rfl, fun j t ht => by
        rw [Tryz.params4] at ht
        have hm : t ∈ [22, 22, 22] := by simpa using Array.mem_of_getElem? ht
        have hall : ([22, 22, 22].all fun u => !Tryz.prog.wantsStandIn u) = true := by kernel_rfl
        exact (show Tryz.prog.wantsStandIn t = false by simpa using List.all_eq_true.1 hall t hm)⟩)
    (by kernel_rfl)
#print axioms proved
