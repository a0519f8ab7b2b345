/-
  crosswaylaw16.ResolveTables returns true for every input, and leaves its arguments alone.
  Conditions: none of our own.
-/
import Derived.Test.YtgfkmgbcajdcdaaGreatDoorYar
import Derived.Test.YtgfkmgbcajdcdaaGreatDoorYbb
import Derived.Test.YtgfkmgbcajdcdaaGreatDoorYbc
import Derived.Test.YtgfkmgbcajdcdaaGreatDoorYbm
import Derived.Test.YtgfkmgbcajdcdaaGreatDoorYbn
import Derived.Test.YtgfkmgbcajdcdaaGreatDoorYaa
set_option linter.unusedVariables false
set_option maxRecDepth 100000
set_option maxHeartbeats 16000000
namespace Go.Proofs.YtgfkmgbcajdcdaaGreatDoor
open Go.ChangeShapes Go.WideShapes Go.ChangeAt Go.RowKit Ifs
namespace VTb
theorem sizeEn : (Tryz.prog.info? 70).map (·.size) = some 9 := by kernel_rfl
theorem own_blkK {w : World} {base g n c sz k : Nat} {t : TypeId} {xs : List Value} (h : w.ownsRow base t sz (.slice (some ⟨g, 0, none⟩) n c) n xs) (hk : k < n) : ∃ old, Blk w g t old ∧ k * sz + sz ≤ old.size := by
 rcases h.2 with ⟨e, -⟩ | ⟨g', cap, cur, e, -, hb, h3, h4, h5, -⟩
 ·cases e
 ·injection e with e1 e2 e3
  injection e1 with e1
  injection e1 with e1
  subst e1 e3
  refine ⟨cur, hb, ?_⟩
  have := Nat.mul_le_mul_right sz (show k + 1 ≤ c by omega)
  rw [Nat.succ_mul] at this
  omega
theorem own_sta {w w' : World} {base g n c sz off : Nat} {t : TypeId} {xs : List Value} {old cs : Array Value} (h : w.ownsRow base t sz (.slice (some ⟨g, 0, none⟩) n c) n xs) (hB : Blk w g t old) (hs : Sta w w' g off t old cs) : ∃ ys, w'.ownsRow base t sz (.slice (some ⟨g, 0, none⟩) n c) n ys := by
 rcases h.2 with ⟨e, -⟩ | ⟨g', cap, cur, e, h1, hb, h3, h4, h5, h6⟩
 ·cases e
 ·injection e with e1 e2 e3
  injection e1 with e1
  injection e1 with e1
  subst e1 e3
  obtain ⟨new, hn, hsz, -, -⟩ := hs.blk
  have hco : cur.size = old.size := by
   have e9 : some (Obj.cells cur t (0, 0)) = some (Obj.cells old t (0, 0)) := hb.symm.trans hB
   injection e9 with e9
   injection e9 with e9
   rw [e9]
  refine ⟨_, ?_, .inr ⟨g, c, new, rfl, h1, hn, h3, h4, by rw [hsz, ← hco, h5], rfl⟩⟩
  rw [List.length_take, Array.length_toList, hsz, ← hco, h5]
  exact Nat.min_eq_left (Nat.mul_le_mul_right _ h3)
theorem own_zr {w : World} {t : TypeId} {sz n base : Nat} {v : Value} {xs : List Value} (h : w.ownsRow base t sz v n xs) : w.ownsRow 0 t sz v n xs := own_mono h (Nat.zero_le _)
theorem walk (w : World) (hE : EnvR w) (a0 b0 : Option Addr) (l0 c0 m0 d0_ : Nat) (z0 : List Ifs.Stp) (y0 : List Stp) (w0 : Ifs.IsStp w a0 l0 z0) (x0 : IsStp w b0 m0 y0) :
  Calls Tryz.prog 4 #[.agg #[.slice a0 l0 c0, .slice b0 m0 d0_]] w fun e w' => e = .returned (.bool true) ∧ Below w.heap.size w w' := by
 have HEn := lH hE
 have HM := lH (fun W (hW : Below w.heap.size w W) => made16 w a0 b0 l0 c0 m0 d0_ z0 y0 w0 x0 W hW hE)
 have HMe := lH (fun W (hW : Below w.heap.size w W) => meant16 w a0 b0 l0 c0 m0 d0_ z0 y0 w0 x0 W hW)
 clear hE w0 x0
 obtain ⟨xb, hxb⟩ : ∃ xb, w.heap.size = xb := ⟨_, rfl⟩
 obtain ⟨W0, hW0⟩ : ∃ W, w.alloc (.cells #[.slice a0 l0 c0, .slice b0 m0 d0_] 25) = W := ⟨_, rfl⟩
 have HX : Hid (Blk W0 xb 25 #[.slice a0 l0 c0, .slice b0 m0 d0_]) := lH (hW0 ▸ hxb ▸ Blk.new w _ _)
 have HB0 : Hid (Below w.heap.size w W0) := lH (hW0 ▸ (Below.refl _ w).alloc (Nat.le_refl _) _)
 have HEn0 := lH (HEn.out.below HB0.out)
 have HW0 := lH (And.intro hW0 hxb)
 clear hW0 hxb
 go_enter Tryz.func4, Tryz.ntmps4
 go_wp2_with fail
 rw [HW0.out.1, HW0.out.2]
 refine cZm (awake16 W0 HEn0.out) ?_
 rintro e x1 ⟨rfl, hb1⟩
 have HB1 := lH (HB0.out.trans (hb1.mono HB0.out.size))
 have HX1 := lH (HX.out.below hb1 HX.out.lt)
 clear hb1
 have q0 := (HX1.out.cell 0).trans (show _ = some (Value.slice a0 l0 c0) by rfl)
 have q1 := (HX1.out.cell 1).trans (show _ = some (Value.slice b0 m0 d0_) by rfl)
 go_wp2_with fail
 refine cZm (HM.out x1 HB1.out) ?_
 rintro e x2 ⟨t, p, S, T, rfl, hY⟩
 clear q0 q1
 have HB2 := lH (HB1.out.trans (hY.bel.mono HB1.out.size))
 have HX2 := lH (HX1.out.below hY.bel HX1.out.lt)
 have q0 := (HX2.out.cell 0).trans (show _ = some (Value.slice a0 l0 c0) by rfl)
 have q1 := (HX2.out.cell 1).trans (show _ = some (Value.slice b0 m0 d0_) by rfl)
 obtain ⟨L, hL⟩ : ∃ L, plR y0 (min m0 60) = L := ⟨_, rfl⟩
 obtain ⟨st, hst⟩ : ∃ st, plI z0 (min l0 60) = st := ⟨_, rfl⟩
 rw [hL, hst] at hY
 have HMe2 := lH (HMe.out x2 HB2.out)
 rw [hL, hst] at HMe2
 have HY := lH hY
 clear hL hst hY HMe HM
 go_wp2_with fail
 refine cZm HMe2.out ?_
 rintro e x3 ⟨q, r, S', T', rfl, hD, hI, hT3⟩
 clear q0 q1
 have HY3 := lH (HY.out.tch0 hT3)
 have HTa := lH (rtable_any t p S T L st x3 HY3.out.R HY3.out.I)
 have HIv := lH HY3.out.R.inv
 have HB3 := lH (HB2.out.trans (hT3.below HB2.out.size (by simp)))
 have HTd := lH (fun W (hW : Tch x3 W []) => dtable_any q r S' T' L st HIv.out.len3 HIv.out W (hD.tch hW (by simp)) (hI.tch hW (by simp)))
 clear hD hI hT3 HMe2 HY
 have HTl := lH (tabI_len L st)
 have hn90 := HIv.out.ninety
 obtain ⟨l, hl⟩ : ∃ l, tabI L st = l := ⟨_, rfl⟩
 obtain ⟨n, hn⟩ : ∃ n, l.length = n := ⟨_, rfl⟩
 have HN9 : Hid (n ≤ 90) := lH (by have h1 := HTl.out; rw [hl, hn] at h1; omega)
 have HRt := lH (fun W (hY : Bth x1 W t p S T L st) => rtable_any t p S T L st W hY.R hY.I)
 rw [hl, hn] at HTa HTd HRt
 have HN := lH hn
 clear hl hn hn90 HTl
 go_wp2_with fail
 refine cZm HTa.out ?_
 rintro e x4 ⟨A, c, rfl, ho, hT⟩
 have HRo := lH (fun W (hW : Tch x4 W []) => own_tch ho hW (by simp))
 have HT4 := lH hT
 clear ho hT HTa
 go_wp2_with fail
 refine cZm (HTd.out x4 HT4.out) ?_
 rintro e x5 ⟨B, d, rfl, ho, hT⟩
 have HRd := lH (fun W (hW : Tch x5 W []) => own_tch ho hW (by simp))
 have HT5 := lH hT
 have HGe : Hid (∀ s ∈ obI (.slice B n d), x4.heap.size ≤ s) := lH (fun s hs => (own_geI ho s hs).1)
 clear ho hT HTd
 have HSm := lH (fun W (hW : Tch x5 W []) => same_en A B n c d l HN.out (by have := HN9.out; omega) W (own_zr (HRo.out W (HT5.out.trans hW))) (own_zr (HRd.out W hW)))
 go_wp2_with fail
 refine cZm (HSm.out x5 (Tch.refl _ _)) ?_
 rintro e x6 ⟨rfl, hT⟩
 have HT6 := lH hT
 clear hT
 have HNu := lH (rnumber_any A n c l HN.out (by have := HN9.out; omega) x6 (own_zr (HRo.out x6 (HT5.out.trans HT6.out))))
 have HNl := lH (numI_len l)
 go_wp2_with fail
 refine cZm HNu.out ?_
 rintro e x7 ⟨A1, c1, A2, c2, rfl, ho1, ho2, -, hT⟩
 have HT7 := lH hT
 have HO1 := lH (fun W (hW : Tch x7 W []) => own_tch (own_zr ho1) hW (by simp))
 have HO2 := lH (fun W (hW : Tch x7 W []) => own_tch (own_zr ho2) hW (by simp))
 clear ho1 ho2 hT HNu
 have HNd := lH (dnumber_any B n d l HN.out (by have := HN9.out; omega) x7 (own_zr (HRd.out x7 (HT6.out.trans HT7.out))))
 go_wp2_with fail
 refine cZm HNd.out ?_
 rintro e x8 ⟨B1, d1, B2, d2, rfl, ho1, ho2, -, hT⟩
 have HT8 := lH hT
 have HSr := lH (fun W (hW : Tch x8 W []) => same_rt A1 B1 n c1 d1 (numI l).1 (by rw [HNl.out.1]; exact HN.out) (by have := HN9.out; omega) W (HO1.out W (HT8.out.trans hW)) (own_tch (own_zr ho1) hW (by simp)))
 have HSh := lH (fun W (hW : Tch x8 W []) => same_hp A2 B2 (numI l).2.length c2 d2 (numI l).2 rfl (by have := HN9.out; have := HNl.out.2; rw [HN.out] at this; omega) W (HO2.out W (HT8.out.trans hW)) (own_tch (own_zr ho2) hW (by simp)))
 clear ho1 ho2 hT HNd
 obtain ⟨m, hm⟩ : ∃ m, (numI l).2.length = m := ⟨_, rfl⟩
 rw [hm] at HSh
 rw [hm]
 clear hm
 go_wp2_with fail
 refine cZm (HSr.out x8 (Tch.refl _ _)) ?_
 rintro e x9 ⟨rfl, hT⟩
 have HT9 := lH hT
 clear hT
 go_wp2_with fail
 refine cZm (HSh.out x9 HT9.out) ?_
 rintro e x10 ⟨rfl, hT⟩
 have HT10 := lH hT
 clear hT
 have HT510 := lH ((((HT6.out.trans HT7.out).trans HT8.out).trans HT9.out).trans HT10.out)
 go_wp2_with fail
 refine cZm (HSm.out x10 HT510.out) ?_
 rintro e x11 ⟨rfl, hT⟩
 have HT511 := lH (HT510.out.trans hT)
 have HO0 : Hid (∃ xs, x11.ownsRow x3.heap.size 70 9 (.slice A n c) n xs) := lH ⟨_, HRo.out x11 (HT5.out.trans HT511.out)⟩
 have HOb : Hid (∀ s ∈ obI (.slice A n c), s < x4.heap.size ∧ x3.heap.size ≤ s) := lH (fun s hs => ⟨(own_geI (HRo.out x4 (Tch.refl _ _)) s hs).2, (own_geI (HRo.out x4 (Tch.refl _ _)) s hs).1⟩)
 have HT311 := lH ((HT4.out.trans HT5.out).trans HT511.out)
 have HY0 := lH (HY3.out.tch0 HT311.out)
 have HR0 := lH (HRd.out x11 HT511.out)
 have HBx0 := lH (HB3.out.trans (HT311.out.below HB3.out.size (by simp)))
 have HS3 : Hid (∀ s ∈ S, s < x3.heap.size) := lH (fun s hs => HY3.out.R.lt s hs)
 have HI3 : Hid (∀ s ∈ T, s < x3.heap.size) := lH (fun s hs => HY3.out.I.lt s hs)
 clear hT HO1 HO2 HSr HSh HSm HT6 HT7 HT8 HT9 HT10 HT510 HNl HRo HRd
 go_wp2
 go_loopw [15] (fun kv wk => ∃ (k : Nat), kv = .int .i64 (k : Int) ∧ k ≤ n ∧ Hid (∃ xs, wk.ownsRow x3.heap.size 70 9 (.slice A n c) n xs) ∧ Hid (Bth x1 wk t p S T L st) ∧ Hid (RowE wk x4.heap.size B n d l) ∧ Hid (Below w.heap.size w wk)) (fun kv _ => n - (intOf kv).toNat)
 case atStart => exact ⟨0, rfl, Nat.zero_le _, HO0, HY0, HR0, HBx0⟩
 case round =>
  obtain ⟨k, rfl, hk, hO, hY, hR, hB⟩ := hrel
  have k1 : IntKind.i64.wrap ((k : Int) + 1) = (k : Int) + 1 := by have := HN9.out; rw [IntKind.wrap_i64]; omega
  by_cases hkm : k < n
  ·have kI : (k : Int) < (n : Int) := by omega
   have k0 : (0 : Int) ≤ (k : Int) := by omega
   obtain ⟨xs, hxs⟩ := hO.out
   obtain ⟨gl, rfl⟩ := slice_some hxs (by omega)
   have HIn : Hid (gl < x4.heap.size ∧ x3.heap.size ≤ gl) := lH (HOb.out gl (by simp [obI, Value.ownBlock]))
   obtain ⟨old, hBl, hsz⟩ : ∃ old, Blk wr gl 70 old ∧ k * 9 + 9 ≤ old.size := own_blkK hxs hkm
   have HBl := lH hBl
   have HSz := lH hsz
   have HXs := lH hxs
   clear hxs hBl hsz
   have HTo : Hid (∀ W, Tch wr W [gl] → Bth x1 W t p S T L st ∧ RowE W x4.heap.size B n d l ∧ Below w.heap.size w W) := lH (fun W hW => by
    have g1 := HIn.out.1
    have g2 := HIn.out.2
    have u1 := HY3.out.bel.size
    have u2 := HB3.out.size
    refine ⟨⟨hY.out.R.tch hW (fun s hs hm => ?_), hY.out.I.tch hW (fun s hs hm => ?_), hY.out.dis, hY.out.bel.trans (hW.below hY.out.bel.size (fun s hs => ?_)), hY.out.ra, hY.out.ia⟩, own_tch hR.out hW (fun s hs hm => ?_), hB.out.trans (hW.below hB.out.size (fun s hs => ?_))⟩
    ·have h1 := HS3.out s hs; have h2 := List.mem_singleton.1 hm; omega
    ·have h1 := HI3.out s hs; have h2 := List.mem_singleton.1 hm; omega
    ·have h2 := List.mem_singleton.1 hs; omega
    ·have h1 := HGe.out s hs; have h2 := List.mem_singleton.1 hm; omega
    ·have h2 := List.mem_singleton.1 hs; omega)
   go_wp2_with (refine wpList_sta rfl 70 (.tmp 79) (.tmp 78) rfl gl (k * 9) #[.bool false, .int .u64 0, .int .u64 0, .int .i64 0, .int .i64 0, .bool false, .int .u64 0, .int .u64 0, .bool false] rfl rfl 70 old HBl.out 9 sizeEn rfl HSz.out (by simp [Value.oneCell']) ?_; intro w6 hs6; have HOn : Hid (∃ xs, w6.ownsRow x3.heap.size 70 9 (.slice (some ⟨gl, 0, none⟩) n c) n xs) := lH (own_sta HXs.out HBl.out hs6); have HTn := lH (HTo.out w6 hs6.tch); clear hs6)
   go_roundw
   case rel => exact ⟨k + 1, by go_num, hkm, HOn, lH HTn.out.1, lH HTn.out.2.1, lH HTn.out.2.2⟩
   case measure => simp [intOf]; omega
  ·obtain rfl : k = n := by omega
   have kI : ¬ (k : Int) < (k : Int) := by omega
   have HRt2 := lH (HRt.out wr hY.out)
   clear hkm hk
   go_wp2_with fail
   refine cZm HRt2.out ?_
   rintro e x12 ⟨A9, c9, rfl, ho, hT⟩
   have HSm2 := lH (same_en A9 B k c9 d l HN.out (by have := HN9.out; omega) x12 (own_zr ho) (own_zr (own_tch hR.out hT (by simp))))
   have HT12 := lH hT
   clear ho hT
   go_wp2_with fail
   refine cZm HSm2.out ?_
   rintro e x13 ⟨rfl, hT⟩
   have HEb := lH (hB.out.trans ((HT12.out.trans hT).below hB.out.size (by simp)))
   clear hT
   go_wp2
   go_ret
   exact ⟨by simp, HEb.out⟩
theorem contract (H : Type) (enc : TypeId × Value → H) (W : World) (base : Nat) (args : Array Value) (ds gs : List (DataW H)) (before : List MemPlace)
  (hval0 : ∀ (j : Nat) t v, Tryz.f4.params[j]? = some t → args[j]? = some v → Value.okWide Tryz.prog W .any base t v)
  (hW : DataW.Whole enc Tryz.prog Tryz.f4.params.toList Rows.resolveTablesSpec.vars false W args.toList ds gs before)
  (hsz0 : (DataW.weightsEach Tryz.prog (Tryz.f4.params.toList ++ Rows.resolveTablesSpec.plain.varTypes Tryz.prog) (ds ++ gs)).all (· ≤ reachBytes) = true) (hE : EnvR W) :
  Calls Tryz.prog 4 args W fun e W' => ∃ v, e = .returned v ∧ Rows.resolveTablesSpec.post enc Tryz.prog Tryz.f4 false true false false W args v W' := by
 have hsz := hsz0
 clear hsz0
 have hval := hval0
 clear hval0
 have hW' := hW
 obtain ⟨p, q, hA0, hV, rfl, hfz, hnd⟩ := hW
 have hA : DataW.TrodAll enc Tryz.prog W 0 (fun _ => true) true Tryz.f4.params.toList args.toList ds p := hA0
 rw [Tryz.params4] at hA hval hsz
 obtain ⟨v0, vs0, d0, ds0, p0, q0, hargs, rfl, rfl, h0, r0⟩ := trodAll_cons hA
 obtain ⟨rfl, rfl, rfl⟩ := trodAll_nil r0
 obtain rfl : args = #[v0] := by cases args; simp_all
 obtain ⟨rfl, rfl⟩ := trodVars_none hV
 have k0 := h0
 have lt0 : ∀ x ∈ p0, x.block < W.heap.size := by obtain ⟨m, hm⟩ := k0; exact DataW.trod_lt m _ _ _ hm
 obtain ⟨a0, b0, l0, c0, m0, d0_, z0, y0, rfl, w0, x0⟩ := open_world (hval 0 25 v0 rfl rfl) h0
 clear hA0
 refine (walk W hE a0 b0 l0 c0 m0 d0_ z0 y0 w0 x0).mono fun e W' ⟨he, bel⟩ => ?_
 subst he
 exact ⟨_, rfl, _, _, _, [], _, [], hW', trodAll_mk1 (shut_bool Tryz.underlying4 _), (trodAll_cons_mk (Below.trod laidOut (by kernel_rfl) (of_decide_eq_true (by kernel_rfl)) k0 bel lt0) trodAll_mk0), rfl, bel.frame _, fun h => by cases h⟩

theorem laid_met (os : Os) (args : Array Value) : laidMet Tryz.prog Rows.resolveTablesRow.laid ((World.laidAll Tryz.prog os Rows.resolveTablesRow.laid).forCall (fun _ _ => 0) ⟨#[], args, []⟩).memory :=
 laidMet_laidAll _ (by kernel_rfl) (by kernel_rfl)
theorem pre_row (os : Os) {H : Type} (enc : TypeId × Value → H) :
  (OpenSpec.ofChange Rows.resolveTablesSpec).preRow enc Tryz.prog Tryz.f4 Rows.resolveTablesRow.domain false Rows.resolveTablesRow.laid ((World.laidAll Tryz.prog os Rows.resolveTablesRow.laid).forCall (fun _ _ => 0) ⟨#[], #[.agg #[.slice none 0 0, .slice none 0 0]], []⟩).memory #[.agg #[.slice none 0 0, .slice none 0 0]] := by
 exact ⟨⟨ChangeSpec.pre_of_preB (fuel := 8) (by kernel_rfl), by rw [MakeChecks.laidMetH_plain _ _ _ (by kernel_rfl)]; exact laid_met os _⟩, sizedMet_of_sizedB (fuel := 8) (by kernel_rfl)⟩
theorem lifted (os : Os) (started : os.Started) (H : Type) (enc : TypeId × Value → H) (F : Stop.Interp) :
  ReturnsInHanded {} Tryz.checked os 4 .any ((OpenSpec.ofChange Rows.resolveTablesSpec).preRow enc Tryz.prog Tryz.f4 Rows.resolveTablesRow.domain false Rows.resolveTablesRow.laid) (((OpenSpec.ofChange Rows.resolveTablesSpec).at F).post enc Tryz.prog Tryz.f4 false true false false) := by
 refine returnsInHanded_of_row (C := Tryz.checked) (s := (OpenSpec.ofChange Rows.resolveTablesSpec)) own started (by kernel_rfl) Tryz.func4
  ⟨World.laidAll Tryz.prog os Rows.resolveTablesRow.laid, fun _ _ => 0, ⟨#[], #[.agg #[.slice none 0 0, .slice none 0 0]], []⟩, World.laidAll_os _ _ _, World.shaped_of_ZipB (by kernel_rfl) (by kernel_rfl), rfl, (Input.okWide_of_okWideB (by kernel_rfl)).2, pre_row os enc, (by simp only [Assume.holds]; exact ⟨by simp, by simp, fun _ => Modest.zero, by simp, by simp⟩)⟩ ?_
 intro W base args ds gs before hval hW _ hcond hsz hL hsh _
 rw [MakeChecks.laidMetH_plain _ _ _ (by kernel_rfl)] at hL
 exact contract H enc W base args ds gs before hval hW hsz (envR_of hL)

theorem over : Rows.resolveTablesRow.holds Tryz.pinned (OpenSpec.ofChange Rows.resolveTablesSpec) :=
 OpenClaim.holds_of_cond 4 Tryz.f4 rfl rfl rfl rfl rfl rfl rfl ⟨rfl, rfl, rfl, rfl, rfl⟩ rfl rfl rfl rfl rfl (by kernel_rfl) Tryz.func4 (by kernel_rfl)
  (of_decide_eq_true (by kernel_rfl)) (by unfold Func.isWrapper; first | (rw [if_pos (by decide +kernel)]; kernel_rfl) | (rw [if_neg (by decide +kernel)]; exact ⟨rfl, rfl⟩))
  (fun os started H enc _ F => by rw [OpenClaim.pre_eq_preRow]; exact lifted os started H enc F)

theorem proved : Rows.ResolveTablesCardSaid :=
 Claim7.holds_tied_plain_at .later [] Rows.resolveTablesCard.laidKinds true Rows.resolveTablesCard.stood.harness Rows.resolveTablesCard.stood.looks over (fun _ h => by cases h) (by kernel_rfl) (fun _ h => by cases h) resolveTables_row_tie rfl ⟨rfl, rfl⟩ (by kernel_rfl) rfl
  (fun f fn hf hfn => by
   obtain rfl : f = 4 := Option.some.inj ((show Tryz.prog.funcNamed Rows.resolveTablesRow.func = some 4 by kernel_rfl).symm.trans hf) |>.symm
   obtain rfl : fn = Tryz.f4 := (Option.some.inj (Tryz.func4.symm.trans hfn)).symm
   exact ⟨by kernel_rfl, fun j t ht => by
    rw [Tryz.params4] at ht
    have hm : t ∈ [25] := by simpa using Array.mem_of_getElem? ht
    have hall : ([25].all fun u => !Tryz.prog.wantsStandIn u) = true := by kernel_rfl
    exact (show Tryz.prog.wantsStandIn t = false by simpa using List.all_eq_true.1 hall t hm)⟩)
  (by kernel_rfl)
#print axioms proved
end VTb
end Go.Proofs.YtgfkmgbcajdcdaaGreatDoor
