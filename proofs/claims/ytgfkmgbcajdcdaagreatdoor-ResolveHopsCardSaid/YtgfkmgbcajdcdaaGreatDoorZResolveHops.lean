/-
  crosswaylaw16.ResolveHops returns true for every input, and leaves its arguments alone.
  Conditions: none of our own.
-/
import Derived.Test.YtgfkmgbcajdcdaaGreatDoorZar
import Derived.Test.YtgfkmgbcajdcdaaGreatDoorZba
import Derived.Test.YtgfkmgbcajdcdaaGreatDoorZbl
import Derived.Test.YtgfkmgbcajdcdaaGreatDoorZbm
import Derived.Test.YtgfkmgbcajdcdaaGreatDoorZao
import Derived.Test.YtgfkmgbcajdcdaaGreatDoorZad
import Derived.Test.YtgfkmgbcajdcdaaGreatDoorZaa
set_option linter.unusedVariables false
set_option maxRecDepth 100000
set_option maxHeartbeats 16000000
namespace Go.Proofs.YtgfkmgbcajdcdaaGreatDoor
open Go.ChangeShapes Go.WideShapes Go.ChangeAt Go.RowKit Ifs
namespace VHp
theorem own_zr {w : World} {t : TypeId} {sz n base : Nat} {v : Value} {xs : List Value} (h : w.ownsRow base t sz v n xs) : w.ownsRow 0 t sz v n xs := own_mono h (Nat.zero_le _)
theorem walk (w : World) (hE : EnvR w) (a0 b0 : Option Addr) (l0 c0 m0 d0_ : Nat) (z0 : List Ifs.Stp) (y0 : List Stp) (w0 : Ifs.IsStp w a0 l0 z0) (x0 : IsStp w b0 m0 y0) (a1_0 : Bool) (a1_1 : Int) (w1_1 : (Lit.int .u64 a1_1).wf = true) (a1_2 : Int) (w1_2 : (Lit.int .u64 a1_2).wf = true) (a1_3 : Int) (w1_3 : (Lit.int .i64 a1_3).wf = true) :
  Calls Tryz.prog 3 #[.agg #[.slice a0 l0 c0, .slice b0 m0 d0_], .agg #[.bool a1_0, .int .u64 a1_1, .int .u64 a1_2, .int .i64 a1_3]] w fun e w' => e = .returned (.bool true) ∧ Below w.heap.size w w' := by
 obtain ⟨ph, rfl, hph⟩ := n64_of w1_1
 obtain ⟨pl, rfl, hpl⟩ := n64_of w1_2
 have hpb := i64_of w1_3
 obtain ⟨ps, hps⟩ : ∃ x, a1_0 = x := ⟨_, rfl⟩
 obtain ⟨pb, hpb2⟩ : ∃ x, a1_3 = x := ⟨_, rfl⟩
 rw [hpb2] at hpb
 subst hps hpb2
 have HPo : Hid (PfOk ((a1_0, ph, pl), a1_3)) := lH ⟨⟨hph, hpl⟩, (by unfold I64; simp only; omega)⟩
 have HEn := lH hE
 have HM := lH (fun W (hW : Below w.heap.size w W) => made16 w a0 b0 l0 c0 m0 d0_ z0 y0 w0 x0 W hW hE)
 have HMe := lH (fun W (hW : Below w.heap.size w W) => meant16 w a0 b0 l0 c0 m0 d0_ z0 y0 w0 x0 W hW)
 clear hE w0 x0 w1_1 w1_2 w1_3 hph hpl hpb
 obtain ⟨xb, hxb⟩ : ∃ xb, w.heap.size = xb := ⟨_, rfl⟩
 obtain ⟨W0, hW0⟩ : ∃ W, (w.alloc (.cells #[.slice a0 l0 c0, .slice b0 m0 d0_] 25)).alloc (.cells #[.bool a1_0, .int .u64 (ph : Int), .int .u64 (pl : Int), .int .i64 a1_3] 30) = W := ⟨_, rfl⟩
 have HX : Hid (Blk W0 xb 25 #[.slice a0 l0 c0, .slice b0 m0 d0_]) := lH (hW0 ▸ hxb ▸ ((Tch.refl _ []).alloc _).blk (Blk.new w _ _) (by simp))
 have HZ : Hid (Blk W0 (xb + 1) 30 #[.bool a1_0, .int .u64 (ph : Int), .int .u64 (pl : Int), .int .i64 a1_3]) := lH (by have h := Blk.new (w.alloc (.cells #[.slice a0 l0 c0, .slice b0 m0 d0_] 25)) 30 #[.bool a1_0, .int .u64 (ph : Int), .int .u64 (pl : Int), .int .i64 a1_3]; rw [zA, hW0, hxb] at h; exact h)
 have HB0 : Hid (Below w.heap.size w W0) := lH (hW0 ▸ ((Below.refl _ w).alloc (Nat.le_refl _) _).alloc (by rw [zA]; exact Nat.le_succ _) _)
 have HEn0 := lH (HEn.out.below HB0.out)
 have HW0 := lH (And.intro hW0 hxb)
 clear hW0 hxb
 go_enter Tryz.func3, Tryz.ntmps3
 go_wp2_with fail
 rw [HW0.out.1, HW0.out.2]
 refine cZm (awake16 W0 HEn0.out) ?_
 rintro e x1 ⟨rfl, hb1⟩
 have HB1 := lH (HB0.out.trans (hb1.mono HB0.out.size))
 have HX1 := lH (HX.out.below hb1 HX.out.lt)
 have HZ1 := lH (HZ.out.below hb1 HZ.out.lt)
 clear hb1
 have q0 := (HX1.out.cell 0).trans (show _ = some (Value.slice a0 l0 c0) by rfl)
 have q1 := (HX1.out.cell 1).trans (show _ = some (Value.slice b0 m0 d0_) by rfl)
 go_wp2_with fail
 refine cZm (HM.out x1 HB1.out) ?_
 rintro e x2 ⟨t, p, S, T, rfl, hY⟩
 clear q0 q1
 have HB2 := lH (HB1.out.trans (hY.bel.mono HB1.out.size))
 have HX2 := lH (HX1.out.below hY.bel HX1.out.lt)
 have HZ2 := lH (HZ1.out.below hY.bel HZ1.out.lt)
 have q0 := (HX2.out.cell 0).trans (show _ = some (Value.slice a0 l0 c0) by rfl)
 have q1 := (HX2.out.cell 1).trans (show _ = some (Value.slice b0 m0 d0_) by rfl)
 obtain ⟨L, hL⟩ : ∃ L, plR y0 (min m0 60) = L := ⟨_, rfl⟩
 obtain ⟨st, hst⟩ : ∃ st, plI z0 (min l0 60) = st := ⟨_, rfl⟩
 rw [hL, hst] at hY
 have HMe2 := lH (HMe.out x2 HB2.out)
 rw [hL, hst] at HMe2
 have HY := lH hY
 clear hL hst hY HMe HM
 go_wp2_with fail
 refine cZm HMe2.out ?_
 rintro e x3 ⟨q, r, S', T', rfl, hD, hI, hT3⟩
 clear q0 q1
 have HY3 := lH (fun W (hW : Tch x3 W []) => HY.out.tch0 (hT3.trans hW))
 have HIv := lH HY.out.R.inv
 have HOk := lH HY.out.R.ok
 have HB3 := lH (HB2.out.trans (hT3.below HB2.out.size (by simp)))
 have HZ3 := lH (fun W (hW : Tch x3 W []) => (hT3.trans hW).blk HZ2.out (by simp))
 have HD3 := lH (fun W (hW : Tch x3 W []) => And.intro (hD.tch hW (by simp)) (hI.tch hW (by simp)))
 have HPr := lH (fun W (hW : Tch x3 W []) => prefsD q S' L HIv.out.len3 W (HD3.out W hW).1)
 have HPp := lH (fun W (hW : Tch x3 W []) => prefsP0 t S L W (HY3.out W hW).R)
 have HCo := lH (fun W (hW : Tch x3 W []) => countP0 t S L W (HY3.out W hW).R)
 have HHr := lH (fun z (hz : PfOk z) W (hW : Tch x3 W []) => rhop_any t p S T L st z hz W (HY3.out W hW).R (HY3.out W hW).I)
 have HHd := lH (fun z W (hW : Tch x3 W []) => dHop_any q r S' T' L st z HIv.out.len3 HIv.out.inv W (HD3.out W hW).1 (HD3.out W hW).2)
 have HPr2 := lH (fun z (hz : PfOk z) W (hW : Tch x3 W []) => rpath_any t p S T L st z hz W (HY3.out W hW).R (HY3.out W hW).I)
 have HPd2 := lH (fun z W (hW : Tch x3 W []) => dpath_any q r S' T' L st z HIv.out.len3 HIv.out.inv W (HD3.out W hW).1 (HD3.out W hW).2)
 have HOq : Hid (∀ z ∈ prefsI L, PfOk z) := lH (fun z hz => by
  obtain ⟨u, hu, e⟩ := (prefsI_mem HIv.out.inv).1 hz
  rw [← e]; exact (HOk.out u hu).1)
 have hn90 := HIv.out.ninety
 obtain ⟨l, hl⟩ : ∃ l, prefsI L = l := ⟨_, rfl⟩
 obtain ⟨n, hn⟩ : ∃ n, l.length = n := ⟨_, rfl⟩
 rw [hl] at HPr HPp HOq hn90
 rw [hn] at HPr HPp hn90
 have HN := lH hn
 have HN9 := lH hn90
 have HLq : Hid (∀ W, Tch x3 W [] → ∃ A c, W.cell? ⟨q, 0, none⟩ = some (Value.slice A L.length c)) := lH (fun W hW => by
  obtain ⟨A, cA, c0, -, -, -⟩ := (HD3.out W hW).1.head
  exact ⟨A, cA, c0⟩)
 clear hD hI hT3 HMe2 HY hl hn hn90
 go_wp2_with fail
 refine cZm (HPr.out x3 (Tch.refl _ _)) ?_
 rintro e x4 ⟨A, c, rfl, ho, hT⟩
 have HT4 := lH hT
 have HO4 := lH (own_tch ho ((Tch.refl x4 []).alloc (.cells #[.bool a1_0, .int .u64 (ph : Int), .int .u64 (pl : Int), .int .i64 a1_3] 30)) (by simp))
 have HSr := lH (src_new x4 30 [.bool a1_0, .int .u64 (ph : Int), .int .u64 (pl : Int), .int .i64 a1_3])
 have HSf : Hid (n ≤ 1000000) := lH (by have := HN9.out; omega)
 have HSz : Hid (x3.heap.size ≤ (x4.alloc (.cells #[.bool a1_0, .int .u64 (ph : Int), .int .u64 (pl : Int), .int .i64 a1_3] 30)).heap.size) := lH (Nat.le_trans hT.size ((Tch.refl x4 []).alloc _).size)
 have HTa := lH (hT.alloc (.cells #[.bool a1_0, .int .u64 (ph : Int), .int .u64 (pl : Int), .int .i64 a1_3] 30))
 obtain ⟨y0, y1, y2, y3⟩ := (HZ3.out x4 hT).c4
 obtain ⟨m, hm⟩ : ∃ m, n + 1 = m := ⟨_, rfl⟩
 have HMn := lH hm
 clear ho hT hm
 go_wp2_with (at_builtin; (refine wpList_apc 40 30 (.agg #[.bool false, .int .u64 0, .int .u64 0, .int .i64 0]) 4 32 Tryz.underlying40 infoPf rfl (by decide) (by decide) _ rfl (.tmp 43) (.tmp 45) rfl x3.heap.size (.slice A n c) n (l.flatMap pfC) rfl HO4.out ⟨x4.heap.size, 0, none⟩ 1 [.bool a1_0, .int .u64 (ph : Int), .int .u64 (pl : Int), .int .i64 a1_3] rfl rfl (fun j u hj => HSr.out j u hj) (by simp [Value.oneCell']) HSf.out HSz.out ?_; intro v7 w7 hown hg hv; rw [HMn.out] at hown; obtain ⟨A7, c7, e7, -, -⟩ := own_sl hown; subst e7; have HO7 := lH hown; have HT7 := lH (HTa.out.trans_fre (Tch.of_grown' (S := obI (.slice A n c)) hg (fun k e => by rw [obI_some e]; simp)) (fun s hs => .inr (own_geI HO4.out s hs).1)); clear hown hg hv))
 obtain ⟨Lp, hLp⟩ : ∃ Lp, l ++ [((a1_0, ph, pl), a1_3)] = Lp := ⟨_, rfl⟩
 have HLl : Hid (Lp.length = m) := lH (by rw [← hLp, List.length_append, HN.out]; exact HMn.out)
 have HLo : Hid (∀ z ∈ Lp, PfOk z) := lH (fun z hz => by
  rw [← hLp] at hz
  rcases List.mem_append.1 hz with h1 | h1
  ·exact HOq.out z h1
  ·rw [List.mem_singleton.1 h1]; exact HPo.out)
 have HRow : Hid (∀ W, Tch w7 W [] → W.ownsRow x3.heap.size 30 4 (.slice A7 m c7) m (Lp.flatMap pfC)) := lH (fun W hW => own_tch (by rw [← hLp, List.flatMap_append]; exact HO7.out) hW (by simp))
 have HM9 : Hid (m ≤ 91) := lH (by have h1 := HN9.out; have h2 := HMn.out; omega)
 clear hLp y0 y1 y2 y3 HO4 HO7 HSr
 go_loopw [11] (fun iv wr => ∃ (i : Nat), iv = .int .i64 (i : Int) ∧ i ≤ m ∧ Hid (Tch w7 wr [])) (fun iv _ => m - (intOf iv).toNat)
 case atStart => exact ⟨0, rfl, Nat.zero_le _, lH (Tch.refl _ _)⟩
 case round =>
  obtain ⟨i, rfl, hi, hT⟩ := hrel
  have j1 : IntKind.i64.wrap ((i : Int) + 1) = (i : Int) + 1 := by have := HM9.out; rw [IntKind.wrap_i64]; omega
  have HT3 := lH (HT7.out.trans hT.out)
  by_cases him : i < m
  ·have iI : (i : Int) < (m : Int) := by omega
   have i0 : (0 : Int) ≤ (i : Int) := by omega
   obtain ⟨z, hz⟩ : ∃ z, Lp[i]? = some z := ⟨_, List.getElem?_eq_getElem (by rw [HLl.out]; exact him)⟩
   have hrow := HRow.out wr hT.out
   obtain ⟨g, rfl⟩ := slice_some hrow (by omega)
   have HZo := lH (HLo.out z (List.mem_of_getElem? hz))
   have HA := lH (fun W (hW : Tch wr W []) => HHr.out z HZo.out W (HT3.out.trans hW))
   have HBd := lH (fun W (hW : Tch wr W []) => HHd.out z W (HT3.out.trans hW))
   have HC := lH (fun W (hW : Tch wr W []) => HPr2.out z HZo.out W (HT3.out.trans hW))
   have HDd := lH (fun W (hW : Tch wr W []) => HPd2.out z W (HT3.out.trans hW))
   obtain ⟨⟨⟨ho, ⟨hs, hh, hl⟩, ha⟩, he⟩, hD⟩ : ∃ D, hopI L st z = D := ⟨_, rfl⟩
   rw [hD] at HA HBd
   obtain ⟨⟨xr, xe, ⟨xs, xh, xl⟩, xo, xw⟩, hx1⟩ : ∃ X, (pathI L st z).getD zeroX = X := ⟨_, rfl⟩
   obtain ⟨xi, hx2⟩ : ∃ X, (pathI L st z).isSome = X := ⟨_, rfl⟩
   unfold bestV at HC HDd
   rw [hx1, hx2] at HC HDd
   obtain ⟨⟨zs, zh, zl⟩, zb⟩ := z
   have HCc := lH (fun W (hW : Tch wr W []) => pf_cells (HRow.out W (hT.out.trans hW)) hz)
   obtain ⟨c0, c1, c2, c3⟩ := HCc.out wr (Tch.refl _ _)
   have EQ1 := eq_neq 43 _ _ (eq_hpR (ho, (hs, hh, hl), ha) (ho, (hs, hh, hl), ha) (decide_eq_true rfl))
   have EQ2 := eq_neq 49 _ _ (eq_paR (xr, xe, (xs, xh, xl), xo, xw) (xr, xe, (xs, xh, xl), xo, xw) (decide_eq_true rfl))
   simp only [Bool.not_true] at EQ1 EQ2
   have bh : (he != he) = false := by simp
   have bx : (xi != xi) = false := by simp
   clear hD hx1 hx2 hz hrow
   go_wp2_with fail
   refine cZm (HA.out wr (Tch.refl _ _)) ?_
   rintro e v1 ⟨rfl, hT1⟩
   obtain ⟨k1, hk1⟩ : ∃ k, v1.heap.size = k := ⟨_, rfl⟩
   obtain ⟨W1, hW1⟩ : ∃ W, (v1.alloc (.cells #[.int .i64 ho, .bool hs, .int .u64 (hh : Int), .int .u64 (hl : Int), .bool ha] 43)) = W := ⟨_, rfl⟩
   have HV1 : Hid (Blk W1 k1 43 #[.int .i64 ho, .bool hs, .int .u64 (hh : Int), .int .u64 (hl : Int), .bool ha]) := lH (hW1 ▸ hk1 ▸ Blk.new v1 _ _)
   have HS1 : Hid (Tch wr W1 []) := lH (hW1 ▸ hT1.alloc _)
   have HTr1 : Hid (Tch wr W1 []) := lH HS1.out
   have HW1 := lH (And.intro hW1 hk1)
   clear c0 c1 c2 c3 hT1 hW1 hk1
   obtain ⟨c0, c1, c2, c3⟩ := HCc.out W1 HTr1.out
   go_wp2_with (first | (rw [HW1.out.1, HW1.out.2]))
   refine cZm (HBd.out W1 HTr1.out) ?_
   rintro e v2 ⟨rfl, hT2⟩
   obtain ⟨k2, hk2⟩ : ∃ k, v2.heap.size = k := ⟨_, rfl⟩
   obtain ⟨W2, hW2⟩ : ∃ W, (v2.alloc (.cells #[.int .i64 ho, .bool hs, .int .u64 (hh : Int), .int .u64 (hl : Int), .bool ha] 43)) = W := ⟨_, rfl⟩
   have HV2 : Hid (Blk W2 k2 43 #[.int .i64 ho, .bool hs, .int .u64 (hh : Int), .int .u64 (hl : Int), .bool ha]) := lH (hW2 ▸ hk2 ▸ Blk.new v2 _ _)
   have HS2 : Hid (Tch W1 W2 []) := lH (hW2 ▸ hT2.alloc _)
   have HTr2 : Hid (Tch wr W2 []) := lH (HTr1.out.trans HS2.out)
   have HW2 := lH (And.intro hW2 hk2)
   clear c0 c1 c2 c3 hT2 hW2 hk2
   obtain ⟨c0, c1, c2, c3⟩ := HCc.out W2 HTr2.out
   go_wp2_with (first | (rw [HW2.out.1, HW2.out.2]))
   refine cZm (HC.out W2 HTr2.out) ?_
   rintro e v3 ⟨rfl, hT3⟩
   obtain ⟨k3, hk3⟩ : ∃ k, v3.heap.size = k := ⟨_, rfl⟩
   obtain ⟨W3, hW3⟩ : ∃ W, (v3.alloc (.cells #[.int .i64 xr, .int .i64 xe, .bool xs, .int .u64 (xh : Int), .int .u64 (xl : Int), .int .i64 xo, .bool xw] 49)) = W := ⟨_, rfl⟩
   have HV3 : Hid (Blk W3 k3 49 #[.int .i64 xr, .int .i64 xe, .bool xs, .int .u64 (xh : Int), .int .u64 (xl : Int), .int .i64 xo, .bool xw]) := lH (hW3 ▸ hk3 ▸ Blk.new v3 _ _)
   have HS3 : Hid (Tch W2 W3 []) := lH (hW3 ▸ hT3.alloc _)
   have HTr3 : Hid (Tch wr W3 []) := lH (HTr2.out.trans HS3.out)
   have HW3 := lH (And.intro hW3 hk3)
   clear c0 c1 c2 c3 hT3 hW3 hk3
   obtain ⟨c0, c1, c2, c3⟩ := HCc.out W3 HTr3.out
   go_wp2_with (first | (rw [HW3.out.1, HW3.out.2]))
   refine cZm (HDd.out W3 HTr3.out) ?_
   rintro e v4 ⟨rfl, hT4⟩
   obtain ⟨k4, hk4⟩ : ∃ k, v4.heap.size = k := ⟨_, rfl⟩
   obtain ⟨W4, hW4⟩ : ∃ W, (v4.alloc (.cells #[.int .i64 xr, .int .i64 xe, .bool xs, .int .u64 (xh : Int), .int .u64 (xl : Int), .int .i64 xo, .bool xw] 49)) = W := ⟨_, rfl⟩
   have HV4 : Hid (Blk W4 k4 49 #[.int .i64 xr, .int .i64 xe, .bool xs, .int .u64 (xh : Int), .int .u64 (xl : Int), .int .i64 xo, .bool xw]) := lH (hW4 ▸ hk4 ▸ Blk.new v4 _ _)
   have HS4 : Hid (Tch W3 W4 []) := lH (hW4 ▸ hT4.alloc _)
   have HTr4 : Hid (Tch wr W4 []) := lH (HTr3.out.trans HS4.out)
   have HW4 := lH (And.intro hW4 hk4)
   clear c0 c1 c2 c3 hT4 hW4 hk4
   obtain ⟨c0, c1, c2, c3⟩ := HCc.out W4 HTr4.out
   obtain ⟨d0, d1, d2, d3, d4⟩ := (((HS2.out.trans HS3.out).trans HS4.out).blk HV1.out (by simp)).h5
   obtain ⟨e0, e1, e2, e3, e4⟩ := ((HS3.out.trans HS4.out).blk HV2.out (by simp)).h5
   obtain ⟨f0, f1, f2, f3, f4, f5, f6⟩ := (HS4.out.blk HV3.out (by simp)).c7
   obtain ⟨g0, g1, g2, g3, g4, g5, g6⟩ := HV4.out.c7
   go_wp2_with (first | (rw [HW4.out.1, HW4.out.2]))
   go_roundw
   case rel => exact ⟨i + 1, by go_num, him, lH (hT.out.trans HTr4.out)⟩
   case measure => simp [intOf]; omega
  ·obtain rfl : i = m := by omega
   have iI : ¬ (i : Int) < (i : Int) := by omega
   obtain ⟨B, d, e1, -, hBl, -, -⟩ := (HD3.out wr HT3.out).1
   obtain ⟨nL, hnL⟩ : ∃ n, L.length = n := ⟨_, rfl⟩
   rw [hnL] at hBl HCo
   have HLc := lH (fun W (hW : Tch wr W []) => ((hW.blk hBl (by simp)).cell 0).trans (show _ = some (Value.slice B nL d) by rfl))
   have bq : ((nL : Int) == (nL : Int)) = true := by simp
   have HT0 : Hid (Tch wr wr.drew []) := lH (Tch.refl wr []).drew
   have HC0 := lH (HLc.out wr.drew HT0.out)
   clear him hi hBl hnL e1
   go_wp2
   refine wp_region_held_drew (S := (fun W => W.cell? ⟨q, 0, none⟩ = some (Value.slice B nL d))) (by kernel_rfl) ?_ (fun hHeld => ?_)
   ·(first | exact HC0.out | exact HC5.out | exact HC6.out | exact HC8.out | exact HC9.out)
   refine tkH 0 ?_
   refine tkH 2 ?_
   refine tkH 3 ?_
   refine tkH 4 ?_
   refine tkH 5 ?_
   refine tkH 6 ?_
   refine wpAnyH_ready (rs := [1]) (by kernel_rfl) (by simp) ?_
   refine AllReadyH.cons (o := { dst := some 112, op := Go.Op.call { callee := Go.Callee.value (Go.Operand.func 16), args := #[Go.Operand.tmp 111], argTypes := #[32] }, type := 3, pos := "law.go:101", after := #[{ on := 0, ground := Go.Ground.data }], guard := none }) rfl (fun K hK => ?_) AllReadyH.nil
   go_simp
   (go_at_call 16; (with_reducible refine cZm (HCo.out _ (HT3.out.trans HT0.out)) ?_); rintro e w5 ⟨rfl, hb⟩; have HT5 := lH (HT0.out.trans hb); have HC5 := lH (HLc.out w5 HT5.out); clear hb)
   go_wp2_with fail
   refine hK.out _ _ ?_ (fun hHeld => ?_)
   ·(first | exact HC0.out | exact HC5.out | exact HC6.out | exact HC8.out | exact HC9.out)
   clear hK K
   try simp only [Act.put, List.setIfInBounds_toArray, List.set_cons_zero, List.set_cons_succ]
   refine tkH 7 ?_
   refine tkH 8 ?_
   refine tkH 9 ?_
   refine tkH 11 ?_
   refine wpAnyH_ready (rs := [10]) (by kernel_rfl) (by simp) ?_
   refine AllReadyH.cons (o := { dst := some 121, op := Go.Op.call { callee := Go.Callee.value (Go.Operand.func 18), args := #[Go.Operand.tmp 120], argTypes := #[32] }, type := 40, pos := "law.go:101", after := #[{ on := 9, ground := Go.Ground.data }, { on := 8, ground := Go.Ground.chain }, { on := 8, ground := Go.Ground.guard }], guard := some (8, true) }) rfl (fun K hK => ?_) AllReadyH.nil
   go_simp
   (go_at_call 18; (with_reducible refine cZm (HPp.out _ (HT3.out.trans HT5.out)) ?_); rintro e w6 ⟨A6, d6, rfl, ho6, hb⟩; have HT6 := lH (HT5.out.trans hb); have HC6 := lH (HLc.out w6 HT6.out); have HO6 := lH (fun W (hW : Tch w6 W []) => own_zr (own_tch ho6 hW (by simp))); clear hb ho6)
   go_wp2_with fail
   refine hK.out _ _ ?_ (fun hHeld => ?_)
   ·(first | exact HC0.out | exact HC5.out | exact HC6.out | exact HC8.out | exact HC9.out)
   clear hK K
   try simp only [Act.put, List.setIfInBounds_toArray, List.set_cons_zero, List.set_cons_succ]
   refine wpAnyH_ready (rs := [12]) (by kernel_rfl) (by simp) ?_
   refine AllReadyH.cons (o := { dst := some 123, op := Go.Op.call { callee := Go.Callee.value (Go.Operand.func 11), args := #[Go.Operand.tmp 122], argTypes := #[36] }, type := 40, pos := "law.go:101", after := #[{ on := 11, ground := Go.Ground.data }, { on := 10, ground := Go.Ground.chain }, { on := 8, ground := Go.Ground.guard }], guard := some (8, true) }) rfl (fun K hK => ?_) AllReadyH.nil
   go_simp
   (go_at_call 11; (with_reducible refine cZm (HPr.out _ (HT3.out.trans HT6.out)) ?_); rintro e w8 ⟨A8, d8, rfl, ho8, hb⟩; have HT8 := lH (HT6.out.trans hb); have HC8 := lH (HLc.out w8 HT8.out); have HO8 := lH (own_zr ho8); have HO7 := lH (HO6.out w8 hb); clear hb ho8)
   go_wp2_with fail
   refine hK.out _ _ ?_ (fun hHeld => ?_)
   ·(first | exact HC0.out | exact HC5.out | exact HC6.out | exact HC8.out | exact HC9.out)
   clear hK K
   try simp only [Act.put, List.setIfInBounds_toArray, List.set_cons_zero, List.set_cons_succ]
   refine wpAnyH_ready (rs := [13]) (by kernel_rfl) (by simp) ?_
   refine AllReadyH.cons (o := { dst := some 124, op := Go.Op.call { callee := Go.Callee.value (Go.Operand.func 17), args := #[Go.Operand.tmp 121, Go.Operand.tmp 123], argTypes := #[40, 40] }, type := 4, pos := "law.go:101", after := #[{ on := 10, ground := Go.Ground.data }, { on := 12, ground := Go.Ground.data }, { on := 12, ground := Go.Ground.chain }, { on := 8, ground := Go.Ground.guard }], guard := some (8, true) }) rfl (fun K hK => ?_) AllReadyH.nil
   go_simp
   (go_at_call 17; (with_reducible refine cZm (same_pf A6 A8 n d6 d8 l HN.out (by have := HN9.out; omega) w8 HO7.out HO8.out) ?_); rintro e w9 ⟨rfl, hb⟩; have HT9 := lH (HT8.out.trans hb); have HC9 := lH (HLc.out w9 HT9.out); clear hb)
   go_wp2_with fail
   refine hK.out _ _ ?_ (fun hHeld => ?_)
   ·(first | exact HC0.out | exact HC5.out | exact HC6.out | exact HC8.out | exact HC9.out)
   clear hK K
   try simp only [Act.put, List.setIfInBounds_toArray, List.set_cons_zero, List.set_cons_succ]
   refine tkH 14 ?_
   refine tkH 15 ?_
   refine wpAnyH_done (by kernel_rfl) ?_ _
   go_wp2
   have HEb := lH (HB3.out.trans ((HT3.out.trans HT9.out).below HB3.out.size (by simp)))
   go_ret
   exact ⟨by simp, HEb.out⟩
theorem contract (H : Type) (enc : TypeId × Value → H) (W : World) (base : Nat) (args : Array Value) (ds gs : List (DataW H)) (before : List MemPlace)
  (hval0 : ∀ (j : Nat) t v, Tryz.f3.params[j]? = some t → args[j]? = some v → Value.okWide Tryz.prog W .any base t v)
  (hW : DataW.Whole enc Tryz.prog Tryz.f3.params.toList Rows.resolveHopsSpec.vars false W args.toList ds gs before)
  (hsz0 : (DataW.weightsEach Tryz.prog (Tryz.f3.params.toList ++ Rows.resolveHopsSpec.plain.varTypes Tryz.prog) (ds ++ gs)).all (· ≤ reachBytes) = true) (hE : EnvR W) :
  Calls Tryz.prog 3 args W fun e W' => ∃ v, e = .returned v ∧ Rows.resolveHopsSpec.post enc Tryz.prog Tryz.f3 false true false false W args v W' := by
 have hsz := hsz0
 clear hsz0
 have hval := hval0
 clear hval0
 have hW' := hW
 obtain ⟨p, q, hA0, hV, rfl, hfz, hnd⟩ := hW
 have hA : DataW.TrodAll enc Tryz.prog W 0 (fun _ => true) true Tryz.f3.params.toList args.toList ds p := hA0
 rw [Tryz.params3] at hA hval hsz
 obtain ⟨v0, vs0, d0, ds0, p0, q0, hargs, rfl, rfl, h0, r0⟩ := trodAll_cons hA
 obtain ⟨v1, vs1, d1, ds1, p1, q1, rfl, rfl, rfl, h1, r1⟩ := trodAll_cons r0
 obtain ⟨rfl, rfl, rfl⟩ := trodAll_nil r1
 obtain rfl : args = #[v0, v1] := by cases args; simp_all
 obtain ⟨rfl, rfl⟩ := trodVars_none hV
 have k0 := h0
 have lt0 : ∀ x ∈ p0, x.block < W.heap.size := by obtain ⟨m, hm⟩ := k0; exact DataW.trod_lt m _ _ _ hm
 obtain ⟨a0, b0, l0, c0, m0, d0_, z0, y0, rfl, w0, x0⟩ := open_world (hval 0 25 v0 rfl rfl) h0
 have k1 := h1
 have lt1 : ∀ x ∈ p1, x.block < W.heap.size := by obtain ⟨m, hm⟩ := k1; exact DataW.trod_lt m _ _ _ hm
 obtain ⟨a1_0, a1_1, a1_2, a1_3, rfl, w1_1, w1_2, w1_3, ep1⟩ := open_pfx (hval 1 30 v1 rfl rfl) h1
 clear hA0
 refine (walk W hE a0 b0 l0 c0 m0 d0_ z0 y0 w0 x0 a1_0 a1_1 w1_1 a1_2 w1_2 a1_3 w1_3).mono fun e W' ⟨he, bel⟩ => ?_
 subst he
 exact ⟨_, rfl, _, _, _, [], _, [], hW', trodAll_mk1 (shut_bool Tryz.underlying4 _), (trodAll_cons_mk (Below.trod laidOut (by kernel_rfl) (of_decide_eq_true (by kernel_rfl)) k0 bel lt0) (trodAll_cons_mk (Below.trod laidOut (by kernel_rfl) (of_decide_eq_true (by kernel_rfl)) k1 bel lt1) trodAll_mk0)), rfl, bel.frame _, fun h => by cases h⟩

theorem laid_met (os : Os) (args : Array Value) : laidMet Tryz.prog Rows.resolveHopsRow.laid ((World.laidAll Tryz.prog os Rows.resolveHopsRow.laid).forCall (fun _ _ => 0) ⟨#[], args, []⟩).memory :=
 laidMet_laidAll _ (by kernel_rfl) (by kernel_rfl)
theorem pre_row (os : Os) {H : Type} (enc : TypeId × Value → H) :
  (OpenSpec.ofChange Rows.resolveHopsSpec).preRow enc Tryz.prog Tryz.f3 Rows.resolveHopsRow.domain false Rows.resolveHopsRow.laid ((World.laidAll Tryz.prog os Rows.resolveHopsRow.laid).forCall (fun _ _ => 0) ⟨#[], #[.agg #[.slice none 0 0, .slice none 0 0], .agg #[.bool false, .int .u64 0, .int .u64 0, .int .i64 0]], []⟩).memory #[.agg #[.slice none 0 0, .slice none 0 0], .agg #[.bool false, .int .u64 0, .int .u64 0, .int .i64 0]] := by
 exact ⟨⟨ChangeSpec.pre_of_preB (fuel := 8) (by kernel_rfl), by rw [MakeChecks.laidMetH_plain _ _ _ (by kernel_rfl)]; exact laid_met os _⟩, sizedMet_of_sizedB (fuel := 8) (by kernel_rfl)⟩
theorem lifted (os : Os) (started : os.Started) (H : Type) (enc : TypeId × Value → H) (F : Stop.Interp) :
  ReturnsInHanded {} Tryz.checked os 3 .any ((OpenSpec.ofChange Rows.resolveHopsSpec).preRow enc Tryz.prog Tryz.f3 Rows.resolveHopsRow.domain false Rows.resolveHopsRow.laid) (((OpenSpec.ofChange Rows.resolveHopsSpec).at F).post enc Tryz.prog Tryz.f3 false true false false) := by
 refine returnsInHanded_of_row (C := Tryz.checked) (s := (OpenSpec.ofChange Rows.resolveHopsSpec)) own started (by kernel_rfl) Tryz.func3
  ⟨World.laidAll Tryz.prog os Rows.resolveHopsRow.laid, fun _ _ => 0, ⟨#[], #[.agg #[.slice none 0 0, .slice none 0 0], .agg #[.bool false, .int .u64 0, .int .u64 0, .int .i64 0]], []⟩, World.laidAll_os _ _ _, World.shaped_of_ZipB (by kernel_rfl) (by kernel_rfl), rfl, (Input.okWide_of_okWideB (by kernel_rfl)).2, pre_row os enc, (by simp only [Assume.holds]; exact ⟨by simp, by simp, fun _ => Modest.zero, by simp, by simp⟩)⟩ ?_
 intro W base args ds gs before hval hW _ hcond hsz hL hsh _
 rw [MakeChecks.laidMetH_plain _ _ _ (by kernel_rfl)] at hL
 exact contract H enc W base args ds gs before hval hW hsz (envR_of hL)

theorem over : Rows.resolveHopsRow.holds Tryz.pinned (OpenSpec.ofChange Rows.resolveHopsSpec) :=
 OpenClaim.holds_of_cond 3 Tryz.f3 rfl rfl rfl rfl rfl rfl rfl ⟨rfl, rfl, rfl, rfl, rfl⟩ rfl rfl rfl rfl rfl (by kernel_rfl) Tryz.func3 (by kernel_rfl)
  (of_decide_eq_true (by kernel_rfl)) (by unfold Func.isWrapper; first | (rw [if_pos (by decide +kernel)]; kernel_rfl) | (rw [if_neg (by decide +kernel)]; exact ⟨rfl, rfl⟩))
  (fun os started H enc _ F => by rw [OpenClaim.pre_eq_preRow]; exact lifted os started H enc F)

theorem proved : Rows.ResolveHopsCardSaid :=
 Claim7.holds_tied_plain_at .later [] Rows.resolveHopsCard.laidKinds true Rows.resolveHopsCard.stood.harness Rows.resolveHopsCard.stood.looks over (fun _ h => by cases h) (by kernel_rfl) (fun _ h => by cases h) resolveHops_row_tie rfl ⟨rfl, rfl⟩ (by kernel_rfl) rfl
  (fun f fn hf hfn => by
   obtain rfl : f = 3 := Option.some.inj ((show Tryz.prog.funcNamed Rows.resolveHopsRow.func = some 3 by kernel_rfl).symm.trans hf) |>.symm
   obtain rfl : fn = Tryz.f3 := (Option.some.inj (Tryz.func3.symm.trans hfn)).symm
   exact ⟨by kernel_rfl, fun j t ht => by
    rw [Tryz.params3] at ht
    have hm : t ∈ [25, 30] := by simpa using Array.mem_of_getElem? ht
    have hall : ([25, 30].all fun u => !Tryz.prog.wantsStandIn u) = true := by kernel_rfl
    exact (show Tryz.prog.wantsStandIn t = false by simpa using List.all_eq_true.1 hall t hm)⟩)
  (by kernel_rfl)
#print axioms proved
end VHp
end Go.Proofs.YtgfkmgbcajdcdaaGreatDoor
