/-
  crosswaylaw13.EpochPlays returns true for every input, and leaves its arguments alone.
  Conditions: none of our own.
-/
import Derived.Test.YtakeodnebegbhaaEpT
namespace Go.Proofs.Ytakeodnebegbhaa
open Go.ChangeShapes Go.WideShapes Go.ChangeAt Go.RowKit
set_option linter.unusedVariables false
namespace EPly
set_option maxRecDepth 100000 in
set_option maxHeartbeats 4000000 in
theorem walk (w : World) (a0 : Int) (w0 : (Lit.int .i64 a0).wf = true) (a1 : Int) (w1 : (Lit.int .i64 a1).wf = true) (a2 : Option Addr) (l2 c2 : Nat) (z2 : List Stp) (w2 : IsStp w a2 l2 z2) :
    Calls Try.prog 3 #[.int .i64 a0, .int .i64 a1, .slice a2 l2 c2] w fun e w' => e = .returned (.bool true) ∧ Below w.heap.size w w' := by
  have HZ := Lib.hid w2
  clear w0 w1 w2
  go_enter Try.func3, Try.ntmps3
  go_wp2_with fail
  refine Calls.mono (awake_yes w) ?_
  rintro e x1 ⟨rfl, hb1⟩
  have B1 := Lib.hid hb1
  clear hb1
  by_cases hO : a0 < 1 ∨ 16 < a0
  · have HN1 := Lib.hid (newP_bad a0 a1 hO x1)
    have HN2 := Lib.hid (fun W => newD_bad a0 a1 hO W)
    clear hO
    go_wp2_with fail
    refine Calls.mono HN1.out ?_
    rintro e x2 ⟨rfl, hT⟩
    have B2 := Lib.hid (B1.out.trans (hT.below B1.out.size (by simp)))
    have HN3 := Lib.hid (HN2.out x2)
    clear hT HN1 HN2
    go_wp2_with fail
    refine Calls.mono HN3.out ?_
    rintro e x3 ⟨rfl, hT⟩
    have B3 := Lib.hid (B2.out.trans (hT.below B2.out.size (by simp)))
    clear hT HN3
    go_wp2
    go_loop [12] (fun iv => iv = .int .i64 0) (fun _ => 0)
    case atStart => exact rfl
    case round =>
      subst hrel
      go_wp2
      go_ret
      exact ⟨rfl, B3.out⟩
  · obtain ⟨O, rfl⟩ : ∃ O : Nat, a0 = (O : Int) := ⟨a0.toNat, by omega⟩
    have HN1 := Lib.hid (newP_ok O a1 (by omega) (by omega) x1)
    have HN2 := Lib.hid (fun W => newD_ok O a1 (by omega) (by omega) W)
    clear hO
    go_wp2_with fail
    refine Calls.mono HN1.out ?_
    rintro e x2 ⟨r, S1, rfl, hE2, hb2, hs2⟩
    have HE2 := Lib.hid (And.intro hE2 (And.intro (B1.out.trans (hb2.mono B1.out.size)) (fun s hs => Nat.le_trans B1.out.size (hs2 s hs))))
    have HN3 := Lib.hid (HN2.out x2)
    clear hE2 hb2 hs2 HN1 HN2
    go_wp2_with fail
    refine Calls.mono HN3.out ?_
    rintro e x3 ⟨d, S2, rfl, hE3, hb3, hs3⟩
    have T0 : Hid (Two w x3 r S1 d S2 [a1] (List.replicate O (-1)) [a1] (List.replicate O (-1))) := Lib.hid ⟨HE2.out.1.tch (Tch.of_below [] hb3) (by simp), hE3, HE2.out.2.1.trans (hb3.mono HE2.out.2.1.size), HE2.out.2.2, fun s hs => Nat.le_trans HE2.out.2.1.size (hs3 s hs), fun s hs hm => by have := HE2.out.1.lt s hs; have := hs3 s hm; omega⟩
    clear hE3 hb3 hs3 HN3 HE2
    go_wp2
    go_loopw [6, 12] (fun fv iv wr => ∃ (j : Nat) (S1 S2 : List Nat) (al ins : List Int), fv = .bool false ∧ iv = .int .i64 (j : Int) ∧ j ≤ l2 ∧ j ≤ 200 ∧ Hid (al.length ≤ j + 1) ∧ Hid (Two w wr r S1 d S2 al ins al ins)) (fun _ iv _ => 200 - (intOf iv).toNat)
    case atStart => exact ⟨0, S1, S2, _, _, rfl, rfl, Nat.zero_le _, by omega, Lib.hid (by simp), T0⟩
    case round =>
      obtain ⟨j, S1, S2, al, ins, rfl, rfl, hj, hj2, hA, hT⟩ := hrel
      obtain ⟨wo, hwo⟩ : ∃ x, x = wr := ⟨_, rfl⟩
      subst hwo
      by_cases hlt : j < l2 ∧ j < 200
      · obtain ⟨h1, h2⟩ := hlt
        obtain ⟨g, o, q1, q2, rfl, hg, -, c0, c1, -, -⟩ := HZ.out.cells hT.out.bel h1
        have hjI : (j : Int) < l2 := by omega
        have hjI2 : (j : Int) < 200 := by omega
        have hj0 : (0 : Int) ≤ j := by omega
        have j3 : IntKind.i64.wrap ((j : Int) + 1) = (j : Int) + 1 := by rw [IntKind.wrap_i64]; omega
        have k3 := i64_and3 q1
        have hm3 : 0 ≤ q1 % 4 ∧ q1 % 4 < 4 := by omega
        obtain ⟨kd, hkd⟩ : ∃ kd, q1 % 4 = kd := ⟨_, rfl⟩
        rw [hkd] at k3 hm3
        have HLn : Hid (al.length ≤ 90000) := Lib.hid (by have := hA.out; omega)
        have HJ : Hid (j < 200) := Lib.hid h2
        obtain ⟨xb, hxb⟩ : ∃ xb, wo.heap.size = xb := ⟨_, rfl⟩
        obtain ⟨w3, hw⟩ : ∃ x, wo.alloc (.cells #[.int .i64 q1, .int .i64 q2] 32) = x := ⟨_, rfl⟩
        have T3 := Lib.hid (hT.out.far (T := []) (hw ▸ (Tch.refl wo []).alloc (.cells #[.int .i64 q1, .int .i64 q2] 32)) (by simp))
        have HX3 : Hid (Blk w3 xb 32 #[.int .i64 q1, .int .i64 q2]) := Lib.hid (hw ▸ hxb ▸ Blk.new _ _ _)
        have HXn : Hid (xb ∉ S1 ∧ xb ∉ S2) := Lib.hid ⟨fun hm => by have := hT.out.ep.lt xb hm; omega, fun hm => by have := hT.out.ed.lt xb hm; omega⟩
        have HW3 := Lib.hid (And.intro hw hxb)
        clear hkd hg hw hxb hT
        by_cases kd0 : kd = 0
        · subst kd0
          have b0 : ((0 : Int) == 0) = true := by decide
          have HP := pubP r S1 al ins q2 HLn.out w3 T3.out.ep
          have HD := Lib.hid (fun W h => pubD d S2 al ins q2 HLn.out W h)
          obtain ⟨xs, hxs⟩ : ∃ xs, pubV al ins q2 = xs := ⟨_, rfl⟩
          obtain ⟨n, hn⟩ : ∃ n, xs.length = n := ⟨_, rfl⟩
          have hn9 : n ≤ 100000 := by rw [← hn, ← hxs]; unfold pubV; have := HLn.out; have h9 := lowE_le (al ++ [q2]) ins; have h8 : (al ++ [q2]).length = al.length + 1 := (by simp); rw [bkE_len (by omega)]; omega
          have HM := Lib.hid hn
          rw [hxs, hn] at HP HD
          have HP := Lib.hid HP
          clear hxs hn
          go_wp2_with fail
          rw [HW3.out.1, HW3.out.2]
          refine Calls.mono HP.out ?_
          rintro e w4 ⟨A4, c4, S14, rfl, hN4, hE4, hG4⟩
          have T4 := Lib.hid (T3.out.goP hE4 hG4)
          have e2 : w4.cell? ⟨xb, 1, none⟩ = some (.int .i64 q2) := (hG4.tch.cell (p := ⟨xb, 1, none⟩) HX3.out.lt HXn.out.1).trans ((HX3.out.cell 1).trans rfl)
          have K4 := Lib.hid (hN4.kp (S2 := S2) HM.out T3.out.ed.lt T3.out.bel.size)
          have HDd := Lib.hid (HD.out w4 T4.out.ed)
          clear hN4 hE4 hG4 HP HD T3
          go_wp2_with fail
          refine Calls.mono HDd.out ?_
          rintro e w5 ⟨A5, c5, S25, rfl, hN5, hE5, hG5⟩
          have T5 := Lib.hid (T4.out.goD hE5 hG5)
          have K5 := Lib.hid (K4.out.go hG5.inr)
          have Kd := Lib.hid (hN5.kpD (S1 := S14) HM.out T4.out.ep.lt T4.out.bel.size)
          have HSm := Lib.hid (ret_as (v' := .bool true) (same_any A4 A5 n n c4 c5 xs xs (by omega) (by omega) w5 K5.out.sl Kd.out.sl) (congrArg Value.bool (decide_eq_true rfl)))
          clear hN5 hE5 hG5 HDd T4 K4 e2
          go_wp2_with fail
          refine Calls.mono HSm.out ?_
          rintro e wX ⟨rfl, hTX⟩
          have TX := Lib.hid (T5.out.far hTX (by simp))
          have KX := Lib.hid (K5.out.tch0 hTX)
          clear hTX HSm T5 K5 Kd
          obtain ⟨S3, hS3⟩ : ∃ S, S = S14 := ⟨_, rfl⟩
          obtain ⟨S4, hS4⟩ : ∃ S, S = S25 := ⟨_, rfl⟩
          obtain ⟨al3, hal3⟩ : ∃ l, l = al ++ [q2] := ⟨_, rfl⟩
          obtain ⟨in3, hin3⟩ : ∃ l, l = ins := ⟨_, rfl⟩
          rw [← hS3, ← hS4, ← hin3, ← hal3] at TX
          rw [← hS3, ← hS4] at KX
          have HA3 : Hid (al3.length ≤ j + 2) := Lib.hid (by rw [hal3]; have := hA.out; simp; omega)
          clear hS3 hS4 hal3 hin3 hA
          go_wp2
          go_loopw [16] (fun kv wr => ∃ (k : Nat) (ys : List Int), kv = .int .i64 (k : Int) ∧ k ≤ n ∧ Hid (Kp wr w.heap.size (S3 ++ S4) A4 c4 n ys) ∧ Hid (Two w wr r S3 d S4 al3 in3 al3 in3)) (fun kv _ => n - (intOf kv).toNat)
          case atStart => exact ⟨0, _, rfl, Nat.zero_le _, KX, TX⟩
          case round =>
            obtain ⟨k, ys, rfl, hk, hK, hTr⟩ := hrel
            by_cases hkn : k < n
            · have i1 : (k : Int) < (n : Int) := by omega
              have i0 : (0 : Int) ≤ (k : Int) := by omega
              have i2 : IntKind.i64.wrap ((k : Int) + 1) = (k : Int) + 1 := by rw [IntKind.wrap_i64]; omega
              obtain ⟨gx, ex, hgx, -⟩ := hK.out.blk (by omega)
              subst ex
              obtain ⟨z, hz⟩ : ∃ z, ys[k]? = some z := ⟨_, List.getElem?_eq_getElem (by rw [hK.out.len]; exact hkn)⟩
              have cx := own_cell hK.out.own (ints_at hz)
              have fx := own_frozen hK.out.own k
              have HK2 := Lib.hid (hK.out.set_ rfl hkn (-77))
              have HNn := Lib.hid (hK.out.non gx rfl)
              have HT2 := Lib.hid (hTr.out.far (T := [gx]) ((Tch.refl wr [gx]).set_ (p := ⟨gx, k, none⟩) (by simp) (.int .i64 (-77))) (fun s hs => by
                rw [List.mem_singleton.1 hs]
                have h9 := HNn.out
                simp only [List.mem_append, not_or] at h9
                exact ⟨h9.1, h9.2, hgx⟩))
              clear hz hgx hK hTr
              go_wp2
              go_roundw
              case rel => exact ⟨k + 1, _, by go_num, hkn, HK2, HT2⟩
              case measure => simp [intOf]; omega
            · obtain rfl : k = n := by omega
              have i1 : ¬ (k : Int) < (k : Int) := by omega
              clear hkn hk hK
              obtain ⟨wX2, hwX⟩ : ∃ x, x = wr := ⟨_, rfl⟩
              subst hwX
              have TX := hTr
              have HLn3 : Hid (al3.length ≤ 90000) := Lib.hid (by have := HA3.out; have := HJ.out; omega)
              obtain ⟨ws, hws⟩ : ∃ ws, wtE al3 in3 = ws := ⟨_, rfl⟩
              obtain ⟨m, hm⟩ : ∃ m, ws.length = m := ⟨_, rfl⟩
              obtain ⟨cu, hcu⟩ : ∃ cu, curE al3 = cu := ⟨_, rfl⟩
              have hm9 : m ≤ 100000 := by rw [← hm, ← hws]; have := HLn3.out; have h9 := bkE_len (all := al3) (lo := lowE al3 in3) (hi := al3.length - 1) (by omega); show (bkE al3 (lowE al3 in3) (al3.length - 1)).length ≤ 100000; omega
              have HM := Lib.hid hm
              have HW1 := waitP r S3 al3 in3 HLn3.out wX2 TX.out.ep
              have HW2 := Lib.hid (fun W h => waitD d S4 al3 in3 HLn3.out W h)
              have HC1 := Lib.hid (fun W h => curP r S3 al3 in3 HLn3.out W h)
              have HC2 := Lib.hid (fun W h => curD d S4 al3 in3 HLn3.out W h)
              rw [hws, hm] at HW1 HW2
              rw [hcu] at HC1 HC2
              have HW1 := Lib.hid HW1
              have bc : (cu != cu) = false := by simp
              clear hws hcu
              go_wp2_with fail
              refine Calls.mono HW1.out ?_
              rintro e w7 ⟨A7, c7, rfl, hN7, hE7, hT7⟩
              have T7 := Lib.hid (TX.out.goP hE7 (Goes.of_tch hT7))
              have K7 := Lib.hid (hN7.kp (S2 := S4) HM.out TX.out.ed.lt TX.out.bel.size)
              have HCc := Lib.hid (HC1.out w7 T7.out.ep)
              clear hN7 hE7 hT7 HW1 TX HC1
              go_wp2_with fail
              refine Calls.mono HCc.out ?_
              rintro e w8 ⟨rfl, hE8, hT8⟩
              have T8 := Lib.hid (T7.out.goP hE8 (Goes.of_tch hT8))
              have K8 := Lib.hid (K7.out.go (Goes.of_tch hT8).inl)
              have HCd := Lib.hid (HC2.out w8 T8.out.ed)
              clear hE8 hT8 HCc T7 K7 HC2
              go_wp2_with fail
              refine Calls.mono HCd.out ?_
              rintro e w9 ⟨rfl, hE9, hT9⟩
              have T9 := Lib.hid (T8.out.goD hE9 (Goes.of_tch hT9))
              have K9 := Lib.hid (K8.out.go (Goes.of_tch hT9).inr)
              have HWd := Lib.hid (HW2.out w9 T9.out.ed)
              clear hE9 hT9 HCd T8 K8 HW2
              go_wp2_with fail
              refine Calls.mono HWd.out ?_
              rintro e wa ⟨Aa, ca, rfl, hNa, hEa, hTa⟩
              have Ta := Lib.hid (T9.out.goD hEa (Goes.of_tch hTa))
              have Ka := Lib.hid (K9.out.go (Goes.of_tch hTa).inr)
              have Kd := Lib.hid (hNa.kpD (S1 := S3) HM.out T9.out.ep.lt T9.out.bel.size)
              have HSm := Lib.hid (ret_as (v' := .bool true) (same_any A7 Aa m m c7 ca ws ws (by omega) (by omega) wa Ka.out.sl Kd.out.sl) (congrArg Value.bool (decide_eq_true rfl)))
              clear hNa hEa hTa HWd T9 K9 hm
              go_wp2_with fail
              refine Calls.mono HSm.out ?_
              rintro e wb ⟨rfl, hTb⟩
              have TX := Lib.hid (Ta.out.far hTb (by simp))
              have KX := Lib.hid (Ka.out.tch0 hTb)
              clear hTb HSm Ta Ka Kd
              go_wp2
              go_loopw [26] (fun kv wr => ∃ (k : Nat) (ys : List Int), kv = .int .i64 (k : Int) ∧ k ≤ m ∧ Hid (Kp wr w.heap.size (S3 ++ S4) A7 c7 m ys) ∧ Hid (Two w wr r S3 d S4 al3 in3 al3 in3)) (fun kv _ => m - (intOf kv).toNat)
              case atStart => exact ⟨0, _, rfl, Nat.zero_le _, KX, TX⟩
              case round =>
                obtain ⟨k, ys, rfl, hk, hK, hTr⟩ := hrel
                by_cases hkn : k < m
                · have i1 : (k : Int) < (m : Int) := by omega
                  have i0 : (0 : Int) ≤ (k : Int) := by omega
                  have i2 : IntKind.i64.wrap ((k : Int) + 1) = (k : Int) + 1 := by rw [IntKind.wrap_i64]; omega
                  obtain ⟨gx, ex, hgx, -⟩ := hK.out.blk (by omega)
                  subst ex
                  obtain ⟨z, hz⟩ : ∃ z, ys[k]? = some z := ⟨_, List.getElem?_eq_getElem (by rw [hK.out.len]; exact hkn)⟩
                  have cx := own_cell hK.out.own (ints_at hz)
                  have fx := own_frozen hK.out.own k
                  have HK2 := Lib.hid (hK.out.set_ rfl hkn (-77))
                  have HNn := Lib.hid (hK.out.non gx rfl)
                  have HT2 := Lib.hid (hTr.out.far (T := [gx]) ((Tch.refl wr [gx]).set_ (p := ⟨gx, k, none⟩) (by simp) (.int .i64 (-77))) (fun s hs => by
                    rw [List.mem_singleton.1 hs]
                    have h9 := HNn.out
                    simp only [List.mem_append, not_or] at h9
                    exact ⟨h9.1, h9.2, hgx⟩))
                  clear hz hgx hK hTr
                  go_wp2
                  go_roundw
                  case rel => exact ⟨k + 1, _, by go_num, hkn, HK2, HT2⟩
                  case measure => simp [intOf]; omega
                · obtain rfl : k = m := by omega
                  have i1 : ¬ (k : Int) < (k : Int) := by omega
                  clear hkn hk hK
                  obtain ⟨wY, hwY⟩ : ∃ x, x = wr := ⟨_, rfl⟩
                  subst hwY
                  go_wp2
                  go_loopw [6, 27] (fun fv rv wr => ∃ p : Nat, fv = .bool false ∧ rv = .int .i64 (p : Int) ∧ p ≤ 18 ∧ Hid (Two w wr r S3 d S4 al3 in3 al3 in3)) (fun _ rv _ => 18 - (intOf rv).toNat)
                  case atStart => exact ⟨0, rfl, rfl, Nat.zero_le _, hTr⟩
                  case round =>
                    obtain ⟨p, rfl, rfl, hp, hTp⟩ := hrel
                    by_cases hpR : p < 18
                    · have i1 : (p : Int) < 18 := by omega
                      have p2 : IntKind.i64.wrap ((p : Int) + 1) = (p : Int) + 1 := by rw [IntKind.wrap_i64]; omega
                      obtain ⟨v, hv⟩ : ∃ v, seeV al3 in3 (p : Int) = v := ⟨_, rfl⟩
                      obtain ⟨b, hb⟩ : ∃ b, inE in3 (p : Int) = b := ⟨_, rfl⟩
                      have HS := seeP r S3 al3 in3 (p : Int) HLn3.out wr hTp.out.ep
                      have HSd := Lib.hid (fun W h => seeD d S4 al3 in3 (p : Int) HLn3.out W h)
                      rw [hv, hb] at HS HSd
                      have HS := Lib.hid HS
                      have vv : (v != v) = false := by simp
                      have bb : (b != b) = false := by simp
                      clear hv hb
                      go_wp2_with fail
                      refine Calls.mono HS.out ?_
                      rintro e wa ⟨rfl, hEa, hTa⟩
                      have Ta := Lib.hid (hTp.out.goP hEa (Goes.of_tch hTa))
                      have HSd2 := Lib.hid (HSd.out wa Ta.out.ed)
                      clear hEa hTa HS HSd
                      go_wp2_with fail
                      refine Calls.mono HSd2.out ?_
                      rintro e wb ⟨rfl, hEb, hTb⟩
                      have Tb := Lib.hid (Ta.out.goD hEb (Goes.of_tch hTb))
                      clear hEb hTb HSd2
                      go_wp2
                      go_roundw
                      case rel => exact ⟨p + 1, rfl, by go_num, hpR, Tb⟩
                      case measure => simp [intOf]; omega
                    · obtain rfl : p = 18 := by omega
                      have i1 : ¬ ((18 : Nat) : Int) < 18 := by omega
                      clear hpR hp
                      go_wp2
                      go_roundw
                      case rel => exact ⟨j + 1, S3, S4, al3, in3, rfl, by go_num, h1, h2, Lib.hid (by have := HA3.out; omega), hTp⟩
                      case measure => simp [intOf]; omega
        · by_cases kd1 : kd = 1
          · subst kd1
            have b0 : ((1 : Int) == 0) = false := by decide
            have b1 : ((1 : Int) == 1) = true := by decide
            have HP := entP r S1 al ins q2 HLn.out w3 T3.out.ep
            have HD := Lib.hid (fun W h => entD d S2 al ins q2 HLn.out W h)
            obtain ⟨ev, hev⟩ : ∃ v, entV al ins q2 = v := ⟨_, rfl⟩
            obtain ⟨en, hen⟩ : ∃ v, entN ins q2 = v := ⟨_, rfl⟩
            rw [hev, hen] at HP HD
            have HP := Lib.hid HP
            have vv : (ev != ev) = false := by simp
            have nn : (en != en) = false := by simp
            clear hev hen
            go_wp2_with fail
            rw [HW3.out.1, HW3.out.2]
            refine Calls.mono HP.out ?_
            rintro e w4 ⟨S14, rfl, hE4, hG4⟩
            have T4 := Lib.hid (T3.out.goP hE4 hG4)
            have e2 : w4.cell? ⟨xb, 1, none⟩ = some (.int .i64 q2) := (hG4.tch.cell (p := ⟨xb, 1, none⟩) HX3.out.lt HXn.out.1).trans ((HX3.out.cell 1).trans rfl)
            skip
            have HDd := Lib.hid (HD.out w4 T4.out.ed)
            clear hE4 hG4 HP HD T3
            go_wp2_with fail
            refine Calls.mono HDd.out ?_
            rintro e w5 ⟨S25, rfl, hE5, hG5⟩
            have T5 := Lib.hid (T4.out.goD hE5 hG5)
            clear hE5 hG5 HDd T4 e2
            obtain ⟨wX, hwX⟩ : ∃ x, x = w5 := ⟨_, rfl⟩
            subst hwX
            have TX := T5
            obtain ⟨S3, hS3⟩ : ∃ S, S = S14 := ⟨_, rfl⟩
            obtain ⟨S4, hS4⟩ : ∃ S, S = S25 := ⟨_, rfl⟩
            obtain ⟨al3, hal3⟩ : ∃ l, l = al := ⟨_, rfl⟩
            obtain ⟨in3, hin3⟩ : ∃ l, l = entI al ins q2 := ⟨_, rfl⟩
            rw [← hS3, ← hS4, ← hin3, ← hal3] at TX
            have HA3 : Hid (al3.length ≤ j + 2) := Lib.hid (by rw [hal3]; have := hA.out; omega)
            clear hS3 hS4 hal3 hin3 hA T5
            have HLn3 : Hid (al3.length ≤ 90000) := Lib.hid (by have := HA3.out; have := HJ.out; omega)
            obtain ⟨ws, hws⟩ : ∃ ws, wtE al3 in3 = ws := ⟨_, rfl⟩
            obtain ⟨m, hm⟩ : ∃ m, ws.length = m := ⟨_, rfl⟩
            obtain ⟨cu, hcu⟩ : ∃ cu, curE al3 = cu := ⟨_, rfl⟩
            have hm9 : m ≤ 100000 := by rw [← hm, ← hws]; have := HLn3.out; have h9 := bkE_len (all := al3) (lo := lowE al3 in3) (hi := al3.length - 1) (by omega); show (bkE al3 (lowE al3 in3) (al3.length - 1)).length ≤ 100000; omega
            have HM := Lib.hid hm
            have HW1 := waitP r S3 al3 in3 HLn3.out wX TX.out.ep
            have HW2 := Lib.hid (fun W h => waitD d S4 al3 in3 HLn3.out W h)
            have HC1 := Lib.hid (fun W h => curP r S3 al3 in3 HLn3.out W h)
            have HC2 := Lib.hid (fun W h => curD d S4 al3 in3 HLn3.out W h)
            rw [hws, hm] at HW1 HW2
            rw [hcu] at HC1 HC2
            have HW1 := Lib.hid HW1
            have bc : (cu != cu) = false := by simp
            clear hws hcu
            go_wp2_with fail
            refine Calls.mono HW1.out ?_
            rintro e w7 ⟨A7, c7, rfl, hN7, hE7, hT7⟩
            have T7 := Lib.hid (TX.out.goP hE7 (Goes.of_tch hT7))
            have K7 := Lib.hid (hN7.kp (S2 := S4) HM.out TX.out.ed.lt TX.out.bel.size)
            have HCc := Lib.hid (HC1.out w7 T7.out.ep)
            clear hN7 hE7 hT7 HW1 TX HC1
            go_wp2_with fail
            refine Calls.mono HCc.out ?_
            rintro e w8 ⟨rfl, hE8, hT8⟩
            have T8 := Lib.hid (T7.out.goP hE8 (Goes.of_tch hT8))
            have K8 := Lib.hid (K7.out.go (Goes.of_tch hT8).inl)
            have HCd := Lib.hid (HC2.out w8 T8.out.ed)
            clear hE8 hT8 HCc T7 K7 HC2
            go_wp2_with fail
            refine Calls.mono HCd.out ?_
            rintro e w9 ⟨rfl, hE9, hT9⟩
            have T9 := Lib.hid (T8.out.goD hE9 (Goes.of_tch hT9))
            have K9 := Lib.hid (K8.out.go (Goes.of_tch hT9).inr)
            have HWd := Lib.hid (HW2.out w9 T9.out.ed)
            clear hE9 hT9 HCd T8 K8 HW2
            go_wp2_with fail
            refine Calls.mono HWd.out ?_
            rintro e wa ⟨Aa, ca, rfl, hNa, hEa, hTa⟩
            have Ta := Lib.hid (T9.out.goD hEa (Goes.of_tch hTa))
            have Ka := Lib.hid (K9.out.go (Goes.of_tch hTa).inr)
            have Kd := Lib.hid (hNa.kpD (S1 := S3) HM.out T9.out.ep.lt T9.out.bel.size)
            have HSm := Lib.hid (ret_as (v' := .bool true) (same_any A7 Aa m m c7 ca ws ws (by omega) (by omega) wa Ka.out.sl Kd.out.sl) (congrArg Value.bool (decide_eq_true rfl)))
            clear hNa hEa hTa HWd T9 K9 hm
            go_wp2_with fail
            refine Calls.mono HSm.out ?_
            rintro e wb ⟨rfl, hTb⟩
            have TX := Lib.hid (Ta.out.far hTb (by simp))
            have KX := Lib.hid (Ka.out.tch0 hTb)
            clear hTb HSm Ta Ka Kd
            go_wp2
            go_loopw [26] (fun kv wr => ∃ (k : Nat) (ys : List Int), kv = .int .i64 (k : Int) ∧ k ≤ m ∧ Hid (Kp wr w.heap.size (S3 ++ S4) A7 c7 m ys) ∧ Hid (Two w wr r S3 d S4 al3 in3 al3 in3)) (fun kv _ => m - (intOf kv).toNat)
            case atStart => exact ⟨0, _, rfl, Nat.zero_le _, KX, TX⟩
            case round =>
              obtain ⟨k, ys, rfl, hk, hK, hTr⟩ := hrel
              by_cases hkn : k < m
              · have i1 : (k : Int) < (m : Int) := by omega
                have i0 : (0 : Int) ≤ (k : Int) := by omega
                have i2 : IntKind.i64.wrap ((k : Int) + 1) = (k : Int) + 1 := by rw [IntKind.wrap_i64]; omega
                obtain ⟨gx, ex, hgx, -⟩ := hK.out.blk (by omega)
                subst ex
                obtain ⟨z, hz⟩ : ∃ z, ys[k]? = some z := ⟨_, List.getElem?_eq_getElem (by rw [hK.out.len]; exact hkn)⟩
                have cx := own_cell hK.out.own (ints_at hz)
                have fx := own_frozen hK.out.own k
                have HK2 := Lib.hid (hK.out.set_ rfl hkn (-77))
                have HNn := Lib.hid (hK.out.non gx rfl)
                have HT2 := Lib.hid (hTr.out.far (T := [gx]) ((Tch.refl wr [gx]).set_ (p := ⟨gx, k, none⟩) (by simp) (.int .i64 (-77))) (fun s hs => by
                  rw [List.mem_singleton.1 hs]
                  have h9 := HNn.out
                  simp only [List.mem_append, not_or] at h9
                  exact ⟨h9.1, h9.2, hgx⟩))
                clear hz hgx hK hTr
                go_wp2
                go_roundw
                case rel => exact ⟨k + 1, _, by go_num, hkn, HK2, HT2⟩
                case measure => simp [intOf]; omega
              · obtain rfl : k = m := by omega
                have i1 : ¬ (k : Int) < (k : Int) := by omega
                clear hkn hk hK
                obtain ⟨wY, hwY⟩ : ∃ x, x = wr := ⟨_, rfl⟩
                subst hwY
                go_wp2
                go_loopw [6, 27] (fun fv rv wr => ∃ p : Nat, fv = .bool false ∧ rv = .int .i64 (p : Int) ∧ p ≤ 18 ∧ Hid (Two w wr r S3 d S4 al3 in3 al3 in3)) (fun _ rv _ => 18 - (intOf rv).toNat)
                case atStart => exact ⟨0, rfl, rfl, Nat.zero_le _, hTr⟩
                case round =>
                  obtain ⟨p, rfl, rfl, hp, hTp⟩ := hrel
                  by_cases hpR : p < 18
                  · have i1 : (p : Int) < 18 := by omega
                    have p2 : IntKind.i64.wrap ((p : Int) + 1) = (p : Int) + 1 := by rw [IntKind.wrap_i64]; omega
                    obtain ⟨v, hv⟩ : ∃ v, seeV al3 in3 (p : Int) = v := ⟨_, rfl⟩
                    obtain ⟨b, hb⟩ : ∃ b, inE in3 (p : Int) = b := ⟨_, rfl⟩
                    have HS := seeP r S3 al3 in3 (p : Int) HLn3.out wr hTp.out.ep
                    have HSd := Lib.hid (fun W h => seeD d S4 al3 in3 (p : Int) HLn3.out W h)
                    rw [hv, hb] at HS HSd
                    have HS := Lib.hid HS
                    have vv : (v != v) = false := by simp
                    have bb : (b != b) = false := by simp
                    clear hv hb
                    go_wp2_with fail
                    refine Calls.mono HS.out ?_
                    rintro e wa ⟨rfl, hEa, hTa⟩
                    have Ta := Lib.hid (hTp.out.goP hEa (Goes.of_tch hTa))
                    have HSd2 := Lib.hid (HSd.out wa Ta.out.ed)
                    clear hEa hTa HS HSd
                    go_wp2_with fail
                    refine Calls.mono HSd2.out ?_
                    rintro e wb ⟨rfl, hEb, hTb⟩
                    have Tb := Lib.hid (Ta.out.goD hEb (Goes.of_tch hTb))
                    clear hEb hTb HSd2
                    go_wp2
                    go_roundw
                    case rel => exact ⟨p + 1, rfl, by go_num, hpR, Tb⟩
                    case measure => simp [intOf]; omega
                  · obtain rfl : p = 18 := by omega
                    have i1 : ¬ ((18 : Nat) : Int) < 18 := by omega
                    clear hpR hp
                    go_wp2
                    go_roundw
                    case rel => exact ⟨j + 1, S3, S4, al3, in3, rfl, by go_num, h1, h2, Lib.hid (by have := HA3.out; omega), hTp⟩
                    case measure => simp [intOf]; omega
          · have b0 : (kd == 0) = false := by simpa using kd0
            have b1 : (kd == 1) = false := by simpa using kd1
            have HP := levP r S1 al ins q2 HLn.out w3 T3.out.ep
            have HD := Lib.hid (fun W h => levD d S2 al ins q2 HLn.out W h)
            obtain ⟨en, hen⟩ : ∃ v, levN ins q2 = v := ⟨_, rfl⟩
            rw [hen] at HP HD
            obtain ⟨xs, hxs⟩ : ∃ xs, levV al ins q2 = xs := ⟨_, rfl⟩
            obtain ⟨n, hn⟩ : ∃ n, xs.length = n := ⟨_, rfl⟩
            have hn9 : n ≤ 100000 := by rw [← hn, ← hxs]; unfold levV; have := HLn.out; have h9 := lowE_le al (levI ins q2); rw [bkE_len (by omega)]; omega
            have HM := Lib.hid hn
            rw [hxs, hn] at HP HD
            have HP := Lib.hid HP
            have nn : (en != en) = false := by simp
            clear hxs hn hen
            go_wp2_with fail
            rw [HW3.out.1, HW3.out.2]
            refine Calls.mono HP.out ?_
            rintro e w4 ⟨A4, c4, S14, rfl, hN4, hE4, hG4⟩
            have T4 := Lib.hid (T3.out.goP hE4 hG4)
            have e2 : w4.cell? ⟨xb, 1, none⟩ = some (.int .i64 q2) := (hG4.tch.cell (p := ⟨xb, 1, none⟩) HX3.out.lt HXn.out.1).trans ((HX3.out.cell 1).trans rfl)
            have K4 := Lib.hid (hN4.kp (S2 := S2) HM.out T3.out.ed.lt T3.out.bel.size)
            have HDd := Lib.hid (HD.out w4 T4.out.ed)
            clear hN4 hE4 hG4 HP HD T3
            go_wp2_with fail
            refine Calls.mono HDd.out ?_
            rintro e w5 ⟨A5, c5, S25, rfl, hN5, hE5, hG5⟩
            have T5 := Lib.hid (T4.out.goD hE5 hG5)
            have K5 := Lib.hid (K4.out.go hG5.inr)
            have Kd := Lib.hid (hN5.kpD (S1 := S14) HM.out T4.out.ep.lt T4.out.bel.size)
            have HSm := Lib.hid (ret_as (v' := .bool true) (same_any A4 A5 n n c4 c5 xs xs (by omega) (by omega) w5 K5.out.sl Kd.out.sl) (congrArg Value.bool (decide_eq_true rfl)))
            clear hN5 hE5 hG5 HDd T4 K4 e2
            go_wp2_with fail
            refine Calls.mono HSm.out ?_
            rintro e wX ⟨rfl, hTX⟩
            have TX := Lib.hid (T5.out.far hTX (by simp))
            have KX := Lib.hid (K5.out.tch0 hTX)
            clear hTX HSm T5 K5 Kd
            obtain ⟨S3, hS3⟩ : ∃ S, S = S14 := ⟨_, rfl⟩
            obtain ⟨S4, hS4⟩ : ∃ S, S = S25 := ⟨_, rfl⟩
            obtain ⟨al3, hal3⟩ : ∃ l, l = al := ⟨_, rfl⟩
            obtain ⟨in3, hin3⟩ : ∃ l, l = levI ins q2 := ⟨_, rfl⟩
            rw [← hS3, ← hS4, ← hin3, ← hal3] at TX
            have HA3 : Hid (al3.length ≤ j + 2) := Lib.hid (by rw [hal3]; have := hA.out; omega)
            clear hS3 hS4 hal3 hin3 hA KX
            have HLn3 : Hid (al3.length ≤ 90000) := Lib.hid (by have := HA3.out; have := HJ.out; omega)
            obtain ⟨ws, hws⟩ : ∃ ws, wtE al3 in3 = ws := ⟨_, rfl⟩
            obtain ⟨m, hm⟩ : ∃ m, ws.length = m := ⟨_, rfl⟩
            obtain ⟨cu, hcu⟩ : ∃ cu, curE al3 = cu := ⟨_, rfl⟩
            have hm9 : m ≤ 100000 := by rw [← hm, ← hws]; have := HLn3.out; have h9 := bkE_len (all := al3) (lo := lowE al3 in3) (hi := al3.length - 1) (by omega); show (bkE al3 (lowE al3 in3) (al3.length - 1)).length ≤ 100000; omega
            have HM := Lib.hid hm
            have HW1 := waitP r S3 al3 in3 HLn3.out wX TX.out.ep
            have HW2 := Lib.hid (fun W h => waitD d S4 al3 in3 HLn3.out W h)
            have HC1 := Lib.hid (fun W h => curP r S3 al3 in3 HLn3.out W h)
            have HC2 := Lib.hid (fun W h => curD d S4 al3 in3 HLn3.out W h)
            rw [hws, hm] at HW1 HW2
            rw [hcu] at HC1 HC2
            have HW1 := Lib.hid HW1
            have bc : (cu != cu) = false := by simp
            clear hws hcu
            go_wp2_with fail
            refine Calls.mono HW1.out ?_
            rintro e w7 ⟨A7, c7, rfl, hN7, hE7, hT7⟩
            have T7 := Lib.hid (TX.out.goP hE7 (Goes.of_tch hT7))
            have K7 := Lib.hid (hN7.kp (S2 := S4) HM.out TX.out.ed.lt TX.out.bel.size)
            have HCc := Lib.hid (HC1.out w7 T7.out.ep)
            clear hN7 hE7 hT7 HW1 TX HC1
            go_wp2_with fail
            refine Calls.mono HCc.out ?_
            rintro e w8 ⟨rfl, hE8, hT8⟩
            have T8 := Lib.hid (T7.out.goP hE8 (Goes.of_tch hT8))
            have K8 := Lib.hid (K7.out.go (Goes.of_tch hT8).inl)
            have HCd := Lib.hid (HC2.out w8 T8.out.ed)
            clear hE8 hT8 HCc T7 K7 HC2
            go_wp2_with fail
            refine Calls.mono HCd.out ?_
            rintro e w9 ⟨rfl, hE9, hT9⟩
            have T9 := Lib.hid (T8.out.goD hE9 (Goes.of_tch hT9))
            have K9 := Lib.hid (K8.out.go (Goes.of_tch hT9).inr)
            have HWd := Lib.hid (HW2.out w9 T9.out.ed)
            clear hE9 hT9 HCd T8 K8 HW2
            go_wp2_with fail
            refine Calls.mono HWd.out ?_
            rintro e wa ⟨Aa, ca, rfl, hNa, hEa, hTa⟩
            have Ta := Lib.hid (T9.out.goD hEa (Goes.of_tch hTa))
            have Ka := Lib.hid (K9.out.go (Goes.of_tch hTa).inr)
            have Kd := Lib.hid (hNa.kpD (S1 := S3) HM.out T9.out.ep.lt T9.out.bel.size)
            have HSm := Lib.hid (ret_as (v' := .bool true) (same_any A7 Aa m m c7 ca ws ws (by omega) (by omega) wa Ka.out.sl Kd.out.sl) (congrArg Value.bool (decide_eq_true rfl)))
            clear hNa hEa hTa HWd T9 K9 hm
            go_wp2_with fail
            refine Calls.mono HSm.out ?_
            rintro e wb ⟨rfl, hTb⟩
            have TX := Lib.hid (Ta.out.far hTb (by simp))
            have KX := Lib.hid (Ka.out.tch0 hTb)
            clear hTb HSm Ta Ka Kd
            go_wp2
            go_loopw [26] (fun kv wr => ∃ (k : Nat) (ys : List Int), kv = .int .i64 (k : Int) ∧ k ≤ m ∧ Hid (Kp wr w.heap.size (S3 ++ S4) A7 c7 m ys) ∧ Hid (Two w wr r S3 d S4 al3 in3 al3 in3)) (fun kv _ => m - (intOf kv).toNat)
            case atStart => exact ⟨0, _, rfl, Nat.zero_le _, KX, TX⟩
            case round =>
              obtain ⟨k, ys, rfl, hk, hK, hTr⟩ := hrel
              by_cases hkn : k < m
              · have i1 : (k : Int) < (m : Int) := by omega
                have i0 : (0 : Int) ≤ (k : Int) := by omega
                have i2 : IntKind.i64.wrap ((k : Int) + 1) = (k : Int) + 1 := by rw [IntKind.wrap_i64]; omega
                obtain ⟨gx, ex, hgx, -⟩ := hK.out.blk (by omega)
                subst ex
                obtain ⟨z, hz⟩ : ∃ z, ys[k]? = some z := ⟨_, List.getElem?_eq_getElem (by rw [hK.out.len]; exact hkn)⟩
                have cx := own_cell hK.out.own (ints_at hz)
                have fx := own_frozen hK.out.own k
                have HK2 := Lib.hid (hK.out.set_ rfl hkn (-77))
                have HNn := Lib.hid (hK.out.non gx rfl)
                have HT2 := Lib.hid (hTr.out.far (T := [gx]) ((Tch.refl wr [gx]).set_ (p := ⟨gx, k, none⟩) (by simp) (.int .i64 (-77))) (fun s hs => by
                  rw [List.mem_singleton.1 hs]
                  have h9 := HNn.out
                  simp only [List.mem_append, not_or] at h9
                  exact ⟨h9.1, h9.2, hgx⟩))
                clear hz hgx hK hTr
                go_wp2
                go_roundw
                case rel => exact ⟨k + 1, _, by go_num, hkn, HK2, HT2⟩
                case measure => simp [intOf]; omega
              · obtain rfl : k = m := by omega
                have i1 : ¬ (k : Int) < (k : Int) := by omega
                clear hkn hk hK
                obtain ⟨wY, hwY⟩ : ∃ x, x = wr := ⟨_, rfl⟩
                subst hwY
                go_wp2
                go_loopw [6, 27] (fun fv rv wr => ∃ p : Nat, fv = .bool false ∧ rv = .int .i64 (p : Int) ∧ p ≤ 18 ∧ Hid (Two w wr r S3 d S4 al3 in3 al3 in3)) (fun _ rv _ => 18 - (intOf rv).toNat)
                case atStart => exact ⟨0, rfl, rfl, Nat.zero_le _, hTr⟩
                case round =>
                  obtain ⟨p, rfl, rfl, hp, hTp⟩ := hrel
                  by_cases hpR : p < 18
                  · have i1 : (p : Int) < 18 := by omega
                    have p2 : IntKind.i64.wrap ((p : Int) + 1) = (p : Int) + 1 := by rw [IntKind.wrap_i64]; omega
                    obtain ⟨v, hv⟩ : ∃ v, seeV al3 in3 (p : Int) = v := ⟨_, rfl⟩
                    obtain ⟨b, hb⟩ : ∃ b, inE in3 (p : Int) = b := ⟨_, rfl⟩
                    have HS := seeP r S3 al3 in3 (p : Int) HLn3.out wr hTp.out.ep
                    have HSd := Lib.hid (fun W h => seeD d S4 al3 in3 (p : Int) HLn3.out W h)
                    rw [hv, hb] at HS HSd
                    have HS := Lib.hid HS
                    have vv : (v != v) = false := by simp
                    have bb : (b != b) = false := by simp
                    clear hv hb
                    go_wp2_with fail
                    refine Calls.mono HS.out ?_
                    rintro e wa ⟨rfl, hEa, hTa⟩
                    have Ta := Lib.hid (hTp.out.goP hEa (Goes.of_tch hTa))
                    have HSd2 := Lib.hid (HSd.out wa Ta.out.ed)
                    clear hEa hTa HS HSd
                    go_wp2_with fail
                    refine Calls.mono HSd2.out ?_
                    rintro e wb ⟨rfl, hEb, hTb⟩
                    have Tb := Lib.hid (Ta.out.goD hEb (Goes.of_tch hTb))
                    clear hEb hTb HSd2
                    go_wp2
                    go_roundw
                    case rel => exact ⟨p + 1, rfl, by go_num, hpR, Tb⟩
                    case measure => simp [intOf]; omega
                  · obtain rfl : p = 18 := by omega
                    have i1 : ¬ ((18 : Nat) : Int) < 18 := by omega
                    clear hpR hp
                    go_wp2
                    go_roundw
                    case rel => exact ⟨j + 1, S3, S4, al3, in3, rfl, by go_num, h1, h2, Lib.hid (by have := HA3.out; omega), hTp⟩
                    case measure => simp [intOf]; omega
      · rcases (show ¬ j < l2 ∨ (j < l2 ∧ ¬ j < 200) by omega) with h1 | ⟨h1, h2⟩
        · have hjI : ¬ (j : Int) < l2 := by omega
          clear hlt h1
          go_wp2
          go_ret
          exact ⟨rfl, hT.out.bel⟩
        · have hjI : (j : Int) < l2 := by omega
          have hjI2 : ¬ (j : Int) < 200 := by omega
          clear hlt h1 h2
          go_wp2
          go_ret
          exact ⟨rfl, hT.out.bel⟩
set_option maxRecDepth 100000 in
theorem contract (H : Type) (enc : TypeId × Value → H) (W : World) (base : Nat) (args : Array Value) (ds gs : List (DataW H)) (before : List MemPlace)
    (hval0 : ∀ (j : Nat) t v, Try.f3.params[j]? = some t → args[j]? = some v → Value.okWide Try.prog W .any base t v)
    (hW : DataW.Whole enc Try.prog Try.f3.params.toList Rows.epochPlaysSpec.vars false W args.toList ds gs before)
    (hsz0 : (DataW.weightsEach Try.prog (Try.f3.params.toList ++ Rows.epochPlaysSpec.plain.varTypes Try.prog) (ds ++ gs)).all (· ≤ reachBytes) = true) :
    Calls Try.prog 3 args W fun e W' => ∃ v, e = .returned v ∧ Rows.epochPlaysSpec.post enc Try.prog Try.f3 false true false false W args v W' := by
  have hsz := hsz0
  clear hsz0
  have hval := hval0
  clear hval0
  have hW' := hW
  obtain ⟨p, q, hA0, hV, rfl, hfz, hnd⟩ := hW
  have hA : DataW.TrodAll enc Try.prog W 0 (fun _ => true) true Try.f3.params.toList args.toList ds p := hA0
  rw [Try.params3] at hA hval hsz
  obtain ⟨v0, vs0, d0, ds0, p0, q0, hargs, rfl, rfl, h0, r0⟩ := trodAll_cons hA
  obtain ⟨v1, vs1, d1, ds1, p1, q1, rfl, rfl, rfl, h1, r1⟩ := trodAll_cons r0
  obtain ⟨v2, vs2, d2, ds2, p2, q2, rfl, rfl, rfl, h2, r2⟩ := trodAll_cons r1
  obtain ⟨rfl, rfl, rfl⟩ := trodAll_nil r2
  obtain rfl : args = #[v0, v1, v2] := by cases args; simp_all
  obtain ⟨rfl, rfl⟩ := trodVars_none hV
  obtain ⟨a0, rfl, rfl, rfl, w0⟩ := open_int Try.underlying3 (hval 0 3 v0 rfl rfl) h0
  obtain ⟨a1, rfl, rfl, rfl, w1⟩ := open_int Try.underlying3 (hval 1 3 v1 rfl rfl) h1
  obtain ⟨a2, l2, c2, rfl⟩ := okWide_slice Try.underlying22 (hval 2 22 v2 rfl rfl)
  have k2 := h2
  have lt2 : ∀ x ∈ p2, x.block < W.heap.size := by obtain ⟨m, hm⟩ := k2; exact DataW.trod_lt m _ _ _ hm
  obtain ⟨z2, w2⟩ := isStp_of h2
  clear hA0
  refine (walk W a0 w0 a1 w1 a2 l2 c2 z2 w2).mono fun e W' ⟨he, bel⟩ => ?_
  subst he
  exact ⟨_, rfl, _, _, _, [], _, [], hW', trodAll_mk1 (shut_bool Try.underlying4 _), (trodAll_cons_mk (shut_int Try.underlying3 w0) (trodAll_cons_mk (shut_int Try.underlying3 w1) (trodAll_cons_mk (Below.trod laidOut (by kernel_rfl) (of_decide_eq_true (by kernel_rfl)) k2 bel lt2) trodAll_mk0))), rfl, bel.frame _, fun h => by cases h⟩

set_option maxRecDepth 100000 in
theorem lifted (os : Os) (started : os.Started) (H : Type) (enc : TypeId × Value → H) :
    ReturnsInHanded {} Try.checked os 3 .any (Rows.epochPlaysSpec.pre6 enc Try.prog Try.f3 Rows.epochPlaysRow.domain false) (Rows.epochPlaysSpec.post enc Try.prog Try.f3 false true false false) := by
  refine returnsInHanded_of_change_sized (C := Try.checked) own started (by kernel_rfl) Try.func3
    (ChangeSpec.witness6 (enc := enc) (C := Try.checked) false ⟨#[], #[.int .i64 0, .int .i64 0, .slice none 0 0], []⟩ 8 (by kernel_rfl) (by kernel_rfl) (by kernel_rfl) (by kernel_rfl)) ?_
  intro W base args ds gs before hval hW _ hsz _
  exact contract H enc W base args ds gs before hval hW hsz

theorem over : Rows.epochPlaysRow.holds Try.pinned (OpenSpec.ofChange Rows.epochPlaysSpec) :=
  OpenClaim.holds_of_wide 3 Try.f3 rfl rfl rfl rfl rfl rfl rfl ⟨rfl, rfl, rfl, rfl, rfl⟩ rfl rfl rfl rfl rfl (by kernel_rfl) Try.func3 (by kernel_rfl)
    (of_decide_eq_true (by kernel_rfl)) (by unfold Func.isWrapper; first | (rw [if_pos (by decide +kernel)]; kernel_rfl) | (rw [if_neg (by decide +kernel)]; exact ⟨rfl, rfl⟩))
    (fun os started H enc _ => lifted os started H enc)

theorem proved : Rows.EpochPlaysSaid := over
#print axioms proved
end EPly
end Go.Proofs.Ytakeodnebegbhaa
