/-
  crosswaylaw13.EpochPrompt returns true for every input, and leaves its arguments alone.
  Conditions: none of our own.
-/
import Derived.Test.YtakeodnebegbhaaEpW
namespace Go.Proofs.Ytakeodnebegbhaa
open Go.ChangeShapes Go.WideShapes Go.ChangeAt Go.RowKit
set_option linter.unusedVariables false
namespace EPrm
set_option maxRecDepth 100000 in
set_option maxHeartbeats 4000000 in
theorem walk (w : World) (a0 : Int) (w0 : (Lit.int .i64 a0).wf = true) (a1 : Option Addr) (l1 c1 : Nat) (z1 : List Stp) (w1 : IsStp w a1 l1 z1) :
    Calls Try.prog 6 #[.int .i64 a0, .slice a1 l1 c1] w fun e w' => e = .returned (.bool true) ∧ Below w.heap.size w w' := by
  have hb0 := i64_bd w0
  have h15 := i64_and15 a0
  obtain ⟨k, hk⟩ : ∃ k : Nat, a0 % 16 = (k : Int) := ⟨(a0 % 16).toNat, by omega⟩
  have hk16 : k < 16 := by omega
  rw [hk] at h15
  obtain ⟨R, hR⟩ : ∃ R : Nat, k + 1 = R := ⟨_, rfl⟩
  have j0 : IntKind.i64.wrap (1 + (k : Int)) = (R : Int) := by rw [IntKind.wrap_i64]; omega
  have hR1 : 1 ≤ R ∧ R ≤ 16 := by omega
  have HNw := Lib.hid (fun W => newP_ok R 0 hR1.1 hR1.2 W)
  have HZ := Lib.hid w1
  clear hk hb0 w0 w1 hR hk16
  go_enter Try.func6, Try.ntmps6
  go_wp2_with fail
  refine Calls.mono (awake_yes w) ?_
  rintro e x1 ⟨rfl, hb1⟩
  have B1 := Lib.hid hb1
  clear hb1
  go_wp2_with fail
  refine Calls.mono (HNw.out x1) ?_
  rintro e x2 ⟨d, S2, rfl, hE, hb, hs⟩
  have E2 : Hid (Std w x2 d S2 [0] (List.replicate R (-1))) := Lib.hid ⟨hE, B1.out.trans (hb.mono B1.out.size), fun s h => Nat.le_trans B1.out.size (hs s h)⟩
  clear hE hb hs HNw
  go_wp2
  go_loopw [4, 8, 9] (fun fv nv iv wr => ∃ (j n : Nat) (S : List Nat) (ins : List Int), fv = .bool false ∧ nv = .int .i64 (n : Int) ∧ iv = .int .i64 (j : Int) ∧ j ≤ l1 ∧ j ≤ 200 ∧ Hid (0 < n ∧ n ≤ j + 1 ∧ ins.length = R) ∧ Hid (Std w wr d S (rgE n) ins)) (fun _ _ iv _ => 200 - (intOf iv).toNat)
  case atStart => exact ⟨0, 1, S2, List.replicate R (-1), rfl, rfl, rfl, Nat.zero_le _, by omega, Lib.hid ⟨by omega, by omega, by simp⟩, E2⟩
  case round =>
    obtain ⟨j, n, S, ins, rfl, rfl, rfl, hj, hj2, hA, hE⟩ := hrel
    by_cases hlt : j < l1 ∧ j < 200
    · obtain ⟨h1, h2⟩ := hlt
      obtain ⟨g, o, q1, q2, rfl, hg, -, c0, c1, -, -⟩ := HZ.out.cells hE.out.bel h1
      have hjI : (j : Int) < l1 := by omega
      have hjI2 : (j : Int) < 200 := by omega
      have hj0 : (0 : Int) ≤ j := by omega
      have j3 : IntKind.i64.wrap ((j : Int) + 1) = (j : Int) + 1 := by rw [IntKind.wrap_i64]; omega
      have k3 := i64_and3 q1
      have k15 := i64_and15 q2
      have hm3 : 0 ≤ q1 % 4 ∧ q1 % 4 < 4 := by omega
      have hm15 : 0 ≤ q2 % 16 ∧ q2 % 16 < 16 := by omega
      obtain ⟨kd, hkd⟩ : ∃ kd, q1 % 4 = kd := ⟨_, rfl⟩
      obtain ⟨rr, hrr⟩ : ∃ rr, q2 % 16 = rr := ⟨_, rfl⟩
      rw [hkd] at k3 hm3
      rw [hrr] at k15 hm15
      have j5 : IntKind.i64.wrap (1 + rr) = 1 + rr := by rw [IntKind.wrap_i64]; omega
      have HLn : Hid ((rgE n).length ≤ 90000) := Lib.hid (by rw [rgE_len]; have := hA.out; omega)
      have HJ : Hid (j < 200) := Lib.hid h2
      have hn0 := hA.out.1
      have n2 : IntKind.i64.wrap ((n : Int) + 1) = ((n + 1 : Nat) : Int) := by have := hA.out; rw [IntKind.wrap_i64]; omega
      have HP := pubP d S (rgE n) ins (n : Int) HLn.out wr hE.out.ep
      have HN := Lib.hid (entP d S (rgE n) ins (1 + rr) HLn.out wr hE.out.ep)
      have HV := Lib.hid (levP d S (rgE n) ins (1 + rr) HLn.out wr hE.out.ep)
      rw [rgE_snoc] at HP
      have HPh := Lib.hid HP
      clear hkd hrr hg HP
      by_cases kd0 : kd = 0
      · subst kd0
        have b00 : ((0 : Int) == 0) = true := by decide
        have HN2 : Hid (0 < n + 1 ∧ n + 1 ≤ j + 2 ∧ ins.length = R) := Lib.hid ⟨by omega, by have := hA.out; omega, hA.out.2.2⟩
        go_wp2_with fail
        refine Calls.mono HPh.out ?_
        rintro e w4 ⟨A4, c4, S4, rfl, hN4, hE4, hG4⟩
        have E4 := Lib.hid (hE.out.go hE4 hG4)
        clear hN4 hE4 hG4 HPh HN HV hE
        obtain ⟨n2', hn2'⟩ : ∃ n2', n2' = n + 1 := ⟨_, rfl⟩
        obtain ⟨ins2, hi2⟩ : ∃ ins2, ins2 = ins := ⟨_, rfl⟩
        rw [← hn2', ← hi2] at HN2 E4
        rw [← hn2'] at n2
        clear hn2' hi2
        have HLn2 : Hid ((rgE n2').length ≤ 90000) := Lib.hid (by rw [rgE_len]; have := HN2.out; have := HJ.out; omega)
        obtain ⟨lo2, hlo2⟩ : ∃ lo2, lowE (rgE n2') ins2 = lo2 := ⟨_, rfl⟩
        obtain ⟨xs, hxs⟩ : ∃ xs, wtE (rgE n2') ins2 = xs := ⟨_, rfl⟩
        obtain ⟨Wl, hWl⟩ : ∃ Wl, xs.length = Wl := ⟨_, rfl⟩
        have hxe : xs = bkE (rgE n2') lo2 (n2' - 1) := by rw [← hxs]; unfold wtE; rw [rgE_len, hlo2]
        have hwl : Wl = n2' - 1 - lo2 := by rw [← hWl, hxe]; exact bkE_rg_len (by omega)
        have HX : Hid (0 < Wl → xs[0]? = some (lo2 : Int) ∧ loE ins2 n2' = lo2) := Lib.hid (fun h0 => ⟨by rw [hxe]; exact bkE_rg (k := 0) (by omega) (by omega), by rw [← hlo2]; exact least_eq (by omega)⟩)
        have HL2 : Hid (lo2 ≤ 300 ∧ Wl ≤ 300) := Lib.hid (by have := HN2.out; have := HJ.out; have := low_rg (ins := ins2) HN2.out.1; omega)
        have HWt := Lib.hid (waitP d S4 (rgE n2') ins2 HLn2.out w4 E4.out.ep)
        rw [hxs, hWl] at HWt
        clear hlo2 hxe hwl hxs
        go_wp2_with fail
        refine Calls.mono HWt.out ?_
        rintro e w5 ⟨A5, c5, rfl, hN5, hE5, hT5⟩
        have E5 := Lib.hid (E4.out.go hE5 (Goes.of_tch hT5))
        have K5 := Lib.hid hN5.kept
        rw [hWl] at K5
        have HI5 := Lib.hid E5.out.ep.inv
        clear hN5 hE5 hT5 HWt E4 hWl
        by_cases h0 : Wl = 0
        · subst h0
          go_wp2
          go_roundw
          case rel => exact ⟨j + 1, n2', S4, ins2, rfl, by go_num, by go_num, h1, h2, Lib.hid (by have := HN2.out; omega), E5⟩
          case measure => simp [intOf]; omega
        · obtain ⟨hx0, hle⟩ := HX.out (by omega)
          have HX0 := Lib.hid hx0
          have HLe := Lib.hid hle
          have b0 : ((Wl : Int) == 0) = false := by simp; omega
          have i0 : ¬ (Wl : Int) = 0 := by omega
          have w0 : (0 : Int) < (Wl : Int) := by omega
          have wn : 0 < Wl := by omega
          clear hx0 hle
          go_wp2
          go_loopw [11, 12] (fun lv rv wr => ∃ p : Nat, lv = .int .i64 ((loE (ins2.take p) n2' : Nat) : Int) ∧ rv = .int .i64 ((p : Int) + 1) ∧ p ≤ R ∧ Hid (Std w wr d S4 (rgE n2') ins2) ∧ Hid (Kept wr S4 A5 Wl xs)) (fun _ rv _ => 17 - (intOf rv).toNat)
          case atStart => exact ⟨0, rfl, rfl, Nat.zero_le _, E5, K5⟩
          case round =>
            obtain ⟨p, rfl, rfl, hp, hEr, hKr⟩ := hrel
            obtain ⟨le, hle⟩ : ∃ le, loE (ins2.take p) n2' = le := ⟨_, rfl⟩
            rw [hle]
            by_cases hpR : p < R
            · have i1 : (p : Int) + 1 ≤ (R : Int) := by omega
              have p2 : IntKind.i64.wrap ((p : Int) + 1 + 1) = (p : Int) + 1 + 1 := by rw [IntKind.wrap_i64]; omega
              have HS := Lib.hid (seeP d S4 (rgE n2') ins2 ((p : Int) + 1) HLn2.out wr hEr.out.ep)
              obtain ⟨x, hx⟩ : ∃ x, ins2[p]? = some x := ⟨_, List.getElem?_eq_getElem (by rw [HN2.out.2.2]; exact hpR)⟩
              have hxb := (HI5.out.in_ _ (List.mem_of_getElem? hx)).2
              rw [rgE_len] at hxb
              have HTk := Lib.hid (loE_take (m := n2') hx)
              rw [hle] at HTk
              by_cases hx0 : 0 ≤ x
              · obtain ⟨y, rfl⟩ : ∃ y : Nat, x = (y : Int) := ⟨x.toNat, by omega⟩
                obtain ⟨s1, s2⟩ := see_at (n := n2') hx (by omega)
                rw [s1, s2] at HS
                have HTk2 : Hid (loE (ins2.take (p + 1)) n2' = min y le) := Lib.hid (by rw [HTk.out, if_pos hx0, Int.toNat_natCast])
                clear hx hx0 s1 s2 hle hxb HTk
                go_wp2_with fail
                refine Calls.mono HS.out ?_
                rintro e w7 ⟨rfl, hE7, hT7⟩
                have E7 := Lib.hid (hEr.out.go hE7 (Goes.of_tch hT7))
                have K7 := Lib.hid (hKr.out.go (Goes.of_tch hT7))
                clear hE7 hT7 HS
                by_cases hyl : y < le
                · have m1 : (y : Int) < (le : Int) := by omega
                  have m2 : (if (y : Int) < (le : Int) then (y : Int) else (le : Int)) = (y : Int) := if_pos m1
                  have m3 : decide (y < le) = true := decide_eq_true hyl
                  go_wp2
                  go_roundw
                  case rel => exact ⟨p + 1, by rw [HTk2.out, show min y le = y by omega], by go_num, hpR, E7, K7⟩
                  case measure => simp [intOf]; omega
                · have m1 : ¬ (y : Int) < (le : Int) := by omega
                  have m2 : (if (y : Int) < (le : Int) then (y : Int) else (le : Int)) = (le : Int) := if_neg m1
                  have m3 : decide (y < le) = false := decide_eq_false hyl
                  go_wp2
                  go_roundw
                  case rel => exact ⟨p + 1, by rw [HTk2.out, show min y le = le by omega], by go_num, hpR, E7, K7⟩
                  case measure => simp [intOf]; omega
              · have hin : inE ins2 ((p : Int) + 1) = false := by rw [(inE_at hx).1]; exact decide_eq_false hx0
                rw [hin, seeV_no hin] at HS
                have HTk2 : Hid (loE (ins2.take (p + 1)) n2' = le) := Lib.hid (by rw [HTk.out, if_neg hx0])
                clear hx hx0 hin hle hxb HTk
                go_wp2_with fail
                refine Calls.mono HS.out ?_
                rintro e w7 ⟨rfl, hE7, hT7⟩
                have E7 := Lib.hid (hEr.out.go hE7 (Goes.of_tch hT7))
                have K7 := Lib.hid (hKr.out.go (Goes.of_tch hT7))
                clear hE7 hT7 HS
                go_wp2
                go_roundw
                case rel => exact ⟨p + 1, by rw [HTk2.out], by go_num, hpR, E7, K7⟩
                case measure => simp [intOf]; omega
            · obtain rfl : p = R := by omega
              have i1 : ¬ (p : Int) + 1 ≤ (p : Int) := by omega
              have hll : le = lo2 := by rw [← hle, List.take_of_length_le (Nat.le_of_eq HN2.out.2.2)]; exact HLe.out
              subst hll
              obtain ⟨gx, ex, cx⟩ := hKr.out.sl.2 0 _ HX0.out
              subst ex
              have bx : ((le : Int) != (le : Int)) = false := by simp
              clear hle hpR hp
              go_wp2
              go_roundw
              case rel => exact ⟨j + 1, n2', S4, ins2, rfl, by go_num, by go_num, h1, h2, Lib.hid (by have := HN2.out; omega), hEr⟩
              case measure => simp [intOf]; omega
      · by_cases kd1 : kd = 1
        · subst kd1
          have b00 : ((1 : Int) == 0) = false := by decide
          have b1 : ((1 : Int) == 1) = true := by decide
          have HN2 : Hid (0 < n ∧ n ≤ j + 2 ∧ (entI (rgE n) ins (1 + rr)).length = R) := Lib.hid ⟨hn0, by have := hA.out; omega, by rw [entI_len]; exact hA.out.2.2⟩
          go_wp2_with fail
          refine Calls.mono HN.out ?_
          rintro e w4 ⟨S4, rfl, hE4, hG4⟩
          have E4 := Lib.hid (hE.out.go hE4 hG4)
          clear hE4 hG4 HPh HN HV hE n2
          obtain ⟨n2', hn2'⟩ : ∃ n2', n2' = n := ⟨_, rfl⟩
          obtain ⟨ins2, hi2⟩ : ∃ ins2, entI (rgE n) ins (1 + rr) = ins2 := ⟨_, rfl⟩
          rw [hi2] at HN2 E4
          rw [← hn2'] at HN2 E4 ⊢
          clear hn2' hi2
          have HLn2 : Hid ((rgE n2').length ≤ 90000) := Lib.hid (by rw [rgE_len]; have := HN2.out; have := HJ.out; omega)
          obtain ⟨lo2, hlo2⟩ : ∃ lo2, lowE (rgE n2') ins2 = lo2 := ⟨_, rfl⟩
          obtain ⟨xs, hxs⟩ : ∃ xs, wtE (rgE n2') ins2 = xs := ⟨_, rfl⟩
          obtain ⟨Wl, hWl⟩ : ∃ Wl, xs.length = Wl := ⟨_, rfl⟩
          have hxe : xs = bkE (rgE n2') lo2 (n2' - 1) := by rw [← hxs]; unfold wtE; rw [rgE_len, hlo2]
          have hwl : Wl = n2' - 1 - lo2 := by rw [← hWl, hxe]; exact bkE_rg_len (by omega)
          have HX : Hid (0 < Wl → xs[0]? = some (lo2 : Int) ∧ loE ins2 n2' = lo2) := Lib.hid (fun h0 => ⟨by rw [hxe]; exact bkE_rg (k := 0) (by omega) (by omega), by rw [← hlo2]; exact least_eq (by omega)⟩)
          have HL2 : Hid (lo2 ≤ 300 ∧ Wl ≤ 300) := Lib.hid (by have := HN2.out; have := HJ.out; have := low_rg (ins := ins2) HN2.out.1; omega)
          have HWt := Lib.hid (waitP d S4 (rgE n2') ins2 HLn2.out w4 E4.out.ep)
          rw [hxs, hWl] at HWt
          clear hlo2 hxe hwl hxs
          go_wp2_with fail
          refine Calls.mono HWt.out ?_
          rintro e w5 ⟨A5, c5, rfl, hN5, hE5, hT5⟩
          have E5 := Lib.hid (E4.out.go hE5 (Goes.of_tch hT5))
          have K5 := Lib.hid hN5.kept
          rw [hWl] at K5
          have HI5 := Lib.hid E5.out.ep.inv
          clear hN5 hE5 hT5 HWt E4 hWl
          by_cases h0 : Wl = 0
          · subst h0
            go_wp2
            go_roundw
            case rel => exact ⟨j + 1, n2', S4, ins2, rfl, by go_num, by go_num, h1, h2, Lib.hid (by have := HN2.out; omega), E5⟩
            case measure => simp [intOf]; omega
          · obtain ⟨hx0, hle⟩ := HX.out (by omega)
            have HX0 := Lib.hid hx0
            have HLe := Lib.hid hle
            have b0 : ((Wl : Int) == 0) = false := by simp; omega
            have i0 : ¬ (Wl : Int) = 0 := by omega
            have w0 : (0 : Int) < (Wl : Int) := by omega
            have wn : 0 < Wl := by omega
            clear hx0 hle
            go_wp2
            go_loopw [11, 12] (fun lv rv wr => ∃ p : Nat, lv = .int .i64 ((loE (ins2.take p) n2' : Nat) : Int) ∧ rv = .int .i64 ((p : Int) + 1) ∧ p ≤ R ∧ Hid (Std w wr d S4 (rgE n2') ins2) ∧ Hid (Kept wr S4 A5 Wl xs)) (fun _ rv _ => 17 - (intOf rv).toNat)
            case atStart => exact ⟨0, rfl, rfl, Nat.zero_le _, E5, K5⟩
            case round =>
              obtain ⟨p, rfl, rfl, hp, hEr, hKr⟩ := hrel
              obtain ⟨le, hle⟩ : ∃ le, loE (ins2.take p) n2' = le := ⟨_, rfl⟩
              rw [hle]
              by_cases hpR : p < R
              · have i1 : (p : Int) + 1 ≤ (R : Int) := by omega
                have p2 : IntKind.i64.wrap ((p : Int) + 1 + 1) = (p : Int) + 1 + 1 := by rw [IntKind.wrap_i64]; omega
                have HS := Lib.hid (seeP d S4 (rgE n2') ins2 ((p : Int) + 1) HLn2.out wr hEr.out.ep)
                obtain ⟨x, hx⟩ : ∃ x, ins2[p]? = some x := ⟨_, List.getElem?_eq_getElem (by rw [HN2.out.2.2]; exact hpR)⟩
                have hxb := (HI5.out.in_ _ (List.mem_of_getElem? hx)).2
                rw [rgE_len] at hxb
                have HTk := Lib.hid (loE_take (m := n2') hx)
                rw [hle] at HTk
                by_cases hx0 : 0 ≤ x
                · obtain ⟨y, rfl⟩ : ∃ y : Nat, x = (y : Int) := ⟨x.toNat, by omega⟩
                  obtain ⟨s1, s2⟩ := see_at (n := n2') hx (by omega)
                  rw [s1, s2] at HS
                  have HTk2 : Hid (loE (ins2.take (p + 1)) n2' = min y le) := Lib.hid (by rw [HTk.out, if_pos hx0, Int.toNat_natCast])
                  clear hx hx0 s1 s2 hle hxb HTk
                  go_wp2_with fail
                  refine Calls.mono HS.out ?_
                  rintro e w7 ⟨rfl, hE7, hT7⟩
                  have E7 := Lib.hid (hEr.out.go hE7 (Goes.of_tch hT7))
                  have K7 := Lib.hid (hKr.out.go (Goes.of_tch hT7))
                  clear hE7 hT7 HS
                  by_cases hyl : y < le
                  · have m1 : (y : Int) < (le : Int) := by omega
                    have m2 : (if (y : Int) < (le : Int) then (y : Int) else (le : Int)) = (y : Int) := if_pos m1
                    have m3 : decide (y < le) = true := decide_eq_true hyl
                    go_wp2
                    go_roundw
                    case rel => exact ⟨p + 1, by rw [HTk2.out, show min y le = y by omega], by go_num, hpR, E7, K7⟩
                    case measure => simp [intOf]; omega
                  · have m1 : ¬ (y : Int) < (le : Int) := by omega
                    have m2 : (if (y : Int) < (le : Int) then (y : Int) else (le : Int)) = (le : Int) := if_neg m1
                    have m3 : decide (y < le) = false := decide_eq_false hyl
                    go_wp2
                    go_roundw
                    case rel => exact ⟨p + 1, by rw [HTk2.out, show min y le = le by omega], by go_num, hpR, E7, K7⟩
                    case measure => simp [intOf]; omega
                · have hin : inE ins2 ((p : Int) + 1) = false := by rw [(inE_at hx).1]; exact decide_eq_false hx0
                  rw [hin, seeV_no hin] at HS
                  have HTk2 : Hid (loE (ins2.take (p + 1)) n2' = le) := Lib.hid (by rw [HTk.out, if_neg hx0])
                  clear hx hx0 hin hle hxb HTk
                  go_wp2_with fail
                  refine Calls.mono HS.out ?_
                  rintro e w7 ⟨rfl, hE7, hT7⟩
                  have E7 := Lib.hid (hEr.out.go hE7 (Goes.of_tch hT7))
                  have K7 := Lib.hid (hKr.out.go (Goes.of_tch hT7))
                  clear hE7 hT7 HS
                  go_wp2
                  go_roundw
                  case rel => exact ⟨p + 1, by rw [HTk2.out], by go_num, hpR, E7, K7⟩
                  case measure => simp [intOf]; omega
              · obtain rfl : p = R := by omega
                have i1 : ¬ (p : Int) + 1 ≤ (p : Int) := by omega
                have hll : le = lo2 := by rw [← hle, List.take_of_length_le (Nat.le_of_eq HN2.out.2.2)]; exact HLe.out
                subst hll
                obtain ⟨gx, ex, cx⟩ := hKr.out.sl.2 0 _ HX0.out
                subst ex
                have bx : ((le : Int) != (le : Int)) = false := by simp
                clear hle hpR hp
                go_wp2
                go_roundw
                case rel => exact ⟨j + 1, n2', S4, ins2, rfl, by go_num, by go_num, h1, h2, Lib.hid (by have := HN2.out; omega), hEr⟩
                case measure => simp [intOf]; omega
        · have b00 : (kd == 0) = false := by simpa using kd0
          have b1 : (kd == 1) = false := by simpa using kd1
          have HN2 : Hid (0 < n ∧ n ≤ j + 2 ∧ (levI ins (1 + rr)).length = R) := Lib.hid ⟨hn0, by have := hA.out; omega, by rw [levI_len]; exact hA.out.2.2⟩
          go_wp2_with fail
          refine Calls.mono HV.out ?_
          rintro e w4 ⟨A4, c4, S4, rfl, hN4, hE4, hG4⟩
          have E4 := Lib.hid (hE.out.go hE4 hG4)
          clear hN4 hE4 hG4 HPh HN HV hE n2
          obtain ⟨n2', hn2'⟩ : ∃ n2', n2' = n := ⟨_, rfl⟩
          obtain ⟨ins2, hi2⟩ : ∃ ins2, levI ins (1 + rr) = ins2 := ⟨_, rfl⟩
          rw [hi2] at HN2 E4
          rw [← hn2'] at HN2 E4 ⊢
          clear hn2' hi2
          have HLn2 : Hid ((rgE n2').length ≤ 90000) := Lib.hid (by rw [rgE_len]; have := HN2.out; have := HJ.out; omega)
          obtain ⟨lo2, hlo2⟩ : ∃ lo2, lowE (rgE n2') ins2 = lo2 := ⟨_, rfl⟩
          obtain ⟨xs, hxs⟩ : ∃ xs, wtE (rgE n2') ins2 = xs := ⟨_, rfl⟩
          obtain ⟨Wl, hWl⟩ : ∃ Wl, xs.length = Wl := ⟨_, rfl⟩
          have hxe : xs = bkE (rgE n2') lo2 (n2' - 1) := by rw [← hxs]; unfold wtE; rw [rgE_len, hlo2]
          have hwl : Wl = n2' - 1 - lo2 := by rw [← hWl, hxe]; exact bkE_rg_len (by omega)
          have HX : Hid (0 < Wl → xs[0]? = some (lo2 : Int) ∧ loE ins2 n2' = lo2) := Lib.hid (fun h0 => ⟨by rw [hxe]; exact bkE_rg (k := 0) (by omega) (by omega), by rw [← hlo2]; exact least_eq (by omega)⟩)
          have HL2 : Hid (lo2 ≤ 300 ∧ Wl ≤ 300) := Lib.hid (by have := HN2.out; have := HJ.out; have := low_rg (ins := ins2) HN2.out.1; omega)
          have HWt := Lib.hid (waitP d S4 (rgE n2') ins2 HLn2.out w4 E4.out.ep)
          rw [hxs, hWl] at HWt
          clear hlo2 hxe hwl hxs
          go_wp2_with fail
          refine Calls.mono HWt.out ?_
          rintro e w5 ⟨A5, c5, rfl, hN5, hE5, hT5⟩
          have E5 := Lib.hid (E4.out.go hE5 (Goes.of_tch hT5))
          have K5 := Lib.hid hN5.kept
          rw [hWl] at K5
          have HI5 := Lib.hid E5.out.ep.inv
          clear hN5 hE5 hT5 HWt E4 hWl
          by_cases h0 : Wl = 0
          · subst h0
            go_wp2
            go_roundw
            case rel => exact ⟨j + 1, n2', S4, ins2, rfl, by go_num, by go_num, h1, h2, Lib.hid (by have := HN2.out; omega), E5⟩
            case measure => simp [intOf]; omega
          · obtain ⟨hx0, hle⟩ := HX.out (by omega)
            have HX0 := Lib.hid hx0
            have HLe := Lib.hid hle
            have b0 : ((Wl : Int) == 0) = false := by simp; omega
            have i0 : ¬ (Wl : Int) = 0 := by omega
            have w0 : (0 : Int) < (Wl : Int) := by omega
            have wn : 0 < Wl := by omega
            clear hx0 hle
            go_wp2
            go_loopw [11, 12] (fun lv rv wr => ∃ p : Nat, lv = .int .i64 ((loE (ins2.take p) n2' : Nat) : Int) ∧ rv = .int .i64 ((p : Int) + 1) ∧ p ≤ R ∧ Hid (Std w wr d S4 (rgE n2') ins2) ∧ Hid (Kept wr S4 A5 Wl xs)) (fun _ rv _ => 17 - (intOf rv).toNat)
            case atStart => exact ⟨0, rfl, rfl, Nat.zero_le _, E5, K5⟩
            case round =>
              obtain ⟨p, rfl, rfl, hp, hEr, hKr⟩ := hrel
              obtain ⟨le, hle⟩ : ∃ le, loE (ins2.take p) n2' = le := ⟨_, rfl⟩
              rw [hle]
              by_cases hpR : p < R
              · have i1 : (p : Int) + 1 ≤ (R : Int) := by omega
                have p2 : IntKind.i64.wrap ((p : Int) + 1 + 1) = (p : Int) + 1 + 1 := by rw [IntKind.wrap_i64]; omega
                have HS := Lib.hid (seeP d S4 (rgE n2') ins2 ((p : Int) + 1) HLn2.out wr hEr.out.ep)
                obtain ⟨x, hx⟩ : ∃ x, ins2[p]? = some x := ⟨_, List.getElem?_eq_getElem (by rw [HN2.out.2.2]; exact hpR)⟩
                have hxb := (HI5.out.in_ _ (List.mem_of_getElem? hx)).2
                rw [rgE_len] at hxb
                have HTk := Lib.hid (loE_take (m := n2') hx)
                rw [hle] at HTk
                by_cases hx0 : 0 ≤ x
                · obtain ⟨y, rfl⟩ : ∃ y : Nat, x = (y : Int) := ⟨x.toNat, by omega⟩
                  obtain ⟨s1, s2⟩ := see_at (n := n2') hx (by omega)
                  rw [s1, s2] at HS
                  have HTk2 : Hid (loE (ins2.take (p + 1)) n2' = min y le) := Lib.hid (by rw [HTk.out, if_pos hx0, Int.toNat_natCast])
                  clear hx hx0 s1 s2 hle hxb HTk
                  go_wp2_with fail
                  refine Calls.mono HS.out ?_
                  rintro e w7 ⟨rfl, hE7, hT7⟩
                  have E7 := Lib.hid (hEr.out.go hE7 (Goes.of_tch hT7))
                  have K7 := Lib.hid (hKr.out.go (Goes.of_tch hT7))
                  clear hE7 hT7 HS
                  by_cases hyl : y < le
                  · have m1 : (y : Int) < (le : Int) := by omega
                    have m2 : (if (y : Int) < (le : Int) then (y : Int) else (le : Int)) = (y : Int) := if_pos m1
                    have m3 : decide (y < le) = true := decide_eq_true hyl
                    go_wp2
                    go_roundw
                    case rel => exact ⟨p + 1, by rw [HTk2.out, show min y le = y by omega], by go_num, hpR, E7, K7⟩
                    case measure => simp [intOf]; omega
                  · have m1 : ¬ (y : Int) < (le : Int) := by omega
                    have m2 : (if (y : Int) < (le : Int) then (y : Int) else (le : Int)) = (le : Int) := if_neg m1
                    have m3 : decide (y < le) = false := decide_eq_false hyl
                    go_wp2
                    go_roundw
                    case rel => exact ⟨p + 1, by rw [HTk2.out, show min y le = le by omega], by go_num, hpR, E7, K7⟩
                    case measure => simp [intOf]; omega
                · have hin : inE ins2 ((p : Int) + 1) = false := by rw [(inE_at hx).1]; exact decide_eq_false hx0
                  rw [hin, seeV_no hin] at HS
                  have HTk2 : Hid (loE (ins2.take (p + 1)) n2' = le) := Lib.hid (by rw [HTk.out, if_neg hx0])
                  clear hx hx0 hin hle hxb HTk
                  go_wp2_with fail
                  refine Calls.mono HS.out ?_
                  rintro e w7 ⟨rfl, hE7, hT7⟩
                  have E7 := Lib.hid (hEr.out.go hE7 (Goes.of_tch hT7))
                  have K7 := Lib.hid (hKr.out.go (Goes.of_tch hT7))
                  clear hE7 hT7 HS
                  go_wp2
                  go_roundw
                  case rel => exact ⟨p + 1, by rw [HTk2.out], by go_num, hpR, E7, K7⟩
                  case measure => simp [intOf]; omega
              · obtain rfl : p = R := by omega
                have i1 : ¬ (p : Int) + 1 ≤ (p : Int) := by omega
                have hll : le = lo2 := by rw [← hle, List.take_of_length_le (Nat.le_of_eq HN2.out.2.2)]; exact HLe.out
                subst hll
                obtain ⟨gx, ex, cx⟩ := hKr.out.sl.2 0 _ HX0.out
                subst ex
                have bx : ((le : Int) != (le : Int)) = false := by simp
                clear hle hpR hp
                go_wp2
                go_roundw
                case rel => exact ⟨j + 1, n2', S4, ins2, rfl, by go_num, by go_num, h1, h2, Lib.hid (by have := HN2.out; omega), hEr⟩
                case measure => simp [intOf]; omega
    · rcases (show ¬ j < l1 ∨ (j < l1 ∧ ¬ j < 200) by omega) with h1 | ⟨h1, h2⟩
      · have hjI : ¬ (j : Int) < l1 := by omega
        clear hlt h1
        go_wp2
        go_ret
        exact ⟨rfl, hE.out.bel⟩
      · have hjI : (j : Int) < l1 := by omega
        have hjI2 : ¬ (j : Int) < 200 := by omega
        clear hlt h1 h2
        go_wp2
        go_ret
        exact ⟨rfl, hE.out.bel⟩
set_option maxRecDepth 100000 in
theorem contract (H : Type) (enc : TypeId × Value → H) (W : World) (base : Nat) (args : Array Value) (ds gs : List (DataW H)) (before : List MemPlace)
    (hval0 : ∀ (j : Nat) t v, Try.f6.params[j]? = some t → args[j]? = some v → Value.okWide Try.prog W .any base t v)
    (hW : DataW.Whole enc Try.prog Try.f6.params.toList Rows.epochPromptSpec.vars false W args.toList ds gs before)
    (hsz0 : (DataW.weightsEach Try.prog (Try.f6.params.toList ++ Rows.epochPromptSpec.plain.varTypes Try.prog) (ds ++ gs)).all (· ≤ reachBytes) = true) :
    Calls Try.prog 6 args W fun e W' => ∃ v, e = .returned v ∧ Rows.epochPromptSpec.post enc Try.prog Try.f6 false true false false W args v W' := by
  have hsz := hsz0
  clear hsz0
  have hval := hval0
  clear hval0
  have hW' := hW
  obtain ⟨p, q, hA0, hV, rfl, hfz, hnd⟩ := hW
  have hA : DataW.TrodAll enc Try.prog W 0 (fun _ => true) true Try.f6.params.toList args.toList ds p := hA0
  rw [Try.params6] at hA hval hsz
  obtain ⟨v0, vs0, d0, ds0, p0, q0, hargs, rfl, rfl, h0, r0⟩ := trodAll_cons hA
  obtain ⟨v1, vs1, d1, ds1, p1, q1, rfl, rfl, rfl, h1, r1⟩ := trodAll_cons r0
  obtain ⟨rfl, rfl, rfl⟩ := trodAll_nil r1
  obtain rfl : args = #[v0, v1] := by cases args; simp_all
  obtain ⟨rfl, rfl⟩ := trodVars_none hV
  obtain ⟨a0, rfl, rfl, rfl, w0⟩ := open_int Try.underlying3 (hval 0 3 v0 rfl rfl) h0
  obtain ⟨a1, l1, c1, rfl⟩ := okWide_slice Try.underlying22 (hval 1 22 v1 rfl rfl)
  have k1 := h1
  have lt1 : ∀ x ∈ p1, x.block < W.heap.size := by obtain ⟨m, hm⟩ := k1; exact DataW.trod_lt m _ _ _ hm
  obtain ⟨z1, w1⟩ := isStp_of h1
  clear hA0
  refine (walk W a0 w0 a1 l1 c1 z1 w1).mono fun e W' ⟨he, bel⟩ => ?_
  subst he
  exact ⟨_, rfl, _, _, _, [], _, [], hW', trodAll_mk1 (shut_bool Try.underlying4 _), (trodAll_cons_mk (shut_int Try.underlying3 w0) (trodAll_cons_mk (Below.trod laidOut (by kernel_rfl) (of_decide_eq_true (by kernel_rfl)) k1 bel lt1) trodAll_mk0)), rfl, bel.frame _, fun h => by cases h⟩

set_option maxRecDepth 100000 in
theorem lifted (os : Os) (started : os.Started) (H : Type) (enc : TypeId × Value → H) :
    ReturnsInHanded {} Try.checked os 6 .any (Rows.epochPromptSpec.pre6 enc Try.prog Try.f6 Rows.epochPromptRow.domain false) (Rows.epochPromptSpec.post enc Try.prog Try.f6 false true false false) := by
  refine returnsInHanded_of_change_sized (C := Try.checked) own started (by kernel_rfl) Try.func6
    (ChangeSpec.witness6 (enc := enc) (C := Try.checked) false ⟨#[], #[.int .i64 0, .slice none 0 0], []⟩ 8 (by kernel_rfl) (by kernel_rfl) (by kernel_rfl) (by kernel_rfl)) ?_
  intro W base args ds gs before hval hW _ hsz _
  exact contract H enc W base args ds gs before hval hW hsz

theorem over : Rows.epochPromptRow.holds Try.pinned (OpenSpec.ofChange Rows.epochPromptSpec) :=
  OpenClaim.holds_of_wide 6 Try.f6 rfl rfl rfl rfl rfl rfl rfl ⟨rfl, rfl, rfl, rfl, rfl⟩ rfl rfl rfl rfl rfl (by kernel_rfl) Try.func6 (by kernel_rfl)
    (of_decide_eq_true (by kernel_rfl)) (by unfold Func.isWrapper; first | (rw [if_pos (by decide +kernel)]; kernel_rfl) | (rw [if_neg (by decide +kernel)]; exact ⟨rfl, rfl⟩))
    (fun os started H enc _ => lifted os started H enc)

theorem proved : Rows.EpochPromptSaid := over
#print axioms proved
end EPrm
end Go.Proofs.Ytakeodnebegbhaa
