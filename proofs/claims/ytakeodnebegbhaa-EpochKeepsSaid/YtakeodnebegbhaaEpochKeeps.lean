/-
  crosswaylaw13.EpochKeeps returns true for every input, and leaves its arguments alone.
  Conditions: none of our own.
-/
import Derived.Test.YtakeodnebegbhaaEpW
namespace Go.Proofs.Ytakeodnebegbhaa
open Go.ChangeShapes Go.WideShapes Go.ChangeAt Go.RowKit
set_option linter.unusedVariables false
namespace EKee
set_option maxRecDepth 100000 in
set_option maxHeartbeats 4000000 in
theorem walk (w : World) (a0 : Int) (w0 : (Lit.int .i64 a0).wf = true) (a1 : Option Addr) (l1 c1 : Nat) (z1 : List Stp) (w1 : IsStp w a1 l1 z1) :
    Calls Try.prog 4 #[.int .i64 a0, .slice a1 l1 c1] w fun e w' => e = .returned (.bool true) ∧ Below w.heap.size w w' := by
  have hb0 := i64_bd w0
  have h15 := i64_and15 a0
  obtain ⟨k, hk⟩ : ∃ k : Nat, a0 % 16 = (k : Int) := ⟨(a0 % 16).toNat, by omega⟩
  have hk16 : k < 16 := by omega
  rw [hk] at h15
  obtain ⟨R, hR⟩ : ∃ R : Nat, k + 1 = R := ⟨_, rfl⟩
  have j0 : IntKind.i64.wrap (1 + (k : Int)) = (R : Int) := by rw [IntKind.wrap_i64]; omega
  have hR1 : 1 ≤ R ∧ R ≤ 16 := by omega
  have HNw := Lib.hid (fun W => newP_ok R 0 hR1.1 hR1.2 W)
  have HZ := Lib.hid w1
  clear hk hb0 w0 w1 hR hk16
  go_enter Try.func4, Try.ntmps4
  go_wp2_with fail
  refine Calls.mono (awake_yes w) ?_
  rintro e x1 ⟨rfl, hb1⟩
  have B1 := Lib.hid hb1
  clear hb1
  go_wp2_with fail
  refine Calls.mono (HNw.out x1) ?_
  rintro e x2 ⟨d, S2, rfl, hE, hb, hs⟩
  have E2 : Hid (Std w x2 d S2 [0] (List.replicate R (-1))) := Lib.hid ⟨hE, B1.out.trans (hb.mono B1.out.size), fun s h => Nat.le_trans B1.out.size (hs s h)⟩
  clear hE hb hs HNw
  go_wp2
  go_loopw [4, 8, 9, 10] (fun fv nv bv iv wr => ∃ (j n : Nat) (S : List Nat) (ins : List Int), fv = .bool false ∧ nv = .int .i64 (n : Int) ∧ bv = .int .i64 ((lowE (rgE n) ins : Nat) : Int) ∧ iv = .int .i64 (j : Int) ∧ j ≤ l1 ∧ j ≤ 200 ∧ Hid (0 < n ∧ n ≤ j + 1 ∧ ins.length = R) ∧ Hid (Std w wr d S (rgE n) ins)) (fun _ _ _ iv _ => 200 - (intOf iv).toNat)
  case atStart => exact ⟨0, 1, S2, List.replicate R (-1), rfl, rfl, by rw [show lowE (rgE 1) (List.replicate R (-1)) = 0 by have := lowE_le (rgE 1) (List.replicate R (-1)); rw [rgE_len] at this; omega]; rfl, rfl, Nat.zero_le _, by omega, Lib.hid ⟨by omega, by omega, by simp⟩, E2⟩
  case round =>
    obtain ⟨j, n, S, ins, rfl, rfl, rfl, rfl, hj, hj2, hA, hE⟩ := hrel
    by_cases hlt : j < l1 ∧ j < 200
    · obtain ⟨h1, h2⟩ := hlt
      obtain ⟨g, o, q1, q2, rfl, hg, -, c0, c1, -, -⟩ := HZ.out.cells hE.out.bel h1
      have hjI : (j : Int) < l1 := by omega
      have hjI2 : (j : Int) < 200 := by omega
      have hj0 : (0 : Int) ≤ j := by omega
      have j3 : IntKind.i64.wrap ((j : Int) + 1) = (j : Int) + 1 := by rw [IntKind.wrap_i64]; omega
      have k3 := i64_and3 q1
      have k15 := i64_and15 q2
      have hm3 : 0 ≤ q1 % 4 ∧ q1 % 4 < 4 := by omega
      have hm15 : 0 ≤ q2 % 16 ∧ q2 % 16 < 16 := by omega
      obtain ⟨kd, hkd⟩ : ∃ kd, q1 % 4 = kd := ⟨_, rfl⟩
      obtain ⟨rr, hrr⟩ : ∃ rr, q2 % 16 = rr := ⟨_, rfl⟩
      rw [hkd] at k3 hm3
      rw [hrr] at k15 hm15
      have j5 : IntKind.i64.wrap (1 + rr) = 1 + rr := by rw [IntKind.wrap_i64]; omega
      have HLn : Hid ((rgE n).length ≤ 90000) := Lib.hid (by rw [rgE_len]; have := hA.out; omega)
      have HJ : Hid (j < 200) := Lib.hid h2
      obtain ⟨w3, hw⟩ : ∃ x, wr.alloc (.cells #[.int .i64 q1, .int .i64 q2] 32) = x := ⟨_, rfl⟩
      have E3 := Lib.hid (hw ▸ hE.out.alloc (.cells #[.int .i64 q1, .int .i64 q2] 32))
      have HW3 := Lib.hid hw
      have hn0 := hA.out.1
      have HLo := Lib.hid (low_rg (ins := ins) hn0)
      obtain ⟨lo, hlo⟩ : ∃ lo, lowE (rgE n) ins = lo := ⟨_, rfl⟩
      have HLoe := Lib.hid hlo
      rw [hlo] at HLo ⊢
      have n2 : IntKind.i64.wrap ((n : Int) + 1) = ((n + 1 : Nat) : Int) := by have := hA.out; rw [IntKind.wrap_i64]; omega
      have HP := pubP d S (rgE n) ins (n : Int) HLn.out w3 E3.out.ep
      have HN := Lib.hid (entP d S (rgE n) ins (1 + rr) HLn.out w3 E3.out.ep)
      have HV := levP d S (rgE n) ins (1 + rr) HLn.out w3 E3.out.ep
      rw [rgE_snoc] at HP
      clear hkd hrr hg hw hlo
      by_cases kd0 : kd = 0
      · subst kd0
        have b0 : ((0 : Int) == 0) = true := by decide
        obtain ⟨xs, hxs⟩ : ∃ xs, pubV (rgE n) ins (n : Int) = xs := ⟨_, rfl⟩
        obtain ⟨lo2, hlo2⟩ : ∃ lo2, lowE (rgE (n + 1)) ins = lo2 := ⟨_, rfl⟩
        have hle : lo ≤ lo2 := by have h9 := lowE_pub (rgE n) ins (n : Int); rw [rgE_snoc, HLoe.out, hlo2] at h9; exact h9
        have hl2 : lo2 < n + 1 := by rw [← hlo2]; exact low_rg (Nat.succ_pos n)
        have hxe : xs = bkE (rgE (n + 1)) lo lo2 := by rw [← hxs]; unfold pubV; rw [rgE_snoc, HLoe.out, hlo2]
        obtain ⟨m, hm⟩ : ∃ m, xs.length = m := ⟨_, rfl⟩
        have hml : m = lo2 - lo := by rw [← hm, hxe]; exact bkE_rg_len (by omega)
        have HX : Hid (lo + m ≤ 202 ∧ lo + m = lo2 ∧ ∀ k, k < m → xs[k]? = some ((lo + k : Nat) : Int)) := Lib.hid ⟨by have := hA.out; omega, by omega, fun k hk => by rw [hxe]; exact bkE_rg (by omega) (by omega)⟩
        have HN2 : Hid (0 < n + 1 ∧ n + 1 ≤ j + 2 ∧ ins.length = R ∧ lowE (rgE (n + 1)) ins = lo2 ∧ lo2 < n + 1) := Lib.hid ⟨by omega, by have := hA.out; omega, hA.out.2.2, hlo2, hl2⟩
        rw [hxs, hm] at HP
        have HPh := Lib.hid HP
        clear HP HN HV hxs hlo2 hle hl2 hxe hml
        go_wp2_with fail
        rw [HW3.out]
        refine Calls.mono HPh.out ?_
        rintro e w4 ⟨A4, c4, S4, rfl, hN4, hE4, hG4⟩
        have E4 := Lib.hid (E3.out.go hE4 hG4)
        have K4 := Lib.hid hN4.kept
        rw [hm] at K4
        clear hN4 hE4 hG4 HPh E3 hm hE
        obtain ⟨n2', hn2'⟩ : ∃ n2', n2' = n + 1 := ⟨_, rfl⟩
        obtain ⟨ins2, hi2⟩ : ∃ ins2, ins2 = ins := ⟨_, rfl⟩
        rw [← hn2', ← hi2] at HN2 E4
        rw [← hn2'] at n2
        clear hn2' hi2
        have hN2 := HN2.out
        have HLn2 : Hid ((rgE n2').length ≤ 90000) := Lib.hid (by rw [rgE_len]; have := HN2.out; have := HJ.out; omega)
        have hm9 : m ≤ 1000 := by have := HX.out.1; have := HJ.out; omega
        have hlo9 : lo + m ≤ 1000 := by have := HX.out.1; have := HJ.out; omega
        obtain ⟨q, hq⟩ : ∃ q : Nat, n2' = q + 1 := ⟨n2' - 1, by omega⟩
        have HQ : Hid (n2' = q + 1 ∧ lo2 ≤ q ∧ q ≤ 1000) := Lib.hid (by have := HJ.out; omega)
        have v1 : IntKind.i64.wrap ((n2' : Int) - 1) = (q : Int) := by have := HQ.out; rw [IntKind.wrap_i64]; omega
        obtain ⟨Wl, hWl⟩ : ∃ Wl, q - lo2 = Wl := ⟨_, rfl⟩
        have HWL := Lib.hid hWl
        clear hN2 hq hWl
        go_wp2
        go_loop [4, 9, 16] (fun fv bv kv => ∃ k : Nat, fv = .bool false ∧ bv = .int .i64 ((lo + k : Nat) : Int) ∧ kv = .int .i64 (k : Int) ∧ k ≤ m) (fun _ _ kv => m - (intOf kv).toNat)
        case atStart => exact ⟨0, rfl, rfl, rfl, Nat.zero_le _⟩
        case round =>
          obtain ⟨k, rfl, rfl, rfl, hk⟩ := hrel
          by_cases hkm : k < m
          · have i1 : (k : Int) < (m : Int) := by omega
            have i0 : (0 : Int) ≤ (k : Int) := by omega
            have i2 : IntKind.i64.wrap ((k : Int) + 1) = (k : Int) + 1 := by rw [IntKind.wrap_i64]; omega
            have i3 : IntKind.i64.wrap (((lo + k : Nat) : Int) + 1) = ((lo + (k + 1) : Nat) : Int) := by rw [IntKind.wrap_i64]; omega
            obtain ⟨gx, ex, cx⟩ := K4.out.sl.2 k _ (HX.out.2.2 k hkm)
            subst ex
            have bx : (((lo + k : Nat) : Int) != ((lo + k : Nat) : Int)) = false := by simp
            obtain ⟨z, hz⟩ : ∃ z : Int, ((lo + k : Nat) : Int) = z := ⟨_, rfl⟩
            rw [hz] at cx bx i3 ⊢
            go_wp2
            go_round
            case rel => exact ⟨k + 1, rfl, rfl, by go_num, hkm⟩
            case measure => simp [intOf]; omega
          · obtain rfl : k = m := by omega
            have i1 : ¬ (k : Int) < (k : Int) := by omega
            have hl2 : ((lo + k : Nat) : Int) = (lo2 : Int) := by have := HX.out.2.1; omega
            rw [hl2]
            clear hkm hk hl2 hm9 hlo9
            have HC := Lib.hid (curP d S4 (rgE n2') ins2 HLn2.out w4 E4.out.ep)
            rw [curE_rg HN2.out.1, show ((n2' - 1 : Nat) : Int) = (q : Int) by have := HQ.out; omega] at HC
            have bq : ((q : Int) != (q : Int)) = false := by simp
            have b2 : ¬ (n2' : Int) ≤ (lo2 : Int) := by have := HQ.out; omega
            have b3 : ¬ n2' ≤ lo2 := by have := HQ.out; omega
            have b4 : decide (n2' ≤ lo2) = false := decide_eq_false b3
            have v2 : IntKind.i64.wrap ((q : Int) - (lo2 : Int)) = (Wl : Int) := by have := HQ.out; have := HWL.out; rw [IntKind.wrap_i64]; omega
            have bw : ((Wl : Int) != (Wl : Int)) = false := by simp
            go_wp2_with fail
            refine Calls.mono HC.out ?_
            rintro e w5 ⟨rfl, hE5, hT5⟩
            have E5 := Lib.hid (E4.out.go hE5 (Goes.of_tch hT5))
            have HWt := Lib.hid (waitP d S4 (rgE n2') ins2 HLn2.out w5 E5.out.ep)
            have hwl : (wtE (rgE n2') ins2).length = Wl := by
              unfold wtE
              rw [bkE_rg_len (by rw [rgE_len]; omega), rgE_len, HN2.out.2.2.2.1, ← HWL.out]
              have := HQ.out; omega
            rw [hwl] at HWt
            clear hE5 hT5 HC K4 hwl
            go_wp2_with fail
            refine Calls.mono HWt.out ?_
            rintro e w6 ⟨A6, c6, rfl, hN6, hE6, hT6⟩
            have E6 := Lib.hid (E5.out.go hE6 (Goes.of_tch hT6))
            have HI6 := Lib.hid E6.out.ep.inv
            clear hN6 hE6 hT6 HWt E5 E4
            go_wp2
            go_loopw [4, 17] (fun fv rv wr => ∃ p : Nat, fv = .bool false ∧ rv = .int .i64 ((p : Int) + 1) ∧ p ≤ R ∧ Hid (Std w wr d S4 (rgE n2') ins2)) (fun _ rv _ => 17 - (intOf rv).toNat)
            case atStart => exact ⟨0, rfl, rfl, Nat.zero_le _, E6⟩
            case round =>
              obtain ⟨p, rfl, rfl, hp, hEr⟩ := hrel
              by_cases hpR : p < R
              · have i1 : (p : Int) + 1 ≤ (R : Int) := by omega
                have p2 : IntKind.i64.wrap ((p : Int) + 1 + 1) = (p : Int) + 1 + 1 := by rw [IntKind.wrap_i64]; omega
                have HS := Lib.hid (seeP d S4 (rgE n2') ins2 ((p : Int) + 1) HLn2.out wr hEr.out.ep)
                by_cases hin : inE ins2 ((p : Int) + 1) = true
                · obtain ⟨y, hy, hy1, -, -⟩ := see_rg HI6.out hin
                  rw [hin, hy] at HS
                  have by1 : ¬ (y : Int) < (lo2 : Int) := by rw [HN2.out.2.2.2.1] at hy1; omega
                  have by2 : ¬ y < lo2 := by omega
                  have by3 : decide (y < lo2) = false := decide_eq_false by2
                  clear hin hy hy1
                  go_wp2_with fail
                  refine Calls.mono HS.out ?_
                  rintro e w7 ⟨rfl, hE7, hT7⟩
                  have E7 := Lib.hid (hEr.out.go hE7 (Goes.of_tch hT7))
                  clear hE7 hT7 HS
                  go_wp2
                  go_roundw
                  case rel => exact ⟨p + 1, rfl, by go_num, hpR, E7⟩
                  case measure => simp [intOf]; omega
                · have hin : inE ins2 ((p : Int) + 1) = false := by simpa using hin
                  rw [hin, seeV_no hin] at HS
                  clear hin
                  go_wp2_with fail
                  refine Calls.mono HS.out ?_
                  rintro e w7 ⟨rfl, hE7, hT7⟩
                  have E7 := Lib.hid (hEr.out.go hE7 (Goes.of_tch hT7))
                  clear hE7 hT7 HS
                  go_wp2
                  go_roundw
                  case rel => exact ⟨p + 1, rfl, by go_num, hpR, E7⟩
                  case measure => simp [intOf]; omega
              · obtain rfl : p = R := by omega
                have i1 : ¬ (p : Int) + 1 ≤ (p : Int) := by omega
                clear hpR hp
                go_wp2
                go_roundw
                case rel => exact ⟨j + 1, n2', S4, ins2, rfl, by go_num, by rw [HN2.out.2.2.2.1], by go_num, h1, h2, Lib.hid (by have := HN2.out; omega), hEr⟩
                case measure => simp [intOf]; omega
      · by_cases kd1 : kd = 1
        · subst kd1
          have b0 : ((1 : Int) == 0) = false := by decide
          have b1 : ((1 : Int) == 1) = true := by decide
          obtain ⟨q, hq⟩ : ∃ q : Nat, n = q + 1 := ⟨n - 1, by omega⟩
          have hn1 : IntKind.i64.wrap ((n : Int) - 1) = (q : Int) := by have := hA.out; rw [IntKind.wrap_i64]; omega
          have HQ0 := Lib.hid hq
          have HX : Hid (lo + 0 ≤ 202 ∧ lo + 0 = lo ∧ ∀ k, k < 0 → ([] : List Int)[k]? = some ((lo + k : Nat) : Int)) := Lib.hid ⟨by have := hA.out; have := HLo.out; omega, rfl, fun k hk => absurd hk (by omega)⟩
          have HN2 : Hid (0 < n ∧ n ≤ j + 2 ∧ (entI (rgE n) ins (1 + rr)).length = R ∧ lowE (rgE n) (entI (rgE n) ins (1 + rr)) = lo ∧ lo < n) := Lib.hid ⟨hn0, by have := hA.out; omega, by rw [entI_len]; exact hA.out.2.2, by rw [lowE_ent]; exact HLoe.out, HLo.out⟩
          clear HP HV
          by_cases hou : outE ins (1 + rr) = true
          · rw [entV_yes hou, entN_yes hou, curE_rg hn0, show ((n - 1 : Nat) : Int) = (q : Int) by omega] at HN
            have bq0 : ((q : Int) != (q : Int)) = false := by simp
            clear hq
            clear hou
            go_wp2_with fail
            rw [HW3.out]
            refine Calls.mono HN.out ?_
            rintro e w4 ⟨S4, rfl, hE4, hG4⟩
            have E4 := Lib.hid (E3.out.go hE4 hG4)
            have K4 : Hid (Kept w4 S4 none 0 []) := Lib.hid ⟨⟨rfl, fun k z hz => by simp at hz⟩, fun g hg => by cases hg⟩
            clear hE4 hG4 HN E3 hE n2
            obtain ⟨n2', hn2'⟩ : ∃ n2', n2' = n := ⟨_, rfl⟩
            obtain ⟨ins2, hi2⟩ : ∃ ins2, entI (rgE n) ins (1 + rr) = ins2 := ⟨_, rfl⟩
            rw [hi2] at HN2 E4
            rw [← hn2'] at HN2 E4 hn1 HQ0 ⊢
            obtain ⟨lo2, hlo2⟩ : ∃ lo2, lo2 = lo := ⟨_, rfl⟩
            rw [← hlo2] at HN2
            have HX : Hid (lo + 0 ≤ 202 ∧ lo + 0 = lo2 ∧ True) := Lib.hid ⟨HX.out.1, by omega, trivial⟩
            clear hn2' hi2 hlo2
            have hN2 := HN2.out
            have HLn2 : Hid ((rgE n2').length ≤ 90000) := Lib.hid (by rw [rgE_len]; have := HN2.out; have := HJ.out; omega)
            have HQ : Hid (n2' = q + 1 ∧ lo2 ≤ q ∧ q ≤ 1000) := Lib.hid (by have := HJ.out; have := HQ0.out; omega)
            obtain ⟨Wl, hWl⟩ : ∃ Wl, q - lo2 = Wl := ⟨_, rfl⟩
            have HWL := Lib.hid hWl
            clear hN2 hWl
            go_wp2
            go_loop [4, 9, 16] (fun fv bv kv => fv = .bool false ∧ bv = .int .i64 (lo : Int) ∧ kv = .int .i64 0) (fun _ _ _ => 0)
            case atStart => exact ⟨rfl, rfl, rfl⟩
            case round =>
              obtain ⟨rfl, rfl, rfl⟩ := hrel
              have hl2 : lo2 = lo := by have := HX.out.2.1; omega
              rw [← hl2]
              clear hl2
              have HC := Lib.hid (curP d S4 (rgE n2') ins2 HLn2.out w4 E4.out.ep)
              rw [curE_rg HN2.out.1, show ((n2' - 1 : Nat) : Int) = (q : Int) by have := HQ.out; omega] at HC
              have bq : ((q : Int) != (q : Int)) = false := by simp
              have b2 : ¬ (n2' : Int) ≤ (lo2 : Int) := by have := HQ.out; omega
              have b3 : ¬ n2' ≤ lo2 := by have := HQ.out; omega
              have b4 : decide (n2' ≤ lo2) = false := decide_eq_false b3
              have v2 : IntKind.i64.wrap ((q : Int) - (lo2 : Int)) = (Wl : Int) := by have := HQ.out; have := HWL.out; rw [IntKind.wrap_i64]; omega
              have bw : ((Wl : Int) != (Wl : Int)) = false := by simp
              go_wp2_with fail
              refine Calls.mono HC.out ?_
              rintro e w5 ⟨rfl, hE5, hT5⟩
              have E5 := Lib.hid (E4.out.go hE5 (Goes.of_tch hT5))
              have HWt := Lib.hid (waitP d S4 (rgE n2') ins2 HLn2.out w5 E5.out.ep)
              have hwl : (wtE (rgE n2') ins2).length = Wl := by
                unfold wtE
                rw [bkE_rg_len (by rw [rgE_len]; omega), rgE_len, HN2.out.2.2.2.1, ← HWL.out]
                have := HQ.out; omega
              rw [hwl] at HWt
              clear hE5 hT5 HC K4 hwl
              go_wp2_with fail
              refine Calls.mono HWt.out ?_
              rintro e w6 ⟨A6, c6, rfl, hN6, hE6, hT6⟩
              have E6 := Lib.hid (E5.out.go hE6 (Goes.of_tch hT6))
              have HI6 := Lib.hid E6.out.ep.inv
              clear hN6 hE6 hT6 HWt E5 E4
              go_wp2
              go_loopw [4, 17] (fun fv rv wr => ∃ p : Nat, fv = .bool false ∧ rv = .int .i64 ((p : Int) + 1) ∧ p ≤ R ∧ Hid (Std w wr d S4 (rgE n2') ins2)) (fun _ rv _ => 17 - (intOf rv).toNat)
              case atStart => exact ⟨0, rfl, rfl, Nat.zero_le _, E6⟩
              case round =>
                obtain ⟨p, rfl, rfl, hp, hEr⟩ := hrel
                by_cases hpR : p < R
                · have i1 : (p : Int) + 1 ≤ (R : Int) := by omega
                  have p2 : IntKind.i64.wrap ((p : Int) + 1 + 1) = (p : Int) + 1 + 1 := by rw [IntKind.wrap_i64]; omega
                  have HS := Lib.hid (seeP d S4 (rgE n2') ins2 ((p : Int) + 1) HLn2.out wr hEr.out.ep)
                  by_cases hin : inE ins2 ((p : Int) + 1) = true
                  · obtain ⟨y, hy, hy1, -, -⟩ := see_rg HI6.out hin
                    rw [hin, hy] at HS
                    have by1 : ¬ (y : Int) < (lo2 : Int) := by rw [HN2.out.2.2.2.1] at hy1; omega
                    have by2 : ¬ y < lo2 := by omega
                    have by3 : decide (y < lo2) = false := decide_eq_false by2
                    clear hin hy hy1
                    go_wp2_with fail
                    refine Calls.mono HS.out ?_
                    rintro e w7 ⟨rfl, hE7, hT7⟩
                    have E7 := Lib.hid (hEr.out.go hE7 (Goes.of_tch hT7))
                    clear hE7 hT7 HS
                    go_wp2
                    go_roundw
                    case rel => exact ⟨p + 1, rfl, by go_num, hpR, E7⟩
                    case measure => simp [intOf]; omega
                  · have hin : inE ins2 ((p : Int) + 1) = false := by simpa using hin
                    rw [hin, seeV_no hin] at HS
                    clear hin
                    go_wp2_with fail
                    refine Calls.mono HS.out ?_
                    rintro e w7 ⟨rfl, hE7, hT7⟩
                    have E7 := Lib.hid (hEr.out.go hE7 (Goes.of_tch hT7))
                    clear hE7 hT7 HS
                    go_wp2
                    go_roundw
                    case rel => exact ⟨p + 1, rfl, by go_num, hpR, E7⟩
                    case measure => simp [intOf]; omega
                · obtain rfl : p = R := by omega
                  have i1 : ¬ (p : Int) + 1 ≤ (p : Int) := by omega
                  clear hpR hp
                  go_wp2
                  go_roundw
                  case rel => exact ⟨j + 1, n2', S4, ins2, rfl, by go_num, by rw [HN2.out.2.2.2.1], by go_num, h1, h2, Lib.hid (by have := HN2.out; omega), hEr⟩
                  case measure => simp [intOf]; omega
          · have hou : outE ins (1 + rr) = false := by simpa using hou
            rw [entV_no hou, entN_no hou] at HN
            clear hq
            clear hou
            go_wp2_with fail
            rw [HW3.out]
            refine Calls.mono HN.out ?_
            rintro e w4 ⟨S4, rfl, hE4, hG4⟩
            have E4 := Lib.hid (E3.out.go hE4 hG4)
            have K4 : Hid (Kept w4 S4 none 0 []) := Lib.hid ⟨⟨rfl, fun k z hz => by simp at hz⟩, fun g hg => by cases hg⟩
            clear hE4 hG4 HN E3 hE n2
            obtain ⟨n2', hn2'⟩ : ∃ n2', n2' = n := ⟨_, rfl⟩
            obtain ⟨ins2, hi2⟩ : ∃ ins2, entI (rgE n) ins (1 + rr) = ins2 := ⟨_, rfl⟩
            rw [hi2] at HN2 E4
            rw [← hn2'] at HN2 E4 hn1 HQ0 ⊢
            obtain ⟨lo2, hlo2⟩ : ∃ lo2, lo2 = lo := ⟨_, rfl⟩
            rw [← hlo2] at HN2
            have HX : Hid (lo + 0 ≤ 202 ∧ lo + 0 = lo2 ∧ True) := Lib.hid ⟨HX.out.1, by omega, trivial⟩
            clear hn2' hi2 hlo2
            have hN2 := HN2.out
            have HLn2 : Hid ((rgE n2').length ≤ 90000) := Lib.hid (by rw [rgE_len]; have := HN2.out; have := HJ.out; omega)
            have HQ : Hid (n2' = q + 1 ∧ lo2 ≤ q ∧ q ≤ 1000) := Lib.hid (by have := HJ.out; have := HQ0.out; omega)
            obtain ⟨Wl, hWl⟩ : ∃ Wl, q - lo2 = Wl := ⟨_, rfl⟩
            have HWL := Lib.hid hWl
            clear hN2 hWl
            go_wp2
            go_loop [4, 9, 16] (fun fv bv kv => fv = .bool false ∧ bv = .int .i64 (lo : Int) ∧ kv = .int .i64 0) (fun _ _ _ => 0)
            case atStart => exact ⟨rfl, rfl, rfl⟩
            case round =>
              obtain ⟨rfl, rfl, rfl⟩ := hrel
              have hl2 : lo2 = lo := by have := HX.out.2.1; omega
              rw [← hl2]
              clear hl2
              have HC := Lib.hid (curP d S4 (rgE n2') ins2 HLn2.out w4 E4.out.ep)
              rw [curE_rg HN2.out.1, show ((n2' - 1 : Nat) : Int) = (q : Int) by have := HQ.out; omega] at HC
              have bq : ((q : Int) != (q : Int)) = false := by simp
              have b2 : ¬ (n2' : Int) ≤ (lo2 : Int) := by have := HQ.out; omega
              have b3 : ¬ n2' ≤ lo2 := by have := HQ.out; omega
              have b4 : decide (n2' ≤ lo2) = false := decide_eq_false b3
              have v2 : IntKind.i64.wrap ((q : Int) - (lo2 : Int)) = (Wl : Int) := by have := HQ.out; have := HWL.out; rw [IntKind.wrap_i64]; omega
              have bw : ((Wl : Int) != (Wl : Int)) = false := by simp
              go_wp2_with fail
              refine Calls.mono HC.out ?_
              rintro e w5 ⟨rfl, hE5, hT5⟩
              have E5 := Lib.hid (E4.out.go hE5 (Goes.of_tch hT5))
              have HWt := Lib.hid (waitP d S4 (rgE n2') ins2 HLn2.out w5 E5.out.ep)
              have hwl : (wtE (rgE n2') ins2).length = Wl := by
                unfold wtE
                rw [bkE_rg_len (by rw [rgE_len]; omega), rgE_len, HN2.out.2.2.2.1, ← HWL.out]
                have := HQ.out; omega
              rw [hwl] at HWt
              clear hE5 hT5 HC K4 hwl
              go_wp2_with fail
              refine Calls.mono HWt.out ?_
              rintro e w6 ⟨A6, c6, rfl, hN6, hE6, hT6⟩
              have E6 := Lib.hid (E5.out.go hE6 (Goes.of_tch hT6))
              have HI6 := Lib.hid E6.out.ep.inv
              clear hN6 hE6 hT6 HWt E5 E4
              go_wp2
              go_loopw [4, 17] (fun fv rv wr => ∃ p : Nat, fv = .bool false ∧ rv = .int .i64 ((p : Int) + 1) ∧ p ≤ R ∧ Hid (Std w wr d S4 (rgE n2') ins2)) (fun _ rv _ => 17 - (intOf rv).toNat)
              case atStart => exact ⟨0, rfl, rfl, Nat.zero_le _, E6⟩
              case round =>
                obtain ⟨p, rfl, rfl, hp, hEr⟩ := hrel
                by_cases hpR : p < R
                · have i1 : (p : Int) + 1 ≤ (R : Int) := by omega
                  have p2 : IntKind.i64.wrap ((p : Int) + 1 + 1) = (p : Int) + 1 + 1 := by rw [IntKind.wrap_i64]; omega
                  have HS := Lib.hid (seeP d S4 (rgE n2') ins2 ((p : Int) + 1) HLn2.out wr hEr.out.ep)
                  by_cases hin : inE ins2 ((p : Int) + 1) = true
                  · obtain ⟨y, hy, hy1, -, -⟩ := see_rg HI6.out hin
                    rw [hin, hy] at HS
                    have by1 : ¬ (y : Int) < (lo2 : Int) := by rw [HN2.out.2.2.2.1] at hy1; omega
                    have by2 : ¬ y < lo2 := by omega
                    have by3 : decide (y < lo2) = false := decide_eq_false by2
                    clear hin hy hy1
                    go_wp2_with fail
                    refine Calls.mono HS.out ?_
                    rintro e w7 ⟨rfl, hE7, hT7⟩
                    have E7 := Lib.hid (hEr.out.go hE7 (Goes.of_tch hT7))
                    clear hE7 hT7 HS
                    go_wp2
                    go_roundw
                    case rel => exact ⟨p + 1, rfl, by go_num, hpR, E7⟩
                    case measure => simp [intOf]; omega
                  · have hin : inE ins2 ((p : Int) + 1) = false := by simpa using hin
                    rw [hin, seeV_no hin] at HS
                    clear hin
                    go_wp2_with fail
                    refine Calls.mono HS.out ?_
                    rintro e w7 ⟨rfl, hE7, hT7⟩
                    have E7 := Lib.hid (hEr.out.go hE7 (Goes.of_tch hT7))
                    clear hE7 hT7 HS
                    go_wp2
                    go_roundw
                    case rel => exact ⟨p + 1, rfl, by go_num, hpR, E7⟩
                    case measure => simp [intOf]; omega
                · obtain rfl : p = R := by omega
                  have i1 : ¬ (p : Int) + 1 ≤ (p : Int) := by omega
                  clear hpR hp
                  go_wp2
                  go_roundw
                  case rel => exact ⟨j + 1, n2', S4, ins2, rfl, by go_num, by rw [HN2.out.2.2.2.1], by go_num, h1, h2, Lib.hid (by have := HN2.out; omega), hEr⟩
                  case measure => simp [intOf]; omega
        · have b0 : (kd == 0) = false := by simpa using kd0
          have b1 : (kd == 1) = false := by simpa using kd1
          obtain ⟨xs, hxs⟩ : ∃ xs, levV (rgE n) ins (1 + rr) = xs := ⟨_, rfl⟩
          obtain ⟨ins2, hi2⟩ : ∃ ins2, levI ins (1 + rr) = ins2 := ⟨_, rfl⟩
          obtain ⟨lo2, hlo2⟩ : ∃ lo2, lowE (rgE n) ins2 = lo2 := ⟨_, rfl⟩
          have hle : lo ≤ lo2 := by have h9 := lowE_lev (rgE n) ins (1 + rr); rw [HLoe.out, hi2, hlo2] at h9; exact h9
          have hl2 : lo2 < n := by rw [← hlo2]; exact low_rg hn0
          have hxe : xs = bkE (rgE n) lo lo2 := by rw [← hxs]; unfold levV; rw [HLoe.out, hi2, hlo2]
          obtain ⟨m, hm⟩ : ∃ m, xs.length = m := ⟨_, rfl⟩
          have hml : m = lo2 - lo := by rw [← hm, hxe]; exact bkE_rg_len (by omega)
          have HX : Hid (lo + m ≤ 202 ∧ lo + m = lo2 ∧ ∀ k, k < m → xs[k]? = some ((lo + k : Nat) : Int)) := Lib.hid ⟨by have := hA.out; omega, by omega, fun k hk => by rw [hxe]; exact bkE_rg (by omega) (by omega)⟩
          have HN2 : Hid (0 < n ∧ n ≤ j + 2 ∧ ins2.length = R ∧ lowE (rgE n) ins2 = lo2 ∧ lo2 < n) := Lib.hid ⟨hn0, by have := hA.out; omega, by rw [← hi2, levI_len]; exact hA.out.2.2, hlo2, hl2⟩
          rw [hxs, hm, hi2] at HV
          have HVh := Lib.hid HV
          clear HP HN HV hxs hlo2 hle hl2 hxe hml hi2
          go_wp2_with fail
          rw [HW3.out]
          refine Calls.mono HVh.out ?_
          rintro e w4 ⟨A4, c4, S4, rfl, hN4, hE4, hG4⟩
          have E4 := Lib.hid (E3.out.go hE4 hG4)
          have K4 := Lib.hid hN4.kept
          rw [hm] at K4
          clear hN4 hE4 hG4 HVh E3 hm hE n2
          obtain ⟨n2', hn2'⟩ : ∃ n2', n2' = n := ⟨_, rfl⟩
          rw [← hn2'] at HN2 E4 ⊢
          clear hn2'
          have hN2 := HN2.out
          have HLn2 : Hid ((rgE n2').length ≤ 90000) := Lib.hid (by rw [rgE_len]; have := HN2.out; have := HJ.out; omega)
          have hm9 : m ≤ 1000 := by have := HX.out.1; have := HJ.out; omega
          have hlo9 : lo + m ≤ 1000 := by have := HX.out.1; have := HJ.out; omega
          obtain ⟨q, hq⟩ : ∃ q : Nat, n2' = q + 1 := ⟨n2' - 1, by omega⟩
          have HQ : Hid (n2' = q + 1 ∧ lo2 ≤ q ∧ q ≤ 1000) := Lib.hid (by have := HJ.out; omega)
          have v1 : IntKind.i64.wrap ((n2' : Int) - 1) = (q : Int) := by have := HQ.out; rw [IntKind.wrap_i64]; omega
          obtain ⟨Wl, hWl⟩ : ∃ Wl, q - lo2 = Wl := ⟨_, rfl⟩
          have HWL := Lib.hid hWl
          clear hN2 hq hWl
          go_wp2
          go_loop [4, 9, 16] (fun fv bv kv => ∃ k : Nat, fv = .bool false ∧ bv = .int .i64 ((lo + k : Nat) : Int) ∧ kv = .int .i64 (k : Int) ∧ k ≤ m) (fun _ _ kv => m - (intOf kv).toNat)
          case atStart => exact ⟨0, rfl, rfl, rfl, Nat.zero_le _⟩
          case round =>
            obtain ⟨k, rfl, rfl, rfl, hk⟩ := hrel
            by_cases hkm : k < m
            · have i1 : (k : Int) < (m : Int) := by omega
              have i0 : (0 : Int) ≤ (k : Int) := by omega
              have i2 : IntKind.i64.wrap ((k : Int) + 1) = (k : Int) + 1 := by rw [IntKind.wrap_i64]; omega
              have i3 : IntKind.i64.wrap (((lo + k : Nat) : Int) + 1) = ((lo + (k + 1) : Nat) : Int) := by rw [IntKind.wrap_i64]; omega
              obtain ⟨gx, ex, cx⟩ := K4.out.sl.2 k _ (HX.out.2.2 k hkm)
              subst ex
              have bx : (((lo + k : Nat) : Int) != ((lo + k : Nat) : Int)) = false := by simp
              obtain ⟨z, hz⟩ : ∃ z : Int, ((lo + k : Nat) : Int) = z := ⟨_, rfl⟩
              rw [hz] at cx bx i3 ⊢
              go_wp2
              go_round
              case rel => exact ⟨k + 1, rfl, rfl, by go_num, hkm⟩
              case measure => simp [intOf]; omega
            · obtain rfl : k = m := by omega
              have i1 : ¬ (k : Int) < (k : Int) := by omega
              have hl2 : ((lo + k : Nat) : Int) = (lo2 : Int) := by have := HX.out.2.1; omega
              rw [hl2]
              clear hkm hk hl2 hm9 hlo9
              have HC := Lib.hid (curP d S4 (rgE n2') ins2 HLn2.out w4 E4.out.ep)
              rw [curE_rg HN2.out.1, show ((n2' - 1 : Nat) : Int) = (q : Int) by have := HQ.out; omega] at HC
              have bq : ((q : Int) != (q : Int)) = false := by simp
              have b2 : ¬ (n2' : Int) ≤ (lo2 : Int) := by have := HQ.out; omega
              have b3 : ¬ n2' ≤ lo2 := by have := HQ.out; omega
              have b4 : decide (n2' ≤ lo2) = false := decide_eq_false b3
              have v2 : IntKind.i64.wrap ((q : Int) - (lo2 : Int)) = (Wl : Int) := by have := HQ.out; have := HWL.out; rw [IntKind.wrap_i64]; omega
              have bw : ((Wl : Int) != (Wl : Int)) = false := by simp
              go_wp2_with fail
              refine Calls.mono HC.out ?_
              rintro e w5 ⟨rfl, hE5, hT5⟩
              have E5 := Lib.hid (E4.out.go hE5 (Goes.of_tch hT5))
              have HWt := Lib.hid (waitP d S4 (rgE n2') ins2 HLn2.out w5 E5.out.ep)
              have hwl : (wtE (rgE n2') ins2).length = Wl := by
                unfold wtE
                rw [bkE_rg_len (by rw [rgE_len]; omega), rgE_len, HN2.out.2.2.2.1, ← HWL.out]
                have := HQ.out; omega
              rw [hwl] at HWt
              clear hE5 hT5 HC K4 hwl
              go_wp2_with fail
              refine Calls.mono HWt.out ?_
              rintro e w6 ⟨A6, c6, rfl, hN6, hE6, hT6⟩
              have E6 := Lib.hid (E5.out.go hE6 (Goes.of_tch hT6))
              have HI6 := Lib.hid E6.out.ep.inv
              clear hN6 hE6 hT6 HWt E5 E4
              go_wp2
              go_loopw [4, 17] (fun fv rv wr => ∃ p : Nat, fv = .bool false ∧ rv = .int .i64 ((p : Int) + 1) ∧ p ≤ R ∧ Hid (Std w wr d S4 (rgE n2') ins2)) (fun _ rv _ => 17 - (intOf rv).toNat)
              case atStart => exact ⟨0, rfl, rfl, Nat.zero_le _, E6⟩
              case round =>
                obtain ⟨p, rfl, rfl, hp, hEr⟩ := hrel
                by_cases hpR : p < R
                · have i1 : (p : Int) + 1 ≤ (R : Int) := by omega
                  have p2 : IntKind.i64.wrap ((p : Int) + 1 + 1) = (p : Int) + 1 + 1 := by rw [IntKind.wrap_i64]; omega
                  have HS := Lib.hid (seeP d S4 (rgE n2') ins2 ((p : Int) + 1) HLn2.out wr hEr.out.ep)
                  by_cases hin : inE ins2 ((p : Int) + 1) = true
                  · obtain ⟨y, hy, hy1, -, -⟩ := see_rg HI6.out hin
                    rw [hin, hy] at HS
                    have by1 : ¬ (y : Int) < (lo2 : Int) := by rw [HN2.out.2.2.2.1] at hy1; omega
                    have by2 : ¬ y < lo2 := by omega
                    have by3 : decide (y < lo2) = false := decide_eq_false by2
                    clear hin hy hy1
                    go_wp2_with fail
                    refine Calls.mono HS.out ?_
                    rintro e w7 ⟨rfl, hE7, hT7⟩
                    have E7 := Lib.hid (hEr.out.go hE7 (Goes.of_tch hT7))
                    clear hE7 hT7 HS
                    go_wp2
                    go_roundw
                    case rel => exact ⟨p + 1, rfl, by go_num, hpR, E7⟩
                    case measure => simp [intOf]; omega
                  · have hin : inE ins2 ((p : Int) + 1) = false := by simpa using hin
                    rw [hin, seeV_no hin] at HS
                    clear hin
                    go_wp2_with fail
                    refine Calls.mono HS.out ?_
                    rintro e w7 ⟨rfl, hE7, hT7⟩
                    have E7 := Lib.hid (hEr.out.go hE7 (Goes.of_tch hT7))
                    clear hE7 hT7 HS
                    go_wp2
                    go_roundw
                    case rel => exact ⟨p + 1, rfl, by go_num, hpR, E7⟩
                    case measure => simp [intOf]; omega
                · obtain rfl : p = R := by omega
                  have i1 : ¬ (p : Int) + 1 ≤ (p : Int) := by omega
                  clear hpR hp
                  go_wp2
                  go_roundw
                  case rel => exact ⟨j + 1, n2', S4, ins2, rfl, by go_num, by rw [HN2.out.2.2.2.1], by go_num, h1, h2, Lib.hid (by have := HN2.out; omega), hEr⟩
                  case measure => simp [intOf]; omega
    · rcases (show ¬ j < l1 ∨ (j < l1 ∧ ¬ j < 200) by omega) with h1 | ⟨h1, h2⟩
      · have hjI : ¬ (j : Int) < l1 := by omega
        clear hlt h1
        go_wp2
        go_ret
        exact ⟨rfl, hE.out.bel⟩
      · have hjI : (j : Int) < l1 := by omega
        have hjI2 : ¬ (j : Int) < 200 := by omega
        clear hlt h1 h2
        go_wp2
        go_ret
        exact ⟨rfl, hE.out.bel⟩
set_option maxRecDepth 100000 in
theorem contract (H : Type) (enc : TypeId × Value → H) (W : World) (base : Nat) (args : Array Value) (ds gs : List (DataW H)) (before : List MemPlace)
    (hval0 : ∀ (j : Nat) t v, Try.f4.params[j]? = some t → args[j]? = some v → Value.okWide Try.prog W .any base t v)
    (hW : DataW.Whole enc Try.prog Try.f4.params.toList Rows.epochKeepsSpec.vars false W args.toList ds gs before)
    (hsz0 : (DataW.weightsEach Try.prog (Try.f4.params.toList ++ Rows.epochKeepsSpec.plain.varTypes Try.prog) (ds ++ gs)).all (· ≤ reachBytes) = true) :
    Calls Try.prog 4 args W fun e W' => ∃ v, e = .returned v ∧ Rows.epochKeepsSpec.post enc Try.prog Try.f4 false true false false W args v W' := by
  have hsz := hsz0
  clear hsz0
  have hval := hval0
  clear hval0
  have hW' := hW
  obtain ⟨p, q, hA0, hV, rfl, hfz, hnd⟩ := hW
  have hA : DataW.TrodAll enc Try.prog W 0 (fun _ => true) true Try.f4.params.toList args.toList ds p := hA0
  rw [Try.params4] at hA hval hsz
  obtain ⟨v0, vs0, d0, ds0, p0, q0, hargs, rfl, rfl, h0, r0⟩ := trodAll_cons hA
  obtain ⟨v1, vs1, d1, ds1, p1, q1, rfl, rfl, rfl, h1, r1⟩ := trodAll_cons r0
  obtain ⟨rfl, rfl, rfl⟩ := trodAll_nil r1
  obtain rfl : args = #[v0, v1] := by cases args; simp_all
  obtain ⟨rfl, rfl⟩ := trodVars_none hV
  obtain ⟨a0, rfl, rfl, rfl, w0⟩ := open_int Try.underlying3 (hval 0 3 v0 rfl rfl) h0
  obtain ⟨a1, l1, c1, rfl⟩ := okWide_slice Try.underlying22 (hval 1 22 v1 rfl rfl)
  have k1 := h1
  have lt1 : ∀ x ∈ p1, x.block < W.heap.size := by obtain ⟨m, hm⟩ := k1; exact DataW.trod_lt m _ _ _ hm
  obtain ⟨z1, w1⟩ := isStp_of h1
  clear hA0
  refine (walk W a0 w0 a1 l1 c1 z1 w1).mono fun e W' ⟨he, bel⟩ => ?_
  subst he
  exact ⟨_, rfl, _, _, _, [], _, [], hW', trodAll_mk1 (shut_bool Try.underlying4 _), (trodAll_cons_mk (shut_int Try.underlying3 w0) (trodAll_cons_mk (Below.trod laidOut (by kernel_rfl) (of_decide_eq_true (by kernel_rfl)) k1 bel lt1) trodAll_mk0)), rfl, bel.frame _, fun h => by cases h⟩

set_option maxRecDepth 100000 in
theorem lifted (os : Os) (started : os.Started) (H : Type) (enc : TypeId × Value → H) :
    ReturnsInHanded {} Try.checked os 4 .any (Rows.epochKeepsSpec.pre6 enc Try.prog Try.f4 Rows.epochKeepsRow.domain false) (Rows.epochKeepsSpec.post enc Try.prog Try.f4 false true false false) := by
  refine returnsInHanded_of_change_sized (C := Try.checked) own started (by kernel_rfl) Try.func4
    (ChangeSpec.witness6 (enc := enc) (C := Try.checked) false ⟨#[], #[.int .i64 0, .slice none 0 0], []⟩ 8 (by kernel_rfl) (by kernel_rfl) (by kernel_rfl) (by kernel_rfl)) ?_
  intro W base args ds gs before hval hW _ hsz _
  exact contract H enc W base args ds gs before hval hW hsz

theorem over : Rows.epochKeepsRow.holds Try.pinned (OpenSpec.ofChange Rows.epochKeepsSpec) :=
  OpenClaim.holds_of_wide 4 Try.f4 rfl rfl rfl rfl rfl rfl rfl ⟨rfl, rfl, rfl, rfl, rfl⟩ rfl rfl rfl rfl rfl (by kernel_rfl) Try.func4 (by kernel_rfl)
    (of_decide_eq_true (by kernel_rfl)) (by unfold Func.isWrapper; first | (rw [if_pos (by decide +kernel)]; kernel_rfl) | (rw [if_neg (by decide +kernel)]; exact ⟨rfl, rfl⟩))
    (fun os started H enc _ => lifted os started H enc)

theorem proved : Rows.EpochKeepsSaid := over
#print axioms proved
end EKee
end Go.Proofs.Ytakeodnebegbhaa
