/-
  crosswaylaw12.RingSeen returns true for every input, and leaves its arguments alone.
  Conditions: none of our own.
-/
import Derived.Test.YtogbchahfkphoaaRgX
namespace Go.Proofs.Ytogbchahfkphoaa
open Go.ChangeShapes Go.WideShapes Go.ChangeAt Go.RowKit
set_option linter.unusedVariables false
namespace RSeen
theorem infoStr : (Try.prog.info? 9).map (fun i => (i.zero, i.size, i.bytes)) = some (some (.string ⟨#[]⟩), 1, 16) := by kernel_rfl
def strs (l : List ByteArray) : List Value := l.map Value.string
theorem strs_at {l : List ByteArray} {i : Nat} {s : ByteArray} (h : l[i]? = some s) : (strs l)[i]? = some (.string s) := by simp [strs, h]
set_option maxRecDepth 100000 in
set_option maxHeartbeats 4000000 in
theorem walk (w : World) (a0 : Int) (w0 : (Lit.int .i64 a0).wf = true) (a1 : Option Addr) (l1 c1 : Nat) (z1 : List Stp) (w1 : IsStp w a1 l1 z1) :
    Calls Try.prog 5 #[.int .i64 a0, .slice a1 l1 c1] w fun e w' => e = .returned (.bool true) ∧ Below w.heap.size w w' := by
  have hb0 := i64_bd w0
  have h7 := i64_and7 a0
  obtain ⟨k, hk⟩ : ∃ k : Nat, a0 % 8 = (k : Int) := ⟨(a0 % 8).toNat, by omega⟩
  have hk8 : k < 8 := by omega
  rw [hk] at h7
  have hp := two_pow16 (k := k) (by omega)
  have HNw := Lib.hid (fun W => newS_ok k (by omega) W)
  obtain ⟨N, hN⟩ : ∃ N : Nat, 2 ^ k = N := ⟨_, rfl⟩
  rw [hN] at HNw hp
  have HZ := Lib.hid w1
  clear hk hb0 w0 w1 hN
  go_enter Try.func5, Try.ntmps5
  go_wp2_with fail
  refine Calls.mono (awake_yes w) ?_
  rintro e x1 ⟨rfl, hb1⟩
  have B1 := Lib.hid hb1
  clear hb1
  go_wp2_with fail
  refine Calls.mono (HNw.out x1) ?_
  rintro e x2 ⟨r, b, rfl, hR, hb, hr, hbb⟩
  have R2 := Lib.hid hR
  have B2 := Lib.hid (And.intro (B1.out.trans (hb.mono B1.out.size)) (And.intro (Nat.le_trans B1.out.size hr) (Nat.le_trans B1.out.size hbb)))
  have HBel : Hid (∀ wr, Tch x2 wr [r, b] → Below w.heap.size w wr) := Lib.hid (fun wr hT => B2.out.1.trans (hT.below B2.out.1.size (by simp; exact ⟨B2.out.2.1, B2.out.2.2⟩)))
  clear hR hb hr hbb HNw
  go_wp2
  go_loopw [7] (fun iv wr => ∃ (j : Nat) (all : List ByteArray) (out : Nat), iv = .int .i64 (j : Int) ∧ j ≤ l1 ∧ j ≤ 200 ∧ Hid (all.length ≤ j) ∧ Hid (RgS wr r b N (elS all) out) ∧ Hid (Tch x2 wr [r, b])) (fun iv _ => 200 - (intOf iv).toNat)
  case atStart => exact ⟨0, [], 0, rfl, Nat.zero_le _, by omega, Lib.hid (Nat.le_refl _), R2, Lib.hid (Tch.refl _ _)⟩
  case round =>
    obtain ⟨j, all, out, rfl, hj, hj2, hA, hR, hT⟩ := hrel
    by_cases hlt : j < l1 ∧ j < 200
    · obtain ⟨h1, h2⟩ := hlt
      obtain ⟨g, o, q1, q2, q3, rfl, hg, -, c0, c1, c2, -, -⟩ := HZ.out.cells (HBel.out _ hT.out) h1
      have HK := Lib.hid (kind_any (q1, q2, q3) wr)
      simp only at HK
      have hjI : (j : Int) < l1 := by omega
      have hjI2 : (j : Int) < 200 := by omega
      have hj0 : (0 : Int) ≤ j := by omega
      have j3 : IntKind.i64.wrap ((j : Int) + 1) = (j : Int) + 1 := by rw [IntKind.wrap_i64]; omega
      have HGl := Lib.hid hg
      have HC2 := Lib.hid c2
      obtain ⟨kd, hkd⟩ : ∃ kd, q1 % 4 = kd := ⟨_, rfl⟩
      rw [hkd] at HK
      clear hkd hg
      go_wp2_with fail
      refine Calls.mono HK.out ?_
      rintro e w3 ⟨rfl, hb3⟩
      have d2 := (hb3.cell (p := ⟨g, o + j * 3 + 2, none⟩) (Nat.lt_of_lt_of_le HGl.out (HBel.out _ hT.out).size)).trans HC2.out
      have HR3 := Lib.hid (hR.out.below hb3)
      have HT3 := Lib.hid (hT.out.trans (Tch.of_below [r, b] hb3))
      have HLn : Hid ((elS all).length ≤ 900000) := Lib.hid (by have := hA.out; rw [elS_len]; omega)
      clear hb3 HK c0 c1 c2
      by_cases hk3 : kd < 3
      · by_cases hfull : (elS all).length = out + N
        · have HP := Lib.hid (pushS_full r b N (elS all) out q3 hfull HLn.out w3 HR3.out)
          clear hfull
          go_wp2_with fail
          refine Calls.mono HP.out ?_
          rintro e w4 ⟨rfl, hR4, hT4⟩
          have HR4 := Lib.hid hR4
          have HT4 := Lib.hid (HT3.out.trans hT4)
          clear hR4 hT4 HP
          go_wp2
          go_roundw
          case rel => exact ⟨j + 1, all, out, by go_num, h1, h2, Lib.hid (by have := hA.out; omega), HR4, HT4⟩
          case measure => simp [intOf]; omega
        · have HP := Lib.hid (pushS_ok r b N (elS all) out q3 (by have := HR3.out.le.2.1; omega) HLn.out w3 HR3.out)
          clear hfull
          go_wp2_with fail
          refine Calls.mono HP.out ?_
          rintro e w4 ⟨rfl, hR4, hT4⟩
          rw [← elS_app] at hR4
          have HR4 := Lib.hid hR4
          have HT4 := Lib.hid (HT3.out.trans hT4)
          clear hR4 hT4 HP
          go_wp2
          go_roundw
          case rel => exact ⟨j + 1, all ++ [q3], out, by go_num, h1, h2, Lib.hid (by have := hA.out; simp; omega), HR4, HT4⟩
          case measure => simp [intOf]; omega
      · by_cases hnone : out = (elS all).length
        · have HP := Lib.hid (popS_none r b N (elS all) out hnone HLn.out w3 HR3.out)
          clear hnone
          go_wp2_with fail
          refine Calls.mono HP.out ?_
          rintro e w4 ⟨rfl, hR4, hT4⟩
          have HR4 := Lib.hid hR4
          have HT4 := Lib.hid (HT3.out.trans hT4)
          clear hR4 hT4 HP
          go_wp2
          go_roundw
          case rel => exact ⟨j + 1, all, out, by go_num, h1, h2, Lib.hid (by have := hA.out; omega), HR4, HT4⟩
          case measure => simp [intOf]; omega
        · obtain ⟨s, hs⟩ : ∃ s, all[out]? = some s := ⟨_, List.getElem?_eq_getElem (by have := HR3.out.le.1; rw [elS_len] at hnone this; omega)⟩
          have HP := Lib.hid (popS_ok r b N (elS all) out s (elS_at hs) HLn.out w3 HR3.out)
          clear hnone hs
          go_wp2_with fail
          refine Calls.mono HP.out ?_
          rintro e w4 ⟨rfl, hR4, hT4⟩
          have HR4 := Lib.hid hR4
          have HT4 := Lib.hid (HT3.out.trans hT4)
          clear hR4 hT4 HP
          go_wp2
          go_roundw
          case rel => exact ⟨j + 1, all, out + 1, by go_num, h1, h2, Lib.hid (by have := hA.out; omega), HR4, HT4⟩
          case measure => simp [intOf]; omega
    · have hfin : Hid (j ≤ 200) := Lib.hid hj2
      rcases (show ¬ j < l1 ∨ (j < l1 ∧ ¬ j < 200) by omega) with h1 | ⟨h1, h2⟩
      · have hjI : ¬ (j : Int) < l1 := by omega
        clear hlt h1
        go_wp2
        obtain ⟨n, hn⟩ : ∃ n, all.length = out + n := ⟨all.length - out, by have := hR.out.le.1; rw [elS_len] at this; omega⟩
        have HLn : Hid ((elS all).length ≤ 900000) := Lib.hid (by have := hA.out; have := hfin.out; rw [elS_len]; omega)
        have HEn : Hid ((elS all).length = out + n) := Lib.hid (by rw [elS_len]; exact hn)
        have HAt : Hid (∀ j, j < n → ∃ s, all[out + j]? = some s ∧ strs ((all.drop out).take (j + 1)) = strs ((all.drop out).take j) ++ [.string s]) := Lib.hid (fun j hj => by
          obtain ⟨s, hs⟩ : ∃ s, all[out + j]? = some s := ⟨_, List.getElem?_eq_getElem (by omega)⟩
          refine ⟨s, hs, ?_⟩
          rw [List.take_add_one, List.getElem?_drop, hs]
          simp [strs])
        have hn9 : n ≤ 200 := by have := hA.out; have := hfin.out; omega
        have HLv : Hid ((all.drop out).take n = all.drop out) := Lib.hid (List.take_of_length_le (by simp; omega))
        clear hA hfin hn
        obtain ⟨wo, hwo⟩ : ∃ x, x = wr := ⟨_, rfl⟩
        subst hwo
        have HRl := Lib.hid hR.out.lt
        go_loopw [8, 9] (fun sv iv wr => ∃ (j : Nat) (A : Option Addr) (c : Nat), sv = .slice A j c ∧ iv = .int .i64 (j : Int) ∧ j ≤ n ∧ Hid (wr.ownsRow wo.heap.size 9 1 (.slice A j c) j (strs ((all.drop out).take j))) ∧ Hid (Below wo.heap.size wo wr)) (fun _ iv _ => n - (intOf iv).toNat)
        case atStart => exact ⟨0, none, 0, rfl, rfl, Nat.zero_le _, Lib.hid ⟨rfl, .inl ⟨rfl, rfl⟩⟩, Lib.hid (Below.refl _ _)⟩
        case round =>
          obtain ⟨i, A, c, rfl, rfl, hi, hO, hB⟩ := hrel
          have HR2 := Lib.hid (hR.out.below hB.out)
          have HL := Lib.hid (ret_as (v' := .int .i64 (n : Int)) (lenS_any r b N (elS all) out HLn.out wr HR2.out) (by rw [len_of HEn.out]))
          have i2 : IntKind.i64.wrap ((i : Int) + 1) = (i : Int) + 1 := by rw [IntKind.wrap_i64]; omega
          by_cases hin : i < n
          · have i1 : (i : Int) < (n : Int) := by omega
            obtain ⟨s, hs, hst⟩ := HAt.out i hin
            have HST := Lib.hid hst
            have HRd := Lib.hid (HR2.out.below (Below.refl _ wr))
            have HP := Lib.hid (peekS_ok r b N (elS all) out i s (elS_at hs) HLn.out wr HRd.out)
            clear hs hst
            go_wp2_with fail
            refine Calls.mono HL.out ?_
            rintro e w3 ⟨rfl, rfl⟩
            go_wp2_with fail
            refine Calls.mono HP.out ?_
            rintro e w4 ⟨rfl, hT4⟩
            have HO4 : Hid ((w4.alloc (.cells #[.string s] 9)).ownsRow wo.heap.size 9 1 (.slice A i c) i (strs ((all.drop out).take i))) := Lib.hid (World.ownsRow.alloc (hT4.own (w := wr) (show wr.ownsRow wo.heap.size 9 1 (.slice A i c) i (strs ((all.drop out).take i)) from hO.out) (fun g hg => by simp)) _)
            have HB4 : Hid (Below wo.heap.size wo (w4.alloc (.cells #[.string s] 9))) := Lib.hid (by
              have h1 := hB.out.trans ((Below.refl wr.heap.size wr).mono hB.out.size)
              have h2 := h1.trans ((hT4.below (B := wr.heap.size) (Nat.le_refl _) (by simp)).mono h1.size)
              exact h2.alloc h2.size _)
            have HSrc := Lib.hid (src_new w4 9 [.string s])
            clear hT4 HP HL
            go_wp2_with (at_builtin; refine wpList_apc 36 9 (.string ⟨#[]⟩) 1 16 Try.underlying36 infoStr rfl (by decide) (by decide) _ rfl (.tmp 68) (.tmp 70) rfl wo.heap.size (.slice A i c) i (strs ((all.drop out).take i)) rfl HO4.out ⟨w4.heap.size, 0, none⟩ 1 [.string s] rfl rfl (fun j u hj => HSrc.out j u hj) (by simp [Value.oneCell']) (by omega) HB4.out.size ?_; intro v1 w5 hown1 hg1 hv1; obtain ⟨A1, c1', e1, -, -⟩ := own_sl hown1; subst e1; have HO5 := Lib.hid hown1; have HB5 := Lib.hid (HB4.out.grown hg1 HB4.out.size (fun x hx => own_basek HO4.out x hx)); clear hown1 hg1 hv1)
            go_roundw
            case rel => exact ⟨i + 1, A1, c1', rfl, by go_num, hin, Lib.hid (by rw [HST.out]; exact HO5.out), HB5⟩
            case measure => simp [intOf]; omega
          · obtain rfl : i = n := by omega
            have i1 : ¬ (i : Int) < (i : Int) := by omega
            clear hin HAt
            go_wp2_with fail
            refine Calls.mono HL.out ?_
            rintro e w3 ⟨rfl, rfl⟩
            have HRd := Lib.hid (HR2.out.below (Below.refl _ wr))
            have HOd : Hid (wr.ownsRow wo.heap.size 9 1 (.slice A i c) i (strs ((all.drop out).take i))) := hO
            have HBd : Hid (Below wo.heap.size wo wr) := Lib.hid (hB.out.trans ((Below.refl wr.heap.size wr).mono hB.out.size))
            have HP := Lib.hid (peekS_bad r b N (elS all) out (i : Int) (.inr (by rw [len_of HEn.out]; omega)) HLn.out wr HRd.out)
            clear HL HR2 hO hB
            go_wp2_with fail
            refine Calls.mono HP.out ?_
            rintro e w4 ⟨rfl, hT4⟩
            have HR4 := Lib.hid (HRd.out.tch hT4 (by simp) (by simp))
            have HT4 := Lib.hid hT4
            have HP2 := Lib.hid (peekS_bad r b N (elS all) out (-1) (.inl (by decide)) HLn.out w4 HR4.out)
            clear hT4 HP
            go_wp2_with fail
            refine Calls.mono HP2.out ?_
            rintro e w5 ⟨rfl, hT5⟩
            have HR5 := Lib.hid (HR4.out.tch hT5 (by simp) (by simp))
            have HT5 := Lib.hid (HT4.out.trans hT5)
            have HO5 : Hid (w5.ownsRow wo.heap.size 9 1 (.slice A i c) i (strs (all.drop out))) := Lib.hid (by
              have := HT5.out.own HOd.out (fun g hg => by simp)
              rwa [HLv.out] at this)
            have HB5 : Hid (Below wo.heap.size wo w5) := Lib.hid (HBd.out.trans ((HT5.out.below (B := wr.heap.size) (Nat.le_refl _) (by simp)).mono HBd.out.size))
            clear hT5 HP2 HOd HBd HT5 HT4 HRd HR4
            go_wp2
            go_loopw [16] (fun iv wr => ∃ m : Nat, iv = .int .i64 (m : Int) ∧ m ≤ i ∧ Hid (RgS wr r b N (elS all) (out + m)) ∧ Hid (Tch w5 wr [r, b])) (fun iv _ => i - (intOf iv).toNat)
            case atStart => exact ⟨0, rfl, Nat.zero_le _, HR5, Lib.hid (Tch.refl _ _)⟩
            case round =>
              obtain ⟨m, rfl, hm, hRm, hTm⟩ := hrel
              have m2 : IntKind.i64.wrap ((m : Int) + 1) = (m : Int) + 1 := by rw [IntKind.wrap_i64]; omega
              by_cases hlt : m < i
              · have m1 : (m : Int) < (i : Int) := by omega
                have m0 : (0 : Int) ≤ (m : Int) := by omega
                obtain ⟨s, hs⟩ : ∃ s, all[out + m]? = some s := ⟨_, List.getElem?_eq_getElem (by have := HEn.out; rw [elS_len] at this; omega)⟩
                have HP := Lib.hid (popS_ok r b N (elS all) (out + m) s (elS_at hs) HLn.out wr hRm.out)
                obtain ⟨A', c', e', -, hcell⟩ := own_sl HO5.out
                injection e' with e1 e2 e3
                subst e1 e3
                obtain ⟨gs, rfl, hgs, hgl, hcell⟩ := hcell (by omega)
                have s5 := hcell m _ (strs_at (s := s) (by rw [List.getElem?_drop]; exact hs))
                have HSC := Lib.hid (And.intro s5 (And.intro hgs hgl))
                clear hs hcell e2 s5 hgs hgl
                go_wp2_with fail
                refine Calls.mono HP.out ?_
                rintro e w6 ⟨rfl, hR6, hT6⟩
                have HR6 := Lib.hid hR6
                have HT6 := Lib.hid (hTm.out.trans hT6)
                have s6 := (HT6.out.cell (p := ⟨gs, m, none⟩) HSC.out.2.2 (nin2 (by have := HSC.out.2.1; have := HRl.out.1; show gs ≠ r; omega) (by have := HSC.out.2.1; have := HRl.out.2; show gs ≠ b; omega))).trans HSC.out.1
                clear hR6 hT6 HP
                go_wp2
                go_roundw
                case rel => exact ⟨m + 1, by go_num, hlt, by rw [← Nat.add_assoc]; exact HR6, HT6⟩
                case measure => simp [intOf]; omega
              · obtain rfl : m = i := by omega
                have m1 : ¬ (m : Int) < (m : Int) := by omega
                have HL := Lib.hid (ret_as (v' := .int .i64 0) (lenS_any r b N (elS all) (out + m) HLn.out wr hRm.out) (by rw [HEn.out]; simp))
                have q6 : ((0 : Int) == 0) = true := by simp
                clear hlt
                go_wp2_with fail
                refine Calls.mono HL.out ?_
                rintro e w6 ⟨rfl, rfl⟩
                go_wp2
                go_ret
                have h1 := HBel.out _ hT.out
                have h2 := h1.trans (HB5.out.mono h1.size)
                exact ⟨rfl, (h2.trans (hTm.out.below h2.size (by simp; exact ⟨B2.out.2.1, B2.out.2.2⟩)))⟩
      · have hjI : (j : Int) < l1 := by omega
        have hjI2 : ¬ (j : Int) < 200 := by omega
        clear hlt h1 h2
        go_wp2
        obtain ⟨n, hn⟩ : ∃ n, all.length = out + n := ⟨all.length - out, by have := hR.out.le.1; rw [elS_len] at this; omega⟩
        have HLn : Hid ((elS all).length ≤ 900000) := Lib.hid (by have := hA.out; have := hfin.out; rw [elS_len]; omega)
        have HEn : Hid ((elS all).length = out + n) := Lib.hid (by rw [elS_len]; exact hn)
        have HAt : Hid (∀ j, j < n → ∃ s, all[out + j]? = some s ∧ strs ((all.drop out).take (j + 1)) = strs ((all.drop out).take j) ++ [.string s]) := Lib.hid (fun j hj => by
          obtain ⟨s, hs⟩ : ∃ s, all[out + j]? = some s := ⟨_, List.getElem?_eq_getElem (by omega)⟩
          refine ⟨s, hs, ?_⟩
          rw [List.take_add_one, List.getElem?_drop, hs]
          simp [strs])
        have hn9 : n ≤ 200 := by have := hA.out; have := hfin.out; omega
        have HLv : Hid ((all.drop out).take n = all.drop out) := Lib.hid (List.take_of_length_le (by simp; omega))
        clear hA hfin hn
        obtain ⟨wo, hwo⟩ : ∃ x, x = wr := ⟨_, rfl⟩
        subst hwo
        have HRl := Lib.hid hR.out.lt
        go_loopw [8, 9] (fun sv iv wr => ∃ (j : Nat) (A : Option Addr) (c : Nat), sv = .slice A j c ∧ iv = .int .i64 (j : Int) ∧ j ≤ n ∧ Hid (wr.ownsRow wo.heap.size 9 1 (.slice A j c) j (strs ((all.drop out).take j))) ∧ Hid (Below wo.heap.size wo wr)) (fun _ iv _ => n - (intOf iv).toNat)
        case atStart => exact ⟨0, none, 0, rfl, rfl, Nat.zero_le _, Lib.hid ⟨rfl, .inl ⟨rfl, rfl⟩⟩, Lib.hid (Below.refl _ _)⟩
        case round =>
          obtain ⟨i, A, c, rfl, rfl, hi, hO, hB⟩ := hrel
          have HR2 := Lib.hid (hR.out.below hB.out)
          have HL := Lib.hid (ret_as (v' := .int .i64 (n : Int)) (lenS_any r b N (elS all) out HLn.out wr HR2.out) (by rw [len_of HEn.out]))
          have i2 : IntKind.i64.wrap ((i : Int) + 1) = (i : Int) + 1 := by rw [IntKind.wrap_i64]; omega
          by_cases hin : i < n
          · have i1 : (i : Int) < (n : Int) := by omega
            obtain ⟨s, hs, hst⟩ := HAt.out i hin
            have HST := Lib.hid hst
            have HRd := Lib.hid (HR2.out.below (Below.refl _ wr))
            have HP := Lib.hid (peekS_ok r b N (elS all) out i s (elS_at hs) HLn.out wr HRd.out)
            clear hs hst
            go_wp2_with fail
            refine Calls.mono HL.out ?_
            rintro e w3 ⟨rfl, rfl⟩
            go_wp2_with fail
            refine Calls.mono HP.out ?_
            rintro e w4 ⟨rfl, hT4⟩
            have HO4 : Hid ((w4.alloc (.cells #[.string s] 9)).ownsRow wo.heap.size 9 1 (.slice A i c) i (strs ((all.drop out).take i))) := Lib.hid (World.ownsRow.alloc (hT4.own (w := wr) (show wr.ownsRow wo.heap.size 9 1 (.slice A i c) i (strs ((all.drop out).take i)) from hO.out) (fun g hg => by simp)) _)
            have HB4 : Hid (Below wo.heap.size wo (w4.alloc (.cells #[.string s] 9))) := Lib.hid (by
              have h1 := hB.out.trans ((Below.refl wr.heap.size wr).mono hB.out.size)
              have h2 := h1.trans ((hT4.below (B := wr.heap.size) (Nat.le_refl _) (by simp)).mono h1.size)
              exact h2.alloc h2.size _)
            have HSrc := Lib.hid (src_new w4 9 [.string s])
            clear hT4 HP HL
            go_wp2_with (at_builtin; refine wpList_apc 36 9 (.string ⟨#[]⟩) 1 16 Try.underlying36 infoStr rfl (by decide) (by decide) _ rfl (.tmp 68) (.tmp 70) rfl wo.heap.size (.slice A i c) i (strs ((all.drop out).take i)) rfl HO4.out ⟨w4.heap.size, 0, none⟩ 1 [.string s] rfl rfl (fun j u hj => HSrc.out j u hj) (by simp [Value.oneCell']) (by omega) HB4.out.size ?_; intro v1 w5 hown1 hg1 hv1; obtain ⟨A1, c1', e1, -, -⟩ := own_sl hown1; subst e1; have HO5 := Lib.hid hown1; have HB5 := Lib.hid (HB4.out.grown hg1 HB4.out.size (fun x hx => own_basek HO4.out x hx)); clear hown1 hg1 hv1)
            go_roundw
            case rel => exact ⟨i + 1, A1, c1', rfl, by go_num, hin, Lib.hid (by rw [HST.out]; exact HO5.out), HB5⟩
            case measure => simp [intOf]; omega
          · obtain rfl : i = n := by omega
            have i1 : ¬ (i : Int) < (i : Int) := by omega
            clear hin HAt
            go_wp2_with fail
            refine Calls.mono HL.out ?_
            rintro e w3 ⟨rfl, rfl⟩
            have HRd := Lib.hid (HR2.out.below (Below.refl _ wr))
            have HOd : Hid (wr.ownsRow wo.heap.size 9 1 (.slice A i c) i (strs ((all.drop out).take i))) := hO
            have HBd : Hid (Below wo.heap.size wo wr) := Lib.hid (hB.out.trans ((Below.refl wr.heap.size wr).mono hB.out.size))
            have HP := Lib.hid (peekS_bad r b N (elS all) out (i : Int) (.inr (by rw [len_of HEn.out]; omega)) HLn.out wr HRd.out)
            clear HL HR2 hO hB
            go_wp2_with fail
            refine Calls.mono HP.out ?_
            rintro e w4 ⟨rfl, hT4⟩
            have HR4 := Lib.hid (HRd.out.tch hT4 (by simp) (by simp))
            have HT4 := Lib.hid hT4
            have HP2 := Lib.hid (peekS_bad r b N (elS all) out (-1) (.inl (by decide)) HLn.out w4 HR4.out)
            clear hT4 HP
            go_wp2_with fail
            refine Calls.mono HP2.out ?_
            rintro e w5 ⟨rfl, hT5⟩
            have HR5 := Lib.hid (HR4.out.tch hT5 (by simp) (by simp))
            have HT5 := Lib.hid (HT4.out.trans hT5)
            have HO5 : Hid (w5.ownsRow wo.heap.size 9 1 (.slice A i c) i (strs (all.drop out))) := Lib.hid (by
              have := HT5.out.own HOd.out (fun g hg => by simp)
              rwa [HLv.out] at this)
            have HB5 : Hid (Below wo.heap.size wo w5) := Lib.hid (HBd.out.trans ((HT5.out.below (B := wr.heap.size) (Nat.le_refl _) (by simp)).mono HBd.out.size))
            clear hT5 HP2 HOd HBd HT5 HT4 HRd HR4
            go_wp2
            go_loopw [16] (fun iv wr => ∃ m : Nat, iv = .int .i64 (m : Int) ∧ m ≤ i ∧ Hid (RgS wr r b N (elS all) (out + m)) ∧ Hid (Tch w5 wr [r, b])) (fun iv _ => i - (intOf iv).toNat)
            case atStart => exact ⟨0, rfl, Nat.zero_le _, HR5, Lib.hid (Tch.refl _ _)⟩
            case round =>
              obtain ⟨m, rfl, hm, hRm, hTm⟩ := hrel
              have m2 : IntKind.i64.wrap ((m : Int) + 1) = (m : Int) + 1 := by rw [IntKind.wrap_i64]; omega
              by_cases hlt : m < i
              · have m1 : (m : Int) < (i : Int) := by omega
                have m0 : (0 : Int) ≤ (m : Int) := by omega
                obtain ⟨s, hs⟩ : ∃ s, all[out + m]? = some s := ⟨_, List.getElem?_eq_getElem (by have := HEn.out; rw [elS_len] at this; omega)⟩
                have HP := Lib.hid (popS_ok r b N (elS all) (out + m) s (elS_at hs) HLn.out wr hRm.out)
                obtain ⟨A', c', e', -, hcell⟩ := own_sl HO5.out
                injection e' with e1 e2 e3
                subst e1 e3
                obtain ⟨gs, rfl, hgs, hgl, hcell⟩ := hcell (by omega)
                have s5 := hcell m _ (strs_at (s := s) (by rw [List.getElem?_drop]; exact hs))
                have HSC := Lib.hid (And.intro s5 (And.intro hgs hgl))
                clear hs hcell e2 s5 hgs hgl
                go_wp2_with fail
                refine Calls.mono HP.out ?_
                rintro e w6 ⟨rfl, hR6, hT6⟩
                have HR6 := Lib.hid hR6
                have HT6 := Lib.hid (hTm.out.trans hT6)
                have s6 := (HT6.out.cell (p := ⟨gs, m, none⟩) HSC.out.2.2 (nin2 (by have := HSC.out.2.1; have := HRl.out.1; show gs ≠ r; omega) (by have := HSC.out.2.1; have := HRl.out.2; show gs ≠ b; omega))).trans HSC.out.1
                clear hR6 hT6 HP
                go_wp2
                go_roundw
                case rel => exact ⟨m + 1, by go_num, hlt, by rw [← Nat.add_assoc]; exact HR6, HT6⟩
                case measure => simp [intOf]; omega
              · obtain rfl : m = i := by omega
                have m1 : ¬ (m : Int) < (m : Int) := by omega
                have HL := Lib.hid (ret_as (v' := .int .i64 0) (lenS_any r b N (elS all) (out + m) HLn.out wr hRm.out) (by rw [HEn.out]; simp))
                have q6 : ((0 : Int) == 0) = true := by simp
                clear hlt
                go_wp2_with fail
                refine Calls.mono HL.out ?_
                rintro e w6 ⟨rfl, rfl⟩
                go_wp2
                go_ret
                have h1 := HBel.out _ hT.out
                have h2 := h1.trans (HB5.out.mono h1.size)
                exact ⟨rfl, (h2.trans (hTm.out.below h2.size (by simp; exact ⟨B2.out.2.1, B2.out.2.2⟩)))⟩
set_option maxRecDepth 100000 in
theorem contract (H : Type) (enc : TypeId × Value → H) (W : World) (base : Nat) (args : Array Value) (ds gs : List (DataW H)) (before : List MemPlace)
    (hval0 : ∀ (j : Nat) t v, Try.f5.params[j]? = some t → args[j]? = some v → Value.okWide Try.prog W .any base t v)
    (hW : DataW.Whole enc Try.prog Try.f5.params.toList Rows.ringSeenSpec.vars false W args.toList ds gs before)
    (hsz0 : (DataW.weightsEach Try.prog (Try.f5.params.toList ++ Rows.ringSeenSpec.plain.varTypes Try.prog) (ds ++ gs)).all (· ≤ reachBytes) = true) :
    Calls Try.prog 5 args W fun e W' => ∃ v, e = .returned v ∧ Rows.ringSeenSpec.post enc Try.prog Try.f5 false true false false W args v W' := by
  have hsz := hsz0
  clear hsz0
  have hval := hval0
  clear hval0
  have hW' := hW
  obtain ⟨p, q, hA0, hV, rfl, hfz, hnd⟩ := hW
  have hA : DataW.TrodAll enc Try.prog W 0 (fun _ => true) true Try.f5.params.toList args.toList ds p := hA0
  rw [Try.params5] at hA hval hsz
  obtain ⟨v0, vs0, d0, ds0, p0, q0, hargs, rfl, rfl, h0, r0⟩ := trodAll_cons hA
  obtain ⟨v1, vs1, d1, ds1, p1, q1, rfl, rfl, rfl, h1, r1⟩ := trodAll_cons r0
  obtain ⟨rfl, rfl, rfl⟩ := trodAll_nil r1
  obtain rfl : args = #[v0, v1] := by cases args; simp_all
  obtain ⟨rfl, rfl⟩ := trodVars_none hV
  obtain ⟨a0, rfl, rfl, rfl, w0⟩ := open_int Try.underlying3 (hval 0 3 v0 rfl rfl) h0
  obtain ⟨a1, l1, c1, rfl⟩ := okWide_slice Try.underlying22 (hval 1 22 v1 rfl rfl)
  have k1 := h1
  have lt1 : ∀ x ∈ p1, x.block < W.heap.size := by obtain ⟨m, hm⟩ := k1; exact DataW.trod_lt m _ _ _ hm
  obtain ⟨z1, w1⟩ := isStp_of h1
  clear hA0
  refine (walk W a0 w0 a1 l1 c1 z1 w1).mono fun e W' ⟨he, bel⟩ => ?_
  subst he
  exact ⟨_, rfl, _, _, _, [], _, [], hW', trodAll_mk1 (shut_bool Try.underlying4 _), (trodAll_cons_mk (shut_int Try.underlying3 w0) (trodAll_cons_mk (Below.trod laidOut (by kernel_rfl) (of_decide_eq_true (by kernel_rfl)) k1 bel lt1) trodAll_mk0)), rfl, bel.frame _, fun h => by cases h⟩

set_option maxRecDepth 100000 in
theorem lifted (os : Os) (started : os.Started) (H : Type) (enc : TypeId × Value → H) :
    ReturnsInHanded {} Try.checked os 5 .any (Rows.ringSeenSpec.pre6 enc Try.prog Try.f5 Rows.ringSeenRow.domain false) (Rows.ringSeenSpec.post enc Try.prog Try.f5 false true false false) := by
  refine returnsInHanded_of_change_sized (C := Try.checked) own started (by kernel_rfl) Try.func5
    (ChangeSpec.witness6 (enc := enc) (C := Try.checked) false ⟨#[], #[.int .i64 0, .slice none 0 0], []⟩ 8 (by kernel_rfl) (by kernel_rfl) (by kernel_rfl) (by kernel_rfl)) ?_
  intro W base args ds gs before hval hW _ hsz _
  exact contract H enc W base args ds gs before hval hW hsz

theorem over : Rows.ringSeenRow.holds Try.pinned (OpenSpec.ofChange Rows.ringSeenSpec) :=
  OpenClaim.holds_of_wide 5 Try.f5 rfl rfl rfl rfl rfl rfl rfl ⟨rfl, rfl, rfl, rfl, rfl⟩ rfl rfl rfl rfl rfl (by kernel_rfl) Try.func5 (by kernel_rfl)
    (of_decide_eq_true (by kernel_rfl)) (by unfold Func.isWrapper; first | (rw [if_pos (by decide +kernel)]; kernel_rfl) | (rw [if_neg (by decide +kernel)]; exact ⟨rfl, rfl⟩))
    (fun os started H enc _ => lifted os started H enc)

theorem proved : Rows.RingSeenSaid := over
#print axioms proved
end RSeen
end Go.Proofs.Ytogbchahfkphoaa
