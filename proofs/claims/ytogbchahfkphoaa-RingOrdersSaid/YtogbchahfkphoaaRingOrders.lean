/-
  crosswaylaw12.RingOrders returns true for every input, and leaves its arguments alone.
  Conditions: none of our own.
-/
import Derived.Test.YtogbchahfkphoaaRgV
namespace Go.Proofs.Ytogbchahfkphoaa
open Go.ChangeShapes Go.WideShapes Go.ChangeAt Go.RowKit
set_option linter.unusedVariables false
namespace ROrd
theorem lt_dec {a b : Nat} (h : a < b) : decide ((a : Int) < (b : Int)) = true := decide_eq_true (by omega)
theorem nlt_dec {a b : Nat} (h : ¬ a < b) : decide ((a : Int) < (b : Int)) = false := decide_eq_false (by omega)
set_option maxRecDepth 100000 in
set_option maxHeartbeats 8000000 in
theorem walk (w : World) (a0 : Int) (w0 : (Lit.int .i64 a0).wf = true) (a1 : Option Addr) (l1 c1 : Nat) (z1 : List Stp) (w1 : IsStp w a1 l1 z1) :
    Calls Try.prog 4 #[.int .i64 a0, .slice a1 l1 c1] w fun e w' => e = .returned (.bool true) ∧ Below w.heap.size w w' := by
  have hb0 := i64_bd w0
  have h7 := i64_and7 a0
  obtain ⟨k, hk⟩ : ∃ k : Nat, a0 % 8 = (k : Int) := ⟨(a0 % 8).toNat, by omega⟩
  have hk8 : k < 8 := by omega
  rw [hk] at h7
  have hp := two_pow16 (k := k) (by omega)
  have HNw := Lib.hid (fun W => newP_ok k (by omega) W)
  obtain ⟨N, hN⟩ : ∃ N : Nat, 2 ^ k = N := ⟨_, rfl⟩
  rw [hN] at HNw hp
  have HNN := Lib.hid hp
  have HZ := Lib.hid w1
  clear hk hb0 w0 w1 hN hp
  go_enter Try.func4, Try.ntmps4
  go_wp2_with fail
  refine Calls.mono (awake_yes w) ?_
  rintro e x1 ⟨rfl, hb1⟩
  have B1 := Lib.hid hb1
  clear hb1
  go_wp2_with fail
  refine Calls.mono (HNw.out x1) ?_
  rintro e x2 ⟨r, b, rfl, hR, hb, hr, hbb⟩
  have R2 := Lib.hid hR
  have B2 := Lib.hid (And.intro (B1.out.trans (hb.mono B1.out.size)) (And.intro (Nat.le_trans B1.out.size hr) (Nat.le_trans B1.out.size hbb)))
  have HRm := Lib.hid (ret_as (v' := .int .i64 (N : Int)) (roomP_any r b N [] 0 (by simp) x2 hR) (by simp))
  clear hR hb hr hbb HNw B1
  go_wp2_with fail
  refine Calls.mono HRm.out ?_
  rintro e x3 ⟨rfl, hT3⟩
  have R3 : Hid (RgP x3 r b N (elP []) 0) := Lib.hid (R2.out.tch hT3 (by simp) (by simp))
  have B3 := Lib.hid (And.intro (B2.out.1.trans (hT3.below B2.out.1.size (by simp))) B2.out.2)
  have HRl := Lib.hid R3.out.lt
  clear hT3 HRm R2 B2
  go_wp2
  go_loopw [8, 9, 10] (fun sv ov iv wr => ∃ (j : Nat) (all : List Stp) (out : Nat) (A : Option Addr) (c L : Nat), sv = .slice A L c ∧ ov = .int .i64 (out : Int) ∧ iv = .int .i64 (j : Int) ∧ j ≤ l1 ∧ j ≤ 300 ∧ Hid (all.length = L ∧ L ≤ j) ∧ Hid (wr.ownsRow x3.heap.size 29 3 (.slice A L c) L (cls all)) ∧ Hid (RgP wr r b N (elP all) out) ∧ Hid (Below w.heap.size w wr ∧ x3.heap.size ≤ wr.heap.size)) (fun _ _ iv _ => 301 - (intOf iv).toNat)
  case atStart => exact ⟨0, [], 0, none, 0, 0, rfl, rfl, rfl, Nat.zero_le _, by omega, Lib.hid ⟨rfl, Nat.le_refl _⟩, Lib.hid ⟨rfl, .inl ⟨rfl, rfl⟩⟩, R3, Lib.hid ⟨B3.out.1, Nat.le_refl _⟩⟩
  case round =>
    obtain ⟨j, all, out, A, c, L, rfl, rfl, rfl, hj, hj2, hA, hO, hR, hB⟩ := hrel
    by_cases hlt : j < l1 ∧ j < 300
    · obtain ⟨h1, h2⟩ := hlt
      obtain ⟨sg, so, q1, q2, q3, rfl, hg, -, c0, c1, c2, -, -⟩ := HZ.out.cells hB.out.1 h1
      have hjI : (j : Int) < l1 := by omega
      have hjI2 : (j : Int) < 300 := by omega
      have hj0 : (0 : Int) ≤ j := by omega
      have j3 : IntKind.i64.wrap ((j : Int) + 1) = (j : Int) + 1 := by rw [IntKind.wrap_i64]; omega
      obtain ⟨xb, hxb⟩ : ∃ xb, wr.heap.size = xb := ⟨_, rfl⟩
      obtain ⟨W1, hW1⟩ : ∃ W1, wr.alloc (.cells #[.int .i64 q1, .int .i64 q2, .string q3] 29) = W1 := ⟨_, rfl⟩
      have HBW : Hid (Below wr.heap.size wr W1) := Lib.hid (hW1 ▸ (Below.refl _ _).alloc (Nat.le_refl _) _)
      have HX : Hid (Blk W1 xb 29 #[.int .i64 q1, .int .i64 q2, .string q3]) := Lib.hid (hW1 ▸ hxb ▸ Blk.new _ _ _)
      have HR1 := Lib.hid (hR.out.below HBW.out)
      have HO1 := Lib.hid ((Tch.of_below [] HBW.out).own hO.out (by simp))
      have HXn : Hid (r < xb ∧ b < xb ∧ w.heap.size ≤ xb) := Lib.hid (by have := hR.out.lt; have := hB.out.1.size; omega)
      have HB1 : Hid (Below w.heap.size w W1 ∧ x3.heap.size ≤ W1.heap.size) := Lib.hid ⟨hB.out.1.trans (HBW.out.mono hB.out.1.size), Nat.le_trans hB.out.2 HBW.out.size⟩
      have HK := Lib.hid (kind_any (q1, q2, q3) W1)
      simp only at HK
      have HW1 := Lib.hid hW1
      have HXb := Lib.hid hxb
      have hk4 := kind4 q1
      obtain ⟨kd, hkd⟩ : ∃ kd, q1 % 4 = kd := ⟨_, rfl⟩
      rw [hkd] at HK hk4
      have HLn : Hid ((elP all).length ≤ 900000) := Lib.hid (by have := hA.out; rw [elP_len]; omega)
      clear hkd hg hW1 hxb
      go_wp2_with fail
      rw [HW1.out, HXb.out]
      refine Calls.mono HK.out ?_
      rintro e w3 ⟨rfl, hb3⟩
      have HX3 := Lib.hid (HX.out.below hb3 HX.out.lt)
      have HR3 := Lib.hid (HR1.out.below hb3)
      have HO3 := Lib.hid ((Tch.of_below [] hb3).own HO1.out (by simp))
      have HB3 : Hid (Below w.heap.size w w3 ∧ x3.heap.size ≤ w3.heap.size) := Lib.hid ⟨HB1.out.1.trans (hb3.mono HB1.out.1.size), Nat.le_trans HB1.out.2 hb3.size⟩
      have HXl : Hid (xb < w3.heap.size) := Lib.hid HX3.out.lt
      have hle := HR3.out.le
      rw [elP_len, hA.out.1] at hle
      obtain ⟨n, hn⟩ : ∃ n, L = out + n := ⟨L - out, by omega⟩
      have HNn := Lib.hid hn
      have hnN : n ≤ N := by omega
      have hL300 : L ≤ 300 := by have := hA.out.2; omega
      have HEL : Hid ((elP all).length = out + n) := Lib.hid (by rw [elP_len, hA.out.1]; exact hn)
      clear hb3 HK c0 c1 c2 HR1 HO1 HB1 HBW HW1 HX hn hle
      by_cases hk2 : kd < 2
      · have hkI : kd < 2 := hk2
        have HRm := Lib.hid (roomP_any r b N (elP all) out HLn.out w3 HR3.out)
        rw [HEL.out] at HRm
        by_cases hfull : n = N
        · have HRz := Lib.hid (ret_as (v' := .int .i64 0) HRm.out (by rw [len_of rfl, hfull]; simp))
          have p0 : ((0 : Int) == 0) = true := by simp
          have e0 := (HX3.out.cell 0).trans (show _ = some (Value.int .i64 q1) by rfl)
          clear HRm
          go_wp2_with fail
          refine Calls.mono HRz.out ?_
          rintro e w4 ⟨rfl, hT4⟩
          have HX4 := Lib.hid (hT4.blk HX3.out (by simp))
          have HR4 := Lib.hid (HR3.out.tch hT4 (by simp) (by simp))
          have HO4 := Lib.hid (hT4.own HO3.out (by simp))
          have HB4 : Hid (Below w.heap.size w w4 ∧ x3.heap.size ≤ w4.heap.size) := Lib.hid ⟨HB3.out.1.trans (hT4.below HB3.out.1.size (by simp)), Nat.le_trans HB3.out.2 hT4.size⟩
          have e0 := (HX4.out.cell 0).trans (show _ = some (Value.int .i64 q1) by rfl)
          have e1 := (HX4.out.cell 1).trans (show _ = some (Value.int .i64 q2) by rfl)
          have e2 := (HX4.out.cell 2).trans (show _ = some (Value.string q3) by rfl)
          have HP := Lib.hid (pushP_full r b N (elP all) out q1 q2 q3 (by rw [HEL.out, hfull]) HLn.out w4 HR4.out)
          clear hT4 HRz hfull
          go_wp2_with fail
          refine Calls.mono HP.out ?_
          rintro e w5 ⟨rfl, hR5, hT5⟩
          have HR5 := Lib.hid hR5
          have HO5 := Lib.hid (hT5.own HO4.out (fun g hg => nin2 (by have := own_basek HO4.out g hg; have := HRl.out; omega) (by have := own_basek HO4.out g hg; have := HRl.out; omega)))
          have HB5 : Hid (Below w.heap.size w w5 ∧ x3.heap.size ≤ w5.heap.size) := Lib.hid ⟨HB4.out.1.trans (hT5.below HB4.out.1.size (by simp; exact ⟨B3.out.2.1, B3.out.2.2⟩)), Nat.le_trans HB4.out.2 hT5.size⟩
          have HA5 : Hid (all.length = L ∧ L ≤ j + 1) := Lib.hid ⟨hA.out.1, by have := hA.out.2; omega⟩
          have HN5 := HNn
          have hn5N := hnN
          clear hR5 hT5 HP e0 e1 e2
          obtain ⟨M, hM⟩ : ∃ M : Int, (N : Int) - (n : Int) = M := ⟨_, rfl⟩
          have HE5 : Hid ((elP all).length = out + n) := Lib.hid (by rw [elP_len, HA5.out.1]; exact HN5.out)
          have HLm : Hid ((elP all).length ≤ 900000) := Lib.hid (by have := HA5.out; rw [elP_len]; omega)
          have v1 : IntKind.i64.wrap ((n : Int) + M) = (N : Int) := by have := HNN.out; rw [IntKind.wrap_i64]; omega
          have v2 : IntKind.i64.wrap ((L : Int) - (out : Int)) = (n : Int) := by have := HN5.out; have := HNN.out; rw [IntKind.wrap_i64]; omega
          have p1 : ((N : Int) != (N : Int)) = false := by simp
          have p2 : ((n : Int) != (n : Int)) = false := by simp
          have HL1 := Lib.hid (ret_as (v' := .int .i64 (n : Int)) (lenP_any r b N (elP all) out HLm.out w5 HR5.out) (by rw [len_of HE5.out]))
          have HRd : Hid (RgP w5 r b N (elP all) out) := HR5
          have HRm := Lib.hid (ret_as (v' := .int .i64 M) (roomP_any r b N (elP all) out HLm.out w5 HRd.out) (by rw [len_of HE5.out, hM]))
          clear hM
          go_wp2_with fail
          refine Calls.mono HL1.out ?_
          rintro e w' ⟨rfl, rfl⟩
          go_wp2_with fail
          refine Calls.mono HRm.out ?_
          rintro e w6 ⟨rfl, hT6⟩
          have HR6 := Lib.hid (HRd.out.tch hT6 (by simp) (by simp))
          have HO6 := Lib.hid (hT6.own (w := w5) (show w5.ownsRow _ _ _ _ _ _ from HO5.out) (by simp))
          have HB6 : Hid (Below w.heap.size w w6 ∧ x3.heap.size ≤ w6.heap.size) := Lib.hid (by
            have h1 := HB5.out.1
            have hs : w5.heap.size = w5.heap.size := rfl
            exact ⟨h1.trans (hT6.below h1.size (by simp)), Nat.le_trans HB5.out.2 hT6.size⟩)
          have HL2 := Lib.hid (ret_as (v' := .int .i64 (n : Int)) (lenP_any r b N (elP all) out HLm.out w6 HR6.out) (by rw [len_of HE5.out]))
          clear hT6 HL1 HRm
          go_wp2_with fail
          refine Calls.mono HL2.out ?_
          rintro e w' ⟨rfl, rfl⟩
          go_wp2
          go_roundw
          case rel => exact ⟨j + 1, all, out, A, c, L, rfl, by go_num, by go_num, h1, h2, HA5, HO6, HR6, HB6⟩
          case measure => simp [intOf]; omega
        · obtain ⟨M0, hM0⟩ : ∃ M0 : Int, (N : Int) - (n : Int) = M0 := ⟨_, rfl⟩
          have HRz := Lib.hid (ret_as (v' := .int .i64 M0) HRm.out (by rw [len_of rfl, hM0]))
          have p0 : (M0 == 0) = false := by simp; omega
          have p9 : ¬ M0 = 0 := by omega
          have e0 := (HX3.out.cell 0).trans (show _ = some (Value.int .i64 q1) by rfl)
          clear HRm hM0
          go_wp2_with fail
          refine Calls.mono HRz.out ?_
          rintro e w4 ⟨rfl, hT4⟩
          have HX4 := Lib.hid (hT4.blk HX3.out (by simp))
          have HR4 := Lib.hid (HR3.out.tch hT4 (by simp) (by simp))
          have HO4 := Lib.hid (hT4.own HO3.out (by simp))
          have HB4 : Hid (Below w.heap.size w w4 ∧ x3.heap.size ≤ w4.heap.size) := Lib.hid ⟨HB3.out.1.trans (hT4.below HB3.out.1.size (by simp)), Nat.le_trans HB3.out.2 hT4.size⟩
          have e0 := (HX4.out.cell 0).trans (show _ = some (Value.int .i64 q1) by rfl)
          have e1 := (HX4.out.cell 1).trans (show _ = some (Value.int .i64 q2) by rfl)
          have e2 := (HX4.out.cell 2).trans (show _ = some (Value.string q3) by rfl)
          have HP := Lib.hid (pushP_ok r b N (elP all) out q1 q2 q3 (by rw [HEL.out]; omega) HLn.out w4 HR4.out)
          clear hT4 HRz hfull
          go_wp2_with fail
          refine Calls.mono HP.out ?_
          rintro e w5 ⟨rfl, hR5, hT5⟩
          have hR5 : RgP w5 r b N (elP (all ++ [(q1, q2, q3)])) out := by rw [elP_app]; exact hR5
          have HR5' := Lib.hid hR5
          have HX5 := Lib.hid (hT5.blk HX4.out (nin2 (by have := HXn.out; omega) (by have := HXn.out; omega)))
          have f0 := (HX5.out.cell 0).trans (show _ = some (Value.int .i64 q1) by rfl)
          have f1 := (HX5.out.cell 1).trans (show _ = some (Value.int .i64 q2) by rfl)
          have f2 := (HX5.out.cell 2).trans (show _ = some (Value.string q3) by rfl)
          have HO5' : Hid ((w5.alloc (.cells #[.int .i64 q1, .int .i64 q2, .string q3] 29)).ownsRow x3.heap.size 29 3 (.slice A L c) L (cls all)) := Lib.hid (World.ownsRow.alloc (hT5.own HO4.out (fun g hg => nin2 (by have := own_basek HO4.out g hg; have := HRl.out; omega) (by have := own_basek HO4.out g hg; have := HRl.out; omega))) _)
          have HB5' : Hid (Below w.heap.size w (w5.alloc (.cells #[.int .i64 q1, .int .i64 q2, .string q3] 29)) ∧ x3.heap.size ≤ (w5.alloc (.cells #[.int .i64 q1, .int .i64 q2, .string q3] 29)).heap.size) := Lib.hid (by
            have h1 := HB4.out.1.trans (hT5.below HB4.out.1.size (by simp; exact ⟨B3.out.2.1, B3.out.2.2⟩))
            exact ⟨h1.alloc h1.size _, by rw [World.size_alloc]; have := HB4.out.2; have := hT5.size; omega⟩)
          have HR5a := Lib.hid (HR5'.out.below ((Below.refl _ w5).alloc (Nat.le_refl _) (.cells #[.int .i64 q1, .int .i64 q2, .string q3] 29)))
          have HSrc := Lib.hid (src_new w5 29 [.int .i64 q1, .int .i64 q2, .string q3])
          clear hR5 hT5 HP e0 e1 e2 HR5'
          go_wp2_with (at_builtin; refine wpList_apc 22 29 (.agg #[.int .i64 0, .int .i64 0, .string ⟨#[]⟩]) 3 32 Try.underlying22 infoSt rfl (by decide) (by decide) _ rfl (.tmp 58) (.tmp 60) rfl x3.heap.size (.slice A L c) L (cls all) rfl HO5'.out ⟨w5.heap.size, 0, none⟩ 1 [.int .i64 q1, .int .i64 q2, .string q3] rfl rfl (fun j u hj => HSrc.out j u hj) (by simp [Value.oneCell']) (by omega) HB5'.out.2 ?_; intro v6 w6 hown6 hg6 hv6; obtain ⟨A6, c6, e6, -, -⟩ := own_sl hown6; subst e6; obtain ⟨L5, hL5⟩ : ∃ L5, L + 1 = L5 := ⟨_, rfl⟩; rw [hL5] at hown6; rw [hL5]; have HL5 := Lib.hid hL5; clear hL5; have HO6 : Hid (w6.ownsRow x3.heap.size 29 3 (.slice A6 L5 c6) L5 (cls (all ++ [(q1, q2, q3)]))) := Lib.hid (by rw [cls_app]; exact hown6); have hTg := Tch.of_grown' (S := (match (Value.slice A L c).ownBlock with | some x => [x] | none => [])) hg6 (fun x hx => by simp [hx]); have HR6 := Lib.hid (HR5a.out.tch (hTg) (by cases hx : (Value.slice A L c).ownBlock with | none => simp | some x => (have := own_basek HO5'.out x hx; have := HRl.out; simp; omega)) (by cases hx : (Value.slice A L c).ownBlock with | none => simp | some x => (have := own_basek HO5'.out x hx; have := HRl.out; simp; omega))); have HB6 : Hid (Below w.heap.size w w6 ∧ x3.heap.size ≤ w6.heap.size) := Lib.hid ⟨HB5'.out.1.grown hg6 HB5'.out.1.size (fun x hx => by have := own_basek HO5'.out x hx; have := B3.out.1.size; omega), by have := HB5'.out.2; have := hg6.size; omega⟩; clear hown6 hg6 hv6 hTg)
          have HA5 : Hid ((all ++ [(q1, q2, q3)]).length = L5 ∧ L5 ≤ j + 1) := Lib.hid ⟨by rw [← HL5.out]; simp [hA.out.1], by have := HL5.out; have := hA.out.2; omega⟩
          obtain ⟨n5, hn5⟩ : ∃ n5, n + 1 = n5 := ⟨_, rfl⟩
          have HN5 : Hid (L5 = out + n5) := Lib.hid (by have := HNn.out; have := HL5.out; omega)
          have hn5N : n5 ≤ N := by have := HR6.out.le; rw [elP_len, HA5.out.1] at this; have := HN5.out; omega
          clear hn5
          obtain ⟨w5, hw5⟩ : ∃ x, x = w6 := ⟨_, rfl⟩
          subst hw5
          have HR5 := HR6
          have HO5 := HO6
          have HB5 := HB6
          clear HR6 HO6 HB6 HB5' HO5' HR5a f0 f1 f2 HSrc
          obtain ⟨M, hM⟩ : ∃ M : Int, (N : Int) - (n5 : Int) = M := ⟨_, rfl⟩
          have HE5 : Hid ((elP (all ++ [(q1, q2, q3)])).length = out + n5) := Lib.hid (by rw [elP_len, HA5.out.1]; exact HN5.out)
          have HLm : Hid ((elP (all ++ [(q1, q2, q3)])).length ≤ 900000) := Lib.hid (by have := HA5.out; rw [elP_len]; omega)
          have v1 : IntKind.i64.wrap ((n5 : Int) + M) = (N : Int) := by have := HNN.out; rw [IntKind.wrap_i64]; omega
          have v2 : IntKind.i64.wrap ((L5 : Int) - (out : Int)) = (n5 : Int) := by have := HN5.out; have := HNN.out; rw [IntKind.wrap_i64]; omega
          have p1 : ((N : Int) != (N : Int)) = false := by simp
          have p2 : ((n5 : Int) != (n5 : Int)) = false := by simp
          have HL1 := Lib.hid (ret_as (v' := .int .i64 (n5 : Int)) (lenP_any r b N (elP (all ++ [(q1, q2, q3)])) out HLm.out w5 HR5.out) (by rw [len_of HE5.out]))
          have HRd : Hid (RgP w5 r b N (elP (all ++ [(q1, q2, q3)])) out) := HR5
          have HRm := Lib.hid (ret_as (v' := .int .i64 M) (roomP_any r b N (elP (all ++ [(q1, q2, q3)])) out HLm.out w5 HRd.out) (by rw [len_of HE5.out, hM]))
          clear hM
          go_wp2_with fail
          refine Calls.mono HL1.out ?_
          rintro e w' ⟨rfl, rfl⟩
          go_wp2_with fail
          refine Calls.mono HRm.out ?_
          rintro e w6 ⟨rfl, hT6⟩
          have HR6 := Lib.hid (HRd.out.tch hT6 (by simp) (by simp))
          have HO6 := Lib.hid (hT6.own (w := w5) (show w5.ownsRow _ _ _ _ _ _ from HO5.out) (by simp))
          have HB6 : Hid (Below w.heap.size w w6 ∧ x3.heap.size ≤ w6.heap.size) := Lib.hid (by
            have h1 := HB5.out.1
            have hs : w5.heap.size = w5.heap.size := rfl
            exact ⟨h1.trans (hT6.below h1.size (by simp)), Nat.le_trans HB5.out.2 hT6.size⟩)
          have HL2 := Lib.hid (ret_as (v' := .int .i64 (n5 : Int)) (lenP_any r b N (elP (all ++ [(q1, q2, q3)])) out HLm.out w6 HR6.out) (by rw [len_of HE5.out]))
          clear hT6 HL1 HRm
          go_wp2_with fail
          refine Calls.mono HL2.out ?_
          rintro e w' ⟨rfl, rfl⟩
          go_wp2
          go_roundw
          case rel => exact ⟨j + 1, (all ++ [(q1, q2, q3)]), out, A6, c6, L5, rfl, by go_num, by go_num, h1, h2, HA5, HO6, HR6, HB6⟩
          case measure => simp [intOf]; omega
      · have hkI : ¬ kd < 2 := hk2
        by_cases hne : n = 0
        · have HP := Lib.hid (popP_none r b N (elP all) out (by rw [HEL.out, hne]; rfl) HLn.out w3 HR3.out)
          have hol : ¬ out < L := by have := HNn.out; omega
          have HD := Lib.hid (nlt_dec hol)
          have HDn := Lib.hid (show decide (out < L) = false from decide_eq_false hol)
          clear hne
          go_wp2_with fail
          refine Calls.mono HP.out ?_
          rintro e w4 ⟨rfl, hR4, hT4⟩
          have HR4 := Lib.hid hR4
          have HO4 := Lib.hid (hT4.own HO3.out (fun g hg => nin2 (by have := own_basek HO3.out g hg; have := HRl.out; omega) (by have := own_basek HO3.out g hg; have := HRl.out; omega)))
          have HB4 : Hid (Below w.heap.size w w4 ∧ x3.heap.size ≤ w4.heap.size) := Lib.hid ⟨HB3.out.1.trans (hT4.below HB3.out.1.size (by simp; exact ⟨B3.out.2.1, B3.out.2.2⟩)), Nat.le_trans HB3.out.2 hT4.size⟩
          clear hR4 hT4 HP
          obtain ⟨yb, hyb⟩ : ∃ yb, w4.heap.size = yb := ⟨_, rfl⟩
          obtain ⟨W4, hW4⟩ : ∃ W4, w4.alloc (.cells #[.int .i64 0, .int .i64 0, .string ⟨#[]⟩] 29) = W4 := ⟨_, rfl⟩
          have HY : Hid (Blk W4 yb 29 #[.int .i64 0, .int .i64 0, .string ⟨#[]⟩]) := Lib.hid (hW4 ▸ hyb ▸ Blk.new _ _ _)
          have HBy : Hid (Below w4.heap.size w4 W4) := Lib.hid (hW4 ▸ (Below.refl _ _).alloc (Nat.le_refl _) _)
          have HW4 := Lib.hid (And.intro hW4 hyb)
          have g0 := (HY.out.cell 0).trans (show _ = some (Value.int .i64 0) by rfl)
          have g1 := (HY.out.cell 1).trans (show _ = some (Value.int .i64 0) by rfl)
          have g2 := (HY.out.cell 2).trans (show _ = some (Value.string ⟨#[]⟩) by rfl)
          have HG := Lib.hid (And.intro g0 (And.intro g1 g2))
          have hd := HD.out
          have hdn := HDn.out
          have bq : (false != false) = false := rfl
          have hlI : ¬ (out : Int) < (L : Int) := by omega
          clear hyb hW4 hol
          go_wp2
          rw [HW4.out.1, HW4.out.2]
          refine wp_region_held_drew (S := (fun W => W.cell? ⟨yb, 0, none⟩ = some (.int .i64 0) ∧ W.cell? ⟨yb, 1, none⟩ = some (.int .i64 0) ∧ W.cell? ⟨yb, 2, none⟩ = some (.string ⟨#[]⟩))) (by kernel_rfl) ?_ (fun hHeld => ?_)
          · (exact HG.out)
          refine wpAnyH_take (i := 0) (oi := { dst := some 67, op := Go.Op.move (Go.Operand.tmp 14), type := 4, pos := "law.go:91", after := #[], guard := none }) (v := ?_) rfl (by kernel_rfl) (by kernel_rfl) (by kernel_rfl) (fun _ _ _ h => h) (Or.inl ⟨by rfl, ?_⟩) (by assumption) ?_
          rotate_left
          · intro w hSw
            (try dsimp only at hSw)
            go_simp
            try (with_reducible rfl)
          try simp only [Act.put, List.setIfInBounds_toArray, List.set_cons_zero, List.set_cons_succ]
          refine wpAnyH_take (i := 1) (oi := { dst := some 68, op := Go.Op.move (Go.Operand.tmp 9), type := 3, pos := "law.go:91", after := #[], guard := none }) (v := ?_) rfl (by kernel_rfl) (by kernel_rfl) (by kernel_rfl) (fun _ _ _ h => h) (Or.inl ⟨by rfl, ?_⟩) (by assumption) ?_
          rotate_left
          · intro w hSw
            (try dsimp only at hSw)
            go_simp
            try (with_reducible rfl)
          try simp only [Act.put, List.setIfInBounds_toArray, List.set_cons_zero, List.set_cons_succ]
          refine wpAnyH_take (i := 2) (oi := { dst := some 69, op := Go.Op.move (Go.Operand.tmp 8), type := 22, pos := "law.go:91", after := #[], guard := none }) (v := ?_) rfl (by kernel_rfl) (by kernel_rfl) (by kernel_rfl) (fun _ _ _ h => h) (Or.inl ⟨by rfl, ?_⟩) (by assumption) ?_
          rotate_left
          · intro w hSw
            (try dsimp only at hSw)
            go_simp
            try (with_reducible rfl)
          try simp only [Act.put, List.setIfInBounds_toArray, List.set_cons_zero, List.set_cons_succ]
          refine wpAnyH_take (i := 3) (oi := { dst := some 70, op := Go.Op.call { callee := Go.Callee.builtin Go.Builtin.len, args := #[Go.Operand.tmp 69], argTypes := #[22] }, type := 3, pos := "law.go:91", after := #[{ on := 2, ground := Go.Ground.data }], guard := none }) (v := ?_) rfl (by kernel_rfl) (by kernel_rfl) (by kernel_rfl) (fun _ _ _ h => h) (Or.inl ⟨by rfl, ?_⟩) (by assumption) ?_
          rotate_left
          · intro w hSw
            (try dsimp only at hSw)
            go_simp
            try (with_reducible rfl)
          try simp only [Act.put, List.setIfInBounds_toArray, List.set_cons_zero, List.set_cons_succ]
          refine wpAnyH_take (i := 4) (oi := { dst := some 71, op := Go.Op.binOp Go.BinOp.lss 3 (Go.Operand.tmp 68) (Go.Operand.tmp 70) 3, type := 4, pos := "law.go:91", after := #[{ on := 1, ground := Go.Ground.data }, { on := 3, ground := Go.Ground.data }], guard := none }) (v := ?_) rfl (by kernel_rfl) (by kernel_rfl) (by kernel_rfl) (fun _ _ _ h => h) (Or.inl ⟨by rfl, ?_⟩) (by assumption) ?_
          rotate_left
          · intro w hSw
            (try dsimp only at hSw)
            go_simp
            try (with_reducible rfl)
          try simp only [Act.put, List.setIfInBounds_toArray, List.set_cons_zero, List.set_cons_succ]
          refine wpAnyH_take (i := 5) (oi := { dst := some 72, op := Go.Op.binOp Go.BinOp.neq 4 (Go.Operand.tmp 67) (Go.Operand.tmp 71) 4, type := 4, pos := "law.go:91", after := #[{ on := 0, ground := Go.Ground.data }, { on := 4, ground := Go.Ground.data }], guard := none }) (v := ?_) rfl (by kernel_rfl) (by kernel_rfl) (by kernel_rfl) (fun _ _ _ h => h) (Or.inl ⟨by rfl, ?_⟩) (by assumption) ?_
          rotate_left
          · intro w hSw
            (try dsimp only at hSw)
            go_simp
            try (with_reducible rfl)
          try simp only [Act.put, List.setIfInBounds_toArray, List.set_cons_zero, List.set_cons_succ]
          refine wpAnyH_take (i := 6) (oi := { dst := some 73, op := Go.Op.move (Go.Operand.tmp 72), type := 4, pos := "law.go:91", after := #[{ on := 5, ground := Go.Ground.data }], guard := none }) (v := ?_) rfl (by kernel_rfl) (by kernel_rfl) (by kernel_rfl) (fun _ _ _ h => h) (Or.inl ⟨by rfl, ?_⟩) (by assumption) ?_
          rotate_left
          · intro w hSw
            (try dsimp only at hSw)
            go_simp
            try (with_reducible rfl)
          try simp only [Act.put, List.setIfInBounds_toArray, List.set_cons_zero, List.set_cons_succ]
          refine wpAnyH_take (i := 7) (oi := { dst := some 74, op := Go.Op.move (Go.Operand.tmp 14), type := 4, pos := "law.go:91", after := #[{ on := 6, ground := Go.Ground.guard }], guard := some (6, false) }) (v := ?_) rfl (by kernel_rfl) (by kernel_rfl) (by kernel_rfl) (fun _ _ _ h => h) (Or.inl ⟨by rfl, ?_⟩) (by assumption) ?_
          rotate_left
          · intro w hSw
            (try dsimp only at hSw)
            go_simp
            try (with_reducible rfl)
          try simp only [Act.put, List.setIfInBounds_toArray, List.set_cons_zero, List.set_cons_succ]
          refine wpAnyH_take (i := 8) (oi := { dst := some 75, op := Go.Op.move (Go.Operand.tmp 74), type := 4, pos := "law.go:91", after := #[{ on := 7, ground := Go.Ground.data }, { on := 6, ground := Go.Ground.chain }, { on := 6, ground := Go.Ground.guard }], guard := some (6, false) }) (v := ?_) rfl (by kernel_rfl) (by kernel_rfl) (by kernel_rfl) (fun _ _ _ h => h) (Or.inl ⟨by rfl, ?_⟩) (by assumption) ?_
          rotate_left
          · intro w hSw
            (try dsimp only at hSw)
            go_simp
            try (with_reducible rfl)
          try simp only [Act.put, List.setIfInBounds_toArray, List.set_cons_zero, List.set_cons_succ]
          refine wpAnyH_take (i := 9) (oi := { dst := some 76, op := Go.Op.load 29 (Go.Operand.tmp 13), type := 29, pos := "law.go:91", after := #[{ on := 8, ground := Go.Ground.guard }], guard := some (8, true) }) (v := undef) rfl (by kernel_rfl) (by kernel_rfl) (by kernel_rfl) (fun _ _ _ h => h) (Or.inr ⟨by rfl, rfl⟩) (by assumption) ?_
          try simp only [Act.put, List.setIfInBounds_toArray, List.set_cons_zero, List.set_cons_succ]
          refine wpAnyH_take (i := 10) (oi := { dst := some 77, op := Go.Op.move (Go.Operand.tmp 8), type := 22, pos := "law.go:91", after := #[{ on := 8, ground := Go.Ground.guard }], guard := some (8, true) }) (v := undef) rfl (by kernel_rfl) (by kernel_rfl) (by kernel_rfl) (fun _ _ _ h => h) (Or.inr ⟨by rfl, rfl⟩) (by assumption) ?_
          try simp only [Act.put, List.setIfInBounds_toArray, List.set_cons_zero, List.set_cons_succ]
          refine wpAnyH_take (i := 11) (oi := { dst := some 78, op := Go.Op.move (Go.Operand.tmp 9), type := 3, pos := "law.go:91", after := #[{ on := 8, ground := Go.Ground.guard }], guard := some (8, true) }) (v := undef) rfl (by kernel_rfl) (by kernel_rfl) (by kernel_rfl) (fun _ _ _ h => h) (Or.inr ⟨by rfl, rfl⟩) (by assumption) ?_
          try simp only [Act.put, List.setIfInBounds_toArray, List.set_cons_zero, List.set_cons_succ]
          refine wpAnyH_take (i := 12) (oi := { dst := some 79, op := Go.Op.indexAddr 22 (Go.Operand.tmp 77) (Go.Operand.tmp 78), type := 0, pos := "law.go:91", after := #[{ on := 10, ground := Go.Ground.data }, { on := 11, ground := Go.Ground.data }, { on := 8, ground := Go.Ground.guard }], guard := some (8, true) }) (v := undef) rfl (by kernel_rfl) (by kernel_rfl) (by kernel_rfl) (fun _ _ _ h => h) (Or.inr ⟨by rfl, rfl⟩) (by assumption) ?_
          try simp only [Act.put, List.setIfInBounds_toArray, List.set_cons_zero, List.set_cons_succ]
          refine wpAnyH_take (i := 13) (oi := { dst := some 80, op := Go.Op.load 29 (Go.Operand.tmp 79), type := 29, pos := "law.go:91", after := #[{ on := 12, ground := Go.Ground.data }, { on := 8, ground := Go.Ground.guard }], guard := some (8, true) }) (v := undef) rfl (by kernel_rfl) (by kernel_rfl) (by kernel_rfl) (fun _ _ _ h => h) (Or.inr ⟨by rfl, rfl⟩) (by assumption) ?_
          try simp only [Act.put, List.setIfInBounds_toArray, List.set_cons_zero, List.set_cons_succ]
          refine wpAnyH_take (i := 14) (oi := { dst := some 81, op := Go.Op.binOp Go.BinOp.neq 29 (Go.Operand.tmp 76) (Go.Operand.tmp 80) 29, type := 4, pos := "law.go:91", after := #[{ on := 9, ground := Go.Ground.data }, { on := 13, ground := Go.Ground.data }, { on := 8, ground := Go.Ground.guard }], guard := some (8, true) }) (v := undef) rfl (by kernel_rfl) (by kernel_rfl) (by kernel_rfl) (fun _ _ _ h => h) (Or.inr ⟨by rfl, rfl⟩) (by assumption) ?_
          try simp only [Act.put, List.setIfInBounds_toArray, List.set_cons_zero, List.set_cons_succ]
          refine wpAnyH_take (i := 15) (oi := { dst := some 82, op := Go.Op.pick (Go.Operand.tmp 75) (Go.Operand.tmp 81) (Go.Operand.const (Go.Value.bool false)), type := 4, pos := "law.go:91", after := #[{ on := 8, ground := Go.Ground.data }, { on := 14, ground := Go.Ground.data }, { on := 6, ground := Go.Ground.guard }], guard := some (6, false) }) (v := ?_) rfl (by kernel_rfl) (by kernel_rfl) (by kernel_rfl) (fun _ _ _ h => h) (Or.inl ⟨by rfl, ?_⟩) (by assumption) ?_
          rotate_left
          · intro w hSw
            (try dsimp only at hSw)
            go_simp
            try (with_reducible rfl)
          try simp only [Act.put, List.setIfInBounds_toArray, List.set_cons_zero, List.set_cons_succ]
          refine wpAnyH_take (i := 16) (oi := { dst := some 83, op := Go.Op.pick (Go.Operand.tmp 73) (Go.Operand.const (Go.Value.bool true)) (Go.Operand.tmp 82), type := 4, pos := "law.go:91", after := #[{ on := 6, ground := Go.Ground.data }, { on := 15, ground := Go.Ground.data }], guard := none }) (v := ?_) rfl (by kernel_rfl) (by kernel_rfl) (by kernel_rfl) (fun _ _ _ h => h) (Or.inl ⟨by rfl, ?_⟩) (by assumption) ?_
          rotate_left
          · intro w hSw
            (try dsimp only at hSw)
            go_simp
            try (with_reducible rfl)
          try simp only [Act.put, List.setIfInBounds_toArray, List.set_cons_zero, List.set_cons_succ]
          refine wpAnyH_take (i := 17) (oi := { dst := some 84, op := Go.Op.move (Go.Operand.tmp 83), type := 4, pos := "law.go:91", after := #[{ on := 16, ground := Go.Ground.data }, { on := 8, ground := Go.Ground.chain }], guard := none }) (v := ?_) rfl (by kernel_rfl) (by kernel_rfl) (by kernel_rfl) (fun _ _ _ h => h) (Or.inl ⟨by rfl, ?_⟩) (by assumption) ?_
          rotate_left
          · intro w hSw
            (try dsimp only at hSw)
            go_simp
            try (with_reducible rfl)
          try simp only [Act.put, List.setIfInBounds_toArray, List.set_cons_zero, List.set_cons_succ]
          refine wpAnyH_take (i := 18) (oi := { dst := some 85, op := Go.Op.move (Go.Operand.tmp 14), type := 4, pos := "law.go:91", after := #[{ on := 17, ground := Go.Ground.guard }], guard := some (17, false) }) (v := ?_) rfl (by kernel_rfl) (by kernel_rfl) (by kernel_rfl) (fun _ _ _ h => h) (Or.inl ⟨by rfl, ?_⟩) (by assumption) ?_
          rotate_left
          · intro w hSw
            (try dsimp only at hSw)
            go_simp
            try (with_reducible rfl)
          try simp only [Act.put, List.setIfInBounds_toArray, List.set_cons_zero, List.set_cons_succ]
          refine wpAnyH_take (i := 19) (oi := { dst := some 86, op := Go.Op.unOp Go.UnOp.not 4 (Go.Operand.tmp 85), type := 4, pos := "law.go:91", after := #[{ on := 18, ground := Go.Ground.data }, { on := 17, ground := Go.Ground.guard }], guard := some (17, false) }) (v := ?_) rfl (by kernel_rfl) (by kernel_rfl) (by kernel_rfl) (fun _ _ _ h => h) (Or.inl ⟨by rfl, ?_⟩) (by assumption) ?_
          rotate_left
          · intro w hSw
            (try dsimp only at hSw)
            go_simp
            try (with_reducible rfl)
          try simp only [Act.put, List.setIfInBounds_toArray, List.set_cons_zero, List.set_cons_succ]
          refine wpAnyH_take (i := 20) (oi := { dst := some 87, op := Go.Op.move (Go.Operand.tmp 86), type := 4, pos := "law.go:91", after := #[{ on := 19, ground := Go.Ground.data }, { on := 17, ground := Go.Ground.chain }, { on := 17, ground := Go.Ground.guard }], guard := some (17, false) }) (v := ?_) rfl (by kernel_rfl) (by kernel_rfl) (by kernel_rfl) (fun _ _ _ h => h) (Or.inl ⟨by rfl, ?_⟩) (by assumption) ?_
          rotate_left
          · intro w hSw
            (try dsimp only at hSw)
            go_simp
            try (with_reducible rfl)
          try simp only [Act.put, List.setIfInBounds_toArray, List.set_cons_zero, List.set_cons_succ]
          refine wpAnyH_take (i := 21) (oi := { dst := some 88, op := Go.Op.load 29 (Go.Operand.tmp 13), type := 29, pos := "law.go:91", after := #[{ on := 20, ground := Go.Ground.guard }], guard := some (20, true) }) (v := ?_) rfl (by kernel_rfl) (by kernel_rfl) (by kernel_rfl) (fun _ _ _ h => h) (Or.inl ⟨by rfl, ?_⟩) (by assumption) ?_
          rotate_left
          · intro w hSw
            (try dsimp only at hSw)
            go_simp
            try (with_reducible rfl)
          try simp only [Act.put, List.setIfInBounds_toArray, List.set_cons_zero, List.set_cons_succ]
          refine wpAnyH_take (i := 22) (oi := { dst := some 89, op := Go.Op.build 29 #[], type := 29, pos := "law.go:91", after := #[{ on := 20, ground := Go.Ground.guard }], guard := some (20, true) }) (v := ?_) rfl (by kernel_rfl) (by kernel_rfl) (by kernel_rfl) (fun _ _ _ h => h) (Or.inl ⟨by rfl, ?_⟩) (by assumption) ?_
          rotate_left
          · intro w hSw
            (try dsimp only at hSw)
            go_simp
            try (with_reducible rfl)
          try simp only [Act.put, List.setIfInBounds_toArray, List.set_cons_zero, List.set_cons_succ]
          refine wpAnyH_take (i := 23) (oi := { dst := some 90, op := Go.Op.binOp Go.BinOp.neq 29 (Go.Operand.tmp 88) (Go.Operand.tmp 89) 29, type := 4, pos := "law.go:91", after := #[{ on := 21, ground := Go.Ground.data }, { on := 22, ground := Go.Ground.data }, { on := 20, ground := Go.Ground.guard }], guard := some (20, true) }) (v := ?_) rfl (by kernel_rfl) (by kernel_rfl) (by kernel_rfl) (fun _ _ _ h => h) (Or.inl ⟨by rfl, ?_⟩) (by assumption) ?_
          rotate_left
          · intro w hSw
            (try dsimp only at hSw)
            go_simp
            try (with_reducible rfl)
          try simp only [Act.put, List.setIfInBounds_toArray, List.set_cons_zero, List.set_cons_succ]
          refine wpAnyH_take (i := 24) (oi := { dst := some 91, op := Go.Op.pick (Go.Operand.tmp 87) (Go.Operand.tmp 90) (Go.Operand.const (Go.Value.bool false)), type := 4, pos := "law.go:91", after := #[{ on := 20, ground := Go.Ground.data }, { on := 23, ground := Go.Ground.data }, { on := 17, ground := Go.Ground.guard }], guard := some (17, false) }) (v := ?_) rfl (by kernel_rfl) (by kernel_rfl) (by kernel_rfl) (fun _ _ _ h => h) (Or.inl ⟨by rfl, ?_⟩) (by assumption) ?_
          rotate_left
          · intro w hSw
            (try dsimp only at hSw)
            go_simp
            try (with_reducible rfl)
          try simp only [Act.put, List.setIfInBounds_toArray, List.set_cons_zero, List.set_cons_succ]
          refine wpAnyH_take (i := 25) (oi := { dst := some 92, op := Go.Op.pick (Go.Operand.tmp 84) (Go.Operand.const (Go.Value.bool true)) (Go.Operand.tmp 91), type := 4, pos := "law.go:91", after := #[{ on := 17, ground := Go.Ground.data }, { on := 24, ground := Go.Ground.data }], guard := none }) (v := ?_) rfl (by kernel_rfl) (by kernel_rfl) (by kernel_rfl) (fun _ _ _ h => h) (Or.inl ⟨by rfl, ?_⟩) (by assumption) ?_
          rotate_left
          · intro w hSw
            (try dsimp only at hSw)
            go_simp
            try (with_reducible rfl)
          try simp only [Act.put, List.setIfInBounds_toArray, List.set_cons_zero, List.set_cons_succ]
          refine wpAnyH_done (by kernel_rfl) ?_ _
          have HR5 : Hid (RgP W4.drew r b N (elP all) out) := Lib.hid ((HR4.out.below HBy.out).below (Below.refl _ W4).drew)
          have HO5 : Hid (W4.drew.ownsRow x3.heap.size 29 3 (.slice A L c) L (cls all)) := Lib.hid (show W4.ownsRow _ _ _ _ _ _ from (Tch.of_below [] HBy.out).own HO4.out (by simp))
          have HB5 : Hid (Below w.heap.size w W4.drew ∧ x3.heap.size ≤ W4.drew.heap.size) := Lib.hid ⟨(HB4.out.1.trans (HBy.out.mono HB4.out.1.size)).drew, Nat.le_trans HB4.out.2 HBy.out.size⟩
          have HA5 : Hid (all.length = L ∧ L ≤ j + 1) := Lib.hid ⟨hA.out.1, by have := hA.out.2; omega⟩
          have HN5 := HNn
          have hn5N := hnN
          clear g0 g1 g2 hd hdn hlI
          obtain ⟨w5, hw5⟩ : ∃ w5, W4.drew = w5 := ⟨_, rfl⟩
          rw [hw5] at HR5 HO5 HB5
          have HW5 := Lib.hid hw5
          clear hw5
          obtain ⟨M, hM⟩ : ∃ M : Int, (N : Int) - (n : Int) = M := ⟨_, rfl⟩
          have HE5 : Hid ((elP all).length = out + n) := Lib.hid (by rw [elP_len, HA5.out.1]; exact HN5.out)
          have HLm : Hid ((elP all).length ≤ 900000) := Lib.hid (by have := HA5.out; rw [elP_len]; omega)
          have v1 : IntKind.i64.wrap ((n : Int) + M) = (N : Int) := by have := HNN.out; rw [IntKind.wrap_i64]; omega
          have v2 : IntKind.i64.wrap ((L : Int) - (out : Int)) = (n : Int) := by have := HN5.out; have := HNN.out; rw [IntKind.wrap_i64]; omega
          have p1 : ((N : Int) != (N : Int)) = false := by simp
          have p2 : ((n : Int) != (n : Int)) = false := by simp
          have HL1 := Lib.hid (ret_as (v' := .int .i64 (n : Int)) (lenP_any r b N (elP all) out HLm.out w5 HR5.out) (by rw [len_of HE5.out]))
          have HRd : Hid (RgP w5 r b N (elP all) out) := HR5
          have HRm := Lib.hid (ret_as (v' := .int .i64 M) (roomP_any r b N (elP all) out HLm.out w5 HRd.out) (by rw [len_of HE5.out, hM]))
          clear hM
          go_wp2_with fail
          rw [HW5.out]
          refine Calls.mono HL1.out ?_
          rintro e w' ⟨rfl, rfl⟩
          go_wp2_with fail
          refine Calls.mono HRm.out ?_
          rintro e w6 ⟨rfl, hT6⟩
          have HR6 := Lib.hid (HRd.out.tch hT6 (by simp) (by simp))
          have HO6 := Lib.hid (hT6.own (w := w5) (show w5.ownsRow _ _ _ _ _ _ from HO5.out) (by simp))
          have HB6 : Hid (Below w.heap.size w w6 ∧ x3.heap.size ≤ w6.heap.size) := Lib.hid (by
            have h1 := HB5.out.1
            have hs : w5.heap.size = w5.heap.size := rfl
            exact ⟨h1.trans (hT6.below h1.size (by simp)), Nat.le_trans HB5.out.2 hT6.size⟩)
          have HL2 := Lib.hid (ret_as (v' := .int .i64 (n : Int)) (lenP_any r b N (elP all) out HLm.out w6 HR6.out) (by rw [len_of HE5.out]))
          clear hT6 HL1 HRm
          go_wp2_with fail
          refine Calls.mono HL2.out ?_
          rintro e w' ⟨rfl, rfl⟩
          go_wp2
          go_roundw
          case rel => exact ⟨j + 1, all, out, A, c, L, rfl, by go_num, by go_num, h1, h2, HA5, HO6, HR6, HB6⟩
          case measure => simp [intOf]; omega
        · obtain ⟨x, hx⟩ : ∃ x, all[out]? = some x := ⟨_, List.getElem?_eq_getElem (by have := HNn.out; have := hA.out.1; omega)⟩
          obtain ⟨p1, p2, p3⟩ := x
          have HP := Lib.hid (popP_ok r b N (elP all) out p1 p2 p3 (elP_at hx) HLn.out w3 HR3.out)
          have HAx := Lib.hid hx
          have hol : out < L := by have := HNn.out; omega
          have HD := Lib.hid (lt_dec hol)
          have HDn := Lib.hid (show decide (out < L) = true from decide_eq_true hol)
          clear hx
          go_wp2_with fail
          refine Calls.mono HP.out ?_
          rintro e w4 ⟨rfl, hR4, hT4⟩
          have HR4 := Lib.hid hR4
          have HO4 := Lib.hid (hT4.own HO3.out (fun g hg => nin2 (by have := own_basek HO3.out g hg; have := HRl.out; omega) (by have := own_basek HO3.out g hg; have := HRl.out; omega)))
          have HB4 : Hid (Below w.heap.size w w4 ∧ x3.heap.size ≤ w4.heap.size) := Lib.hid ⟨HB3.out.1.trans (hT4.below HB3.out.1.size (by simp; exact ⟨B3.out.2.1, B3.out.2.2⟩)), Nat.le_trans HB3.out.2 hT4.size⟩
          clear hR4 hT4 HP
          obtain ⟨yb, hyb⟩ : ∃ yb, w4.heap.size = yb := ⟨_, rfl⟩
          obtain ⟨W4, hW4⟩ : ∃ W4, w4.alloc (.cells #[.int .i64 p1, .int .i64 p2, .string p3] 29) = W4 := ⟨_, rfl⟩
          have HY : Hid (Blk W4 yb 29 #[.int .i64 p1, .int .i64 p2, .string p3]) := Lib.hid (hW4 ▸ hyb ▸ Blk.new _ _ _)
          have HBy : Hid (Below w4.heap.size w4 W4) := Lib.hid (hW4 ▸ (Below.refl _ _).alloc (Nat.le_refl _) _)
          have HW4 := Lib.hid (And.intro hW4 hyb)
          have HO4' : Hid (W4.ownsRow x3.heap.size 29 3 (.slice A L c) L (cls all)) := Lib.hid ((Tch.of_below [] HBy.out).own HO4.out (by simp))
          obtain ⟨gg, rfl, -, -, k0, k1, k2, -⟩ := own_step HO4'.out HAx.out
          simp only at k0 k1 k2
          have g0 := (HY.out.cell 0).trans (show _ = some (Value.int .i64 p1) by rfl)
          have g1 := (HY.out.cell 1).trans (show _ = some (Value.int .i64 p2) by rfl)
          have g2 := (HY.out.cell 2).trans (show _ = some (Value.string p3) by rfl)
          have HG := Lib.hid (And.intro g0 (And.intro g1 (And.intro g2 (And.intro k0 (And.intro k1 k2)))))
          have hd := HD.out
          have hdn := HDn.out
          have bq : (true != true) = false := rfl
          have hlI : (out : Int) < (L : Int) := by omega
          have hl0 : (0 : Int) ≤ (out : Int) := by omega
          have j5 : IntKind.i64.wrap ((out : Int) + 1) = (out : Int) + 1 := by rw [IntKind.wrap_i64]; omega
          clear hyb hW4 hol
          go_wp2
          rw [HW4.out.1, HW4.out.2]
          refine wp_region_held_drew (S := (fun W => W.cell? ⟨yb, 0, none⟩ = some (.int .i64 p1) ∧ W.cell? ⟨yb, 1, none⟩ = some (.int .i64 p2) ∧ W.cell? ⟨yb, 2, none⟩ = some (.string p3) ∧ W.cell? ⟨gg, out * 3, none⟩ = some (.int .i64 p1) ∧ W.cell? ⟨gg, out * 3 + 1, none⟩ = some (.int .i64 p2) ∧ W.cell? ⟨gg, out * 3 + 2, none⟩ = some (.string p3))) (by kernel_rfl) ?_ (fun hHeld => ?_)
          · (exact HG.out)
          refine wpAnyH_take (i := 0) (oi := { dst := some 67, op := Go.Op.move (Go.Operand.tmp 14), type := 4, pos := "law.go:91", after := #[], guard := none }) (v := ?_) rfl (by kernel_rfl) (by kernel_rfl) (by kernel_rfl) (fun _ _ _ h => h) (Or.inl ⟨by rfl, ?_⟩) (by assumption) ?_
          rotate_left
          · intro w hSw
            (try dsimp only at hSw)
            go_simp
            try (with_reducible rfl)
          try simp only [Act.put, List.setIfInBounds_toArray, List.set_cons_zero, List.set_cons_succ]
          refine wpAnyH_take (i := 1) (oi := { dst := some 68, op := Go.Op.move (Go.Operand.tmp 9), type := 3, pos := "law.go:91", after := #[], guard := none }) (v := ?_) rfl (by kernel_rfl) (by kernel_rfl) (by kernel_rfl) (fun _ _ _ h => h) (Or.inl ⟨by rfl, ?_⟩) (by assumption) ?_
          rotate_left
          · intro w hSw
            (try dsimp only at hSw)
            go_simp
            try (with_reducible rfl)
          try simp only [Act.put, List.setIfInBounds_toArray, List.set_cons_zero, List.set_cons_succ]
          refine wpAnyH_take (i := 2) (oi := { dst := some 69, op := Go.Op.move (Go.Operand.tmp 8), type := 22, pos := "law.go:91", after := #[], guard := none }) (v := ?_) rfl (by kernel_rfl) (by kernel_rfl) (by kernel_rfl) (fun _ _ _ h => h) (Or.inl ⟨by rfl, ?_⟩) (by assumption) ?_
          rotate_left
          · intro w hSw
            (try dsimp only at hSw)
            go_simp
            try (with_reducible rfl)
          try simp only [Act.put, List.setIfInBounds_toArray, List.set_cons_zero, List.set_cons_succ]
          refine wpAnyH_take (i := 3) (oi := { dst := some 70, op := Go.Op.call { callee := Go.Callee.builtin Go.Builtin.len, args := #[Go.Operand.tmp 69], argTypes := #[22] }, type := 3, pos := "law.go:91", after := #[{ on := 2, ground := Go.Ground.data }], guard := none }) (v := ?_) rfl (by kernel_rfl) (by kernel_rfl) (by kernel_rfl) (fun _ _ _ h => h) (Or.inl ⟨by rfl, ?_⟩) (by assumption) ?_
          rotate_left
          · intro w hSw
            (try dsimp only at hSw)
            go_simp
            try (with_reducible rfl)
          try simp only [Act.put, List.setIfInBounds_toArray, List.set_cons_zero, List.set_cons_succ]
          refine wpAnyH_take (i := 4) (oi := { dst := some 71, op := Go.Op.binOp Go.BinOp.lss 3 (Go.Operand.tmp 68) (Go.Operand.tmp 70) 3, type := 4, pos := "law.go:91", after := #[{ on := 1, ground := Go.Ground.data }, { on := 3, ground := Go.Ground.data }], guard := none }) (v := ?_) rfl (by kernel_rfl) (by kernel_rfl) (by kernel_rfl) (fun _ _ _ h => h) (Or.inl ⟨by rfl, ?_⟩) (by assumption) ?_
          rotate_left
          · intro w hSw
            (try dsimp only at hSw)
            go_simp
            try (with_reducible rfl)
          try simp only [Act.put, List.setIfInBounds_toArray, List.set_cons_zero, List.set_cons_succ]
          refine wpAnyH_take (i := 5) (oi := { dst := some 72, op := Go.Op.binOp Go.BinOp.neq 4 (Go.Operand.tmp 67) (Go.Operand.tmp 71) 4, type := 4, pos := "law.go:91", after := #[{ on := 0, ground := Go.Ground.data }, { on := 4, ground := Go.Ground.data }], guard := none }) (v := ?_) rfl (by kernel_rfl) (by kernel_rfl) (by kernel_rfl) (fun _ _ _ h => h) (Or.inl ⟨by rfl, ?_⟩) (by assumption) ?_
          rotate_left
          · intro w hSw
            (try dsimp only at hSw)
            go_simp
            try (with_reducible rfl)
          try simp only [Act.put, List.setIfInBounds_toArray, List.set_cons_zero, List.set_cons_succ]
          refine wpAnyH_take (i := 6) (oi := { dst := some 73, op := Go.Op.move (Go.Operand.tmp 72), type := 4, pos := "law.go:91", after := #[{ on := 5, ground := Go.Ground.data }], guard := none }) (v := ?_) rfl (by kernel_rfl) (by kernel_rfl) (by kernel_rfl) (fun _ _ _ h => h) (Or.inl ⟨by rfl, ?_⟩) (by assumption) ?_
          rotate_left
          · intro w hSw
            (try dsimp only at hSw)
            go_simp
            try (with_reducible rfl)
          try simp only [Act.put, List.setIfInBounds_toArray, List.set_cons_zero, List.set_cons_succ]
          refine wpAnyH_take (i := 7) (oi := { dst := some 74, op := Go.Op.move (Go.Operand.tmp 14), type := 4, pos := "law.go:91", after := #[{ on := 6, ground := Go.Ground.guard }], guard := some (6, false) }) (v := ?_) rfl (by kernel_rfl) (by kernel_rfl) (by kernel_rfl) (fun _ _ _ h => h) (Or.inl ⟨by rfl, ?_⟩) (by assumption) ?_
          rotate_left
          · intro w hSw
            (try dsimp only at hSw)
            go_simp
            try (with_reducible rfl)
          try simp only [Act.put, List.setIfInBounds_toArray, List.set_cons_zero, List.set_cons_succ]
          refine wpAnyH_take (i := 8) (oi := { dst := some 75, op := Go.Op.move (Go.Operand.tmp 74), type := 4, pos := "law.go:91", after := #[{ on := 7, ground := Go.Ground.data }, { on := 6, ground := Go.Ground.chain }, { on := 6, ground := Go.Ground.guard }], guard := some (6, false) }) (v := ?_) rfl (by kernel_rfl) (by kernel_rfl) (by kernel_rfl) (fun _ _ _ h => h) (Or.inl ⟨by rfl, ?_⟩) (by assumption) ?_
          rotate_left
          · intro w hSw
            (try dsimp only at hSw)
            go_simp
            try (with_reducible rfl)
          try simp only [Act.put, List.setIfInBounds_toArray, List.set_cons_zero, List.set_cons_succ]
          refine wpAnyH_take (i := 9) (oi := { dst := some 76, op := Go.Op.load 29 (Go.Operand.tmp 13), type := 29, pos := "law.go:91", after := #[{ on := 8, ground := Go.Ground.guard }], guard := some (8, true) }) (v := ?_) rfl (by kernel_rfl) (by kernel_rfl) (by kernel_rfl) (fun _ _ _ h => h) (Or.inl ⟨by rfl, ?_⟩) (by assumption) ?_
          rotate_left
          · intro w hSw
            (try dsimp only at hSw)
            go_simp
            try (with_reducible rfl)
          try simp only [Act.put, List.setIfInBounds_toArray, List.set_cons_zero, List.set_cons_succ]
          refine wpAnyH_take (i := 10) (oi := { dst := some 77, op := Go.Op.move (Go.Operand.tmp 8), type := 22, pos := "law.go:91", after := #[{ on := 8, ground := Go.Ground.guard }], guard := some (8, true) }) (v := ?_) rfl (by kernel_rfl) (by kernel_rfl) (by kernel_rfl) (fun _ _ _ h => h) (Or.inl ⟨by rfl, ?_⟩) (by assumption) ?_
          rotate_left
          · intro w hSw
            (try dsimp only at hSw)
            go_simp
            try (with_reducible rfl)
          try simp only [Act.put, List.setIfInBounds_toArray, List.set_cons_zero, List.set_cons_succ]
          refine wpAnyH_take (i := 11) (oi := { dst := some 78, op := Go.Op.move (Go.Operand.tmp 9), type := 3, pos := "law.go:91", after := #[{ on := 8, ground := Go.Ground.guard }], guard := some (8, true) }) (v := ?_) rfl (by kernel_rfl) (by kernel_rfl) (by kernel_rfl) (fun _ _ _ h => h) (Or.inl ⟨by rfl, ?_⟩) (by assumption) ?_
          rotate_left
          · intro w hSw
            (try dsimp only at hSw)
            go_simp
            try (with_reducible rfl)
          try simp only [Act.put, List.setIfInBounds_toArray, List.set_cons_zero, List.set_cons_succ]
          refine wpAnyH_take (i := 12) (oi := { dst := some 79, op := Go.Op.indexAddr 22 (Go.Operand.tmp 77) (Go.Operand.tmp 78), type := 0, pos := "law.go:91", after := #[{ on := 10, ground := Go.Ground.data }, { on := 11, ground := Go.Ground.data }, { on := 8, ground := Go.Ground.guard }], guard := some (8, true) }) (v := ?_) rfl (by kernel_rfl) (by kernel_rfl) (by kernel_rfl) (fun _ _ _ h => h) (Or.inl ⟨by rfl, ?_⟩) (by assumption) ?_
          rotate_left
          · intro w hSw
            (try dsimp only at hSw)
            go_simp
            try (with_reducible rfl)
          try simp only [Act.put, List.setIfInBounds_toArray, List.set_cons_zero, List.set_cons_succ]
          refine wpAnyH_take (i := 13) (oi := { dst := some 80, op := Go.Op.load 29 (Go.Operand.tmp 79), type := 29, pos := "law.go:91", after := #[{ on := 12, ground := Go.Ground.data }, { on := 8, ground := Go.Ground.guard }], guard := some (8, true) }) (v := ?_) rfl (by kernel_rfl) (by kernel_rfl) (by kernel_rfl) (fun _ _ _ h => h) (Or.inl ⟨by rfl, ?_⟩) (by assumption) ?_
          rotate_left
          · intro w hSw
            (try dsimp only at hSw)
            go_simp
            try (with_reducible rfl)
          try simp only [Act.put, List.setIfInBounds_toArray, List.set_cons_zero, List.set_cons_succ]
          refine wpAnyH_take (i := 14) (oi := { dst := some 81, op := Go.Op.binOp Go.BinOp.neq 29 (Go.Operand.tmp 76) (Go.Operand.tmp 80) 29, type := 4, pos := "law.go:91", after := #[{ on := 9, ground := Go.Ground.data }, { on := 13, ground := Go.Ground.data }, { on := 8, ground := Go.Ground.guard }], guard := some (8, true) }) (v := ?_) rfl (by kernel_rfl) (by kernel_rfl) (by kernel_rfl) (fun _ _ _ h => h) (Or.inl ⟨by rfl, ?_⟩) (by assumption) ?_
          rotate_left
          · intro w hSw
            (try dsimp only at hSw)
            go_simp
            try (with_reducible rfl)
          try simp only [Act.put, List.setIfInBounds_toArray, List.set_cons_zero, List.set_cons_succ]
          refine wpAnyH_take (i := 15) (oi := { dst := some 82, op := Go.Op.pick (Go.Operand.tmp 75) (Go.Operand.tmp 81) (Go.Operand.const (Go.Value.bool false)), type := 4, pos := "law.go:91", after := #[{ on := 8, ground := Go.Ground.data }, { on := 14, ground := Go.Ground.data }, { on := 6, ground := Go.Ground.guard }], guard := some (6, false) }) (v := ?_) rfl (by kernel_rfl) (by kernel_rfl) (by kernel_rfl) (fun _ _ _ h => h) (Or.inl ⟨by rfl, ?_⟩) (by assumption) ?_
          rotate_left
          · intro w hSw
            (try dsimp only at hSw)
            go_simp
            try (with_reducible rfl)
          try simp only [Act.put, List.setIfInBounds_toArray, List.set_cons_zero, List.set_cons_succ]
          refine wpAnyH_take (i := 16) (oi := { dst := some 83, op := Go.Op.pick (Go.Operand.tmp 73) (Go.Operand.const (Go.Value.bool true)) (Go.Operand.tmp 82), type := 4, pos := "law.go:91", after := #[{ on := 6, ground := Go.Ground.data }, { on := 15, ground := Go.Ground.data }], guard := none }) (v := ?_) rfl (by kernel_rfl) (by kernel_rfl) (by kernel_rfl) (fun _ _ _ h => h) (Or.inl ⟨by rfl, ?_⟩) (by assumption) ?_
          rotate_left
          · intro w hSw
            (try dsimp only at hSw)
            go_simp
            try (with_reducible rfl)
          try simp only [Act.put, List.setIfInBounds_toArray, List.set_cons_zero, List.set_cons_succ]
          refine wpAnyH_take (i := 17) (oi := { dst := some 84, op := Go.Op.move (Go.Operand.tmp 83), type := 4, pos := "law.go:91", after := #[{ on := 16, ground := Go.Ground.data }, { on := 8, ground := Go.Ground.chain }], guard := none }) (v := ?_) rfl (by kernel_rfl) (by kernel_rfl) (by kernel_rfl) (fun _ _ _ h => h) (Or.inl ⟨by rfl, ?_⟩) (by assumption) ?_
          rotate_left
          · intro w hSw
            (try dsimp only at hSw)
            go_simp
            try (with_reducible rfl)
          try simp only [Act.put, List.setIfInBounds_toArray, List.set_cons_zero, List.set_cons_succ]
          refine wpAnyH_take (i := 18) (oi := { dst := some 85, op := Go.Op.move (Go.Operand.tmp 14), type := 4, pos := "law.go:91", after := #[{ on := 17, ground := Go.Ground.guard }], guard := some (17, false) }) (v := ?_) rfl (by kernel_rfl) (by kernel_rfl) (by kernel_rfl) (fun _ _ _ h => h) (Or.inl ⟨by rfl, ?_⟩) (by assumption) ?_
          rotate_left
          · intro w hSw
            (try dsimp only at hSw)
            go_simp
            try (with_reducible rfl)
          try simp only [Act.put, List.setIfInBounds_toArray, List.set_cons_zero, List.set_cons_succ]
          refine wpAnyH_take (i := 19) (oi := { dst := some 86, op := Go.Op.unOp Go.UnOp.not 4 (Go.Operand.tmp 85), type := 4, pos := "law.go:91", after := #[{ on := 18, ground := Go.Ground.data }, { on := 17, ground := Go.Ground.guard }], guard := some (17, false) }) (v := ?_) rfl (by kernel_rfl) (by kernel_rfl) (by kernel_rfl) (fun _ _ _ h => h) (Or.inl ⟨by rfl, ?_⟩) (by assumption) ?_
          rotate_left
          · intro w hSw
            (try dsimp only at hSw)
            go_simp
            try (with_reducible rfl)
          try simp only [Act.put, List.setIfInBounds_toArray, List.set_cons_zero, List.set_cons_succ]
          refine wpAnyH_take (i := 20) (oi := { dst := some 87, op := Go.Op.move (Go.Operand.tmp 86), type := 4, pos := "law.go:91", after := #[{ on := 19, ground := Go.Ground.data }, { on := 17, ground := Go.Ground.chain }, { on := 17, ground := Go.Ground.guard }], guard := some (17, false) }) (v := ?_) rfl (by kernel_rfl) (by kernel_rfl) (by kernel_rfl) (fun _ _ _ h => h) (Or.inl ⟨by rfl, ?_⟩) (by assumption) ?_
          rotate_left
          · intro w hSw
            (try dsimp only at hSw)
            go_simp
            try (with_reducible rfl)
          try simp only [Act.put, List.setIfInBounds_toArray, List.set_cons_zero, List.set_cons_succ]
          refine wpAnyH_take (i := 21) (oi := { dst := some 88, op := Go.Op.load 29 (Go.Operand.tmp 13), type := 29, pos := "law.go:91", after := #[{ on := 20, ground := Go.Ground.guard }], guard := some (20, true) }) (v := undef) rfl (by kernel_rfl) (by kernel_rfl) (by kernel_rfl) (fun _ _ _ h => h) (Or.inr ⟨by rfl, rfl⟩) (by assumption) ?_
          try simp only [Act.put, List.setIfInBounds_toArray, List.set_cons_zero, List.set_cons_succ]
          refine wpAnyH_take (i := 22) (oi := { dst := some 89, op := Go.Op.build 29 #[], type := 29, pos := "law.go:91", after := #[{ on := 20, ground := Go.Ground.guard }], guard := some (20, true) }) (v := undef) rfl (by kernel_rfl) (by kernel_rfl) (by kernel_rfl) (fun _ _ _ h => h) (Or.inr ⟨by rfl, rfl⟩) (by assumption) ?_
          try simp only [Act.put, List.setIfInBounds_toArray, List.set_cons_zero, List.set_cons_succ]
          refine wpAnyH_take (i := 23) (oi := { dst := some 90, op := Go.Op.binOp Go.BinOp.neq 29 (Go.Operand.tmp 88) (Go.Operand.tmp 89) 29, type := 4, pos := "law.go:91", after := #[{ on := 21, ground := Go.Ground.data }, { on := 22, ground := Go.Ground.data }, { on := 20, ground := Go.Ground.guard }], guard := some (20, true) }) (v := undef) rfl (by kernel_rfl) (by kernel_rfl) (by kernel_rfl) (fun _ _ _ h => h) (Or.inr ⟨by rfl, rfl⟩) (by assumption) ?_
          try simp only [Act.put, List.setIfInBounds_toArray, List.set_cons_zero, List.set_cons_succ]
          refine wpAnyH_take (i := 24) (oi := { dst := some 91, op := Go.Op.pick (Go.Operand.tmp 87) (Go.Operand.tmp 90) (Go.Operand.const (Go.Value.bool false)), type := 4, pos := "law.go:91", after := #[{ on := 20, ground := Go.Ground.data }, { on := 23, ground := Go.Ground.data }, { on := 17, ground := Go.Ground.guard }], guard := some (17, false) }) (v := ?_) rfl (by kernel_rfl) (by kernel_rfl) (by kernel_rfl) (fun _ _ _ h => h) (Or.inl ⟨by rfl, ?_⟩) (by assumption) ?_
          rotate_left
          · intro w hSw
            (try dsimp only at hSw)
            go_simp
            try (with_reducible rfl)
          try simp only [Act.put, List.setIfInBounds_toArray, List.set_cons_zero, List.set_cons_succ]
          refine wpAnyH_take (i := 25) (oi := { dst := some 92, op := Go.Op.pick (Go.Operand.tmp 84) (Go.Operand.const (Go.Value.bool true)) (Go.Operand.tmp 91), type := 4, pos := "law.go:91", after := #[{ on := 17, ground := Go.Ground.data }, { on := 24, ground := Go.Ground.data }], guard := none }) (v := ?_) rfl (by kernel_rfl) (by kernel_rfl) (by kernel_rfl) (fun _ _ _ h => h) (Or.inl ⟨by rfl, ?_⟩) (by assumption) ?_
          rotate_left
          · intro w hSw
            (try dsimp only at hSw)
            go_simp
            try (with_reducible rfl)
          try simp only [Act.put, List.setIfInBounds_toArray, List.set_cons_zero, List.set_cons_succ]
          refine wpAnyH_done (by kernel_rfl) ?_ _
          have HR5 : Hid (RgP W4.drew r b N (elP all) (out + 1)) := Lib.hid ((HR4.out.below HBy.out).below (Below.refl _ W4).drew)
          have HO5 : Hid (W4.drew.ownsRow x3.heap.size 29 3 (.slice (some ⟨gg, 0, none⟩) L c) L (cls all)) := HO4'
          have HB5 : Hid (Below w.heap.size w W4.drew ∧ x3.heap.size ≤ W4.drew.heap.size) := Lib.hid ⟨(HB4.out.1.trans (HBy.out.mono HB4.out.1.size)).drew, Nat.le_trans HB4.out.2 HBy.out.size⟩
          have HA5 : Hid (all.length = L ∧ L ≤ j + 1) := Lib.hid ⟨hA.out.1, by have := hA.out.2; omega⟩
          obtain ⟨n5, hn5⟩ : ∃ n5, n = n5 + 1 := ⟨n - 1, by omega⟩
          have HN5 : Hid (L = (out + 1) + n5) := Lib.hid (by have := HNn.out; omega)
          have hn5N : n5 ≤ N := by omega
          clear hn5
          clear g0 g1 g2 k0 k1 k2 hd hdn hlI
          obtain ⟨w5, hw5⟩ : ∃ w5, W4.drew = w5 := ⟨_, rfl⟩
          rw [hw5] at HR5 HO5 HB5
          have HW5 := Lib.hid hw5
          clear hw5
          obtain ⟨M, hM⟩ : ∃ M : Int, (N : Int) - (n5 : Int) = M := ⟨_, rfl⟩
          have HE5 : Hid ((elP all).length = (out + 1) + n5) := Lib.hid (by rw [elP_len, HA5.out.1]; exact HN5.out)
          have HLm : Hid ((elP all).length ≤ 900000) := Lib.hid (by have := HA5.out; rw [elP_len]; omega)
          have v1 : IntKind.i64.wrap ((n5 : Int) + M) = (N : Int) := by have := HNN.out; rw [IntKind.wrap_i64]; omega
          have v2 : IntKind.i64.wrap ((L : Int) - ((out : Int) + 1)) = (n5 : Int) := by have := HN5.out; have := HNN.out; rw [IntKind.wrap_i64]; omega
          have p1 : ((N : Int) != (N : Int)) = false := by simp
          have p2 : ((n5 : Int) != (n5 : Int)) = false := by simp
          have HL1 := Lib.hid (ret_as (v' := .int .i64 (n5 : Int)) (lenP_any r b N (elP all) (out + 1) HLm.out w5 HR5.out) (by rw [len_of HE5.out]))
          have HRd : Hid (RgP w5 r b N (elP all) (out + 1)) := HR5
          have HRm := Lib.hid (ret_as (v' := .int .i64 M) (roomP_any r b N (elP all) (out + 1) HLm.out w5 HRd.out) (by rw [len_of HE5.out, hM]))
          clear hM
          go_wp2_with fail
          rw [HW5.out]
          refine Calls.mono HL1.out ?_
          rintro e w' ⟨rfl, rfl⟩
          go_wp2_with fail
          refine Calls.mono HRm.out ?_
          rintro e w6 ⟨rfl, hT6⟩
          have HR6 := Lib.hid (HRd.out.tch hT6 (by simp) (by simp))
          have HO6 := Lib.hid (hT6.own (w := w5) (show w5.ownsRow _ _ _ _ _ _ from HO5.out) (by simp))
          have HB6 : Hid (Below w.heap.size w w6 ∧ x3.heap.size ≤ w6.heap.size) := Lib.hid (by
            have h1 := HB5.out.1
            have hs : w5.heap.size = w5.heap.size := rfl
            exact ⟨h1.trans (hT6.below h1.size (by simp)), Nat.le_trans HB5.out.2 hT6.size⟩)
          have HL2 := Lib.hid (ret_as (v' := .int .i64 (n5 : Int)) (lenP_any r b N (elP all) (out + 1) HLm.out w6 HR6.out) (by rw [len_of HE5.out]))
          clear hT6 HL1 HRm
          go_wp2_with fail
          refine Calls.mono HL2.out ?_
          rintro e w' ⟨rfl, rfl⟩
          go_wp2
          go_roundw
          case rel => exact ⟨j + 1, all, (out + 1), (some ⟨gg, 0, none⟩), c, L, rfl, by go_num, by go_num, h1, h2, HA5, HO6, HR6, HB6⟩
          case measure => simp [intOf]; omega
    · have hfin : Hid (L ≤ 300) := Lib.hid (by have := hA.out.2; omega)
      rcases (show ¬ j < l1 ∨ (j < l1 ∧ ¬ j < 300) by omega) with h1 | ⟨h1, h2⟩
      · have hjI : ¬ (j : Int) < l1 := by omega
        clear hlt h1
        go_wp2
        have HLn : Hid ((elP all).length ≤ 900000) := Lib.hid (by have := hA.out; have := hfin.out; rw [elP_len]; omega)
        have HEl : Hid ((elP all).length = L) := Lib.hid (by rw [elP_len]; exact hA.out.1)
        have hle := hR.out.le.1
        rw [HEl.out] at hle
        have hL300 := hfin.out
        clear hj hj2 hjI hfin
        obtain ⟨wo, hwo⟩ : ∃ x, x = wr := ⟨_, rfl⟩
        subst hwo
        go_loopw [9] (fun ov wr => ∃ o : Nat, ov = .int .i64 (o : Int) ∧ o ≤ L ∧ Hid (wr.ownsRow x3.heap.size 29 3 (.slice A L c) L (cls all)) ∧ Hid (RgP wr r b N (elP all) o) ∧ Hid (Below w.heap.size w wr ∧ x3.heap.size ≤ wr.heap.size)) (fun ov _ => L - (intOf ov).toNat)
        case atStart => exact ⟨out, rfl, hle, hO, hR, hB⟩
        case round =>
          obtain ⟨o, rfl, hoL, hO, hR, hB⟩ := hrel
          by_cases hol : o < L
          · obtain ⟨x, hx⟩ : ∃ x, all[o]? = some x := ⟨_, List.getElem?_eq_getElem (by have := hA.out.1; omega)⟩
            obtain ⟨p1, p2, p3⟩ := x
            have HP := Lib.hid (popP_ok r b N (elP all) o p1 p2 p3 (elP_at hx) HLn.out wr hR.out)
            have HAx := Lib.hid hx
            have hlI : (o : Int) < (L : Int) := by omega
            have hl0 : (0 : Int) ≤ (o : Int) := by omega
            have j5 : IntKind.i64.wrap ((o : Int) + 1) = (o : Int) + 1 := by rw [IntKind.wrap_i64]; omega
            clear hx
            go_wp2_with fail
            refine Calls.mono HP.out ?_
            rintro e w4 ⟨rfl, hR4, hT4⟩
            have HR4 := Lib.hid hR4
            have HO4 := Lib.hid (hT4.own hO.out (fun g hg => nin2 (by have := own_basek hO.out g hg; have := HRl.out; omega) (by have := own_basek hO.out g hg; have := HRl.out; omega)))
            have HB4 : Hid (Below w.heap.size w w4 ∧ x3.heap.size ≤ w4.heap.size) := Lib.hid ⟨hB.out.1.trans (hT4.below hB.out.1.size (by simp; exact ⟨B3.out.2.1, B3.out.2.2⟩)), Nat.le_trans hB.out.2 hT4.size⟩
            clear hR4 hT4 HP
            obtain ⟨yb, hyb⟩ : ∃ yb, w4.heap.size = yb := ⟨_, rfl⟩
            obtain ⟨W4, hW4⟩ : ∃ W4, w4.alloc (.cells #[.int .i64 p1, .int .i64 p2, .string p3] 29) = W4 := ⟨_, rfl⟩
            have HY : Hid (Blk W4 yb 29 #[.int .i64 p1, .int .i64 p2, .string p3]) := Lib.hid (hW4 ▸ hyb ▸ Blk.new _ _ _)
            have HBy : Hid (Below w4.heap.size w4 W4) := Lib.hid (hW4 ▸ (Below.refl _ _).alloc (Nat.le_refl _) _)
            have HW4 := Lib.hid (And.intro hW4 hyb)
            have HO4' : Hid (W4.ownsRow x3.heap.size 29 3 (.slice A L c) L (cls all)) := Lib.hid ((Tch.of_below [] HBy.out).own HO4.out (by simp))
            obtain ⟨gg, rfl, -, -, k0, k1, k2, -⟩ := own_step HO4'.out HAx.out
            simp only at k0 k1 k2
            have g0 := (HY.out.cell 0).trans (show _ = some (Value.int .i64 p1) by rfl)
            have g1 := (HY.out.cell 1).trans (show _ = some (Value.int .i64 p2) by rfl)
            have g2 := (HY.out.cell 2).trans (show _ = some (Value.string p3) by rfl)
            have HG := Lib.hid (And.intro g0 (And.intro g1 (And.intro g2 (And.intro k0 (And.intro k1 k2)))))
            clear hyb hW4
            go_wp2
            rw [HW4.out.1, HW4.out.2]
            refine wp_region_held_drew (S := (fun W => W.cell? ⟨yb, 0, none⟩ = some (.int .i64 p1) ∧ W.cell? ⟨yb, 1, none⟩ = some (.int .i64 p2) ∧ W.cell? ⟨yb, 2, none⟩ = some (.string p3) ∧ W.cell? ⟨gg, o * 3, none⟩ = some (.int .i64 p1) ∧ W.cell? ⟨gg, o * 3 + 1, none⟩ = some (.int .i64 p2) ∧ W.cell? ⟨gg, o * 3 + 2, none⟩ = some (.string p3))) (by kernel_rfl) ?_ (fun hHeld => ?_)
            · (exact HG.out)
            refine wpAnyH_take (i := 0) (oi := { dst := some 121, op := Go.Op.move (Go.Operand.tmp 16), type := 4, pos := "law.go:104", after := #[], guard := none }) (v := ?_) rfl (by kernel_rfl) (by kernel_rfl) (by kernel_rfl) (fun _ _ _ h => h) (Or.inl ⟨by rfl, ?_⟩) (by assumption) ?_
            rotate_left
            · intro w hSw
              (try dsimp only at hSw)
              go_simp
              try (with_reducible rfl)
            try simp only [Act.put, List.setIfInBounds_toArray, List.set_cons_zero, List.set_cons_succ]
            refine wpAnyH_take (i := 1) (oi := { dst := some 122, op := Go.Op.unOp Go.UnOp.not 4 (Go.Operand.tmp 121), type := 4, pos := "law.go:104", after := #[{ on := 0, ground := Go.Ground.data }], guard := none }) (v := ?_) rfl (by kernel_rfl) (by kernel_rfl) (by kernel_rfl) (fun _ _ _ h => h) (Or.inl ⟨by rfl, ?_⟩) (by assumption) ?_
            rotate_left
            · intro w hSw
              (try dsimp only at hSw)
              go_simp
              try (with_reducible rfl)
            try simp only [Act.put, List.setIfInBounds_toArray, List.set_cons_zero, List.set_cons_succ]
            refine wpAnyH_take (i := 2) (oi := { dst := some 123, op := Go.Op.move (Go.Operand.tmp 122), type := 4, pos := "law.go:104", after := #[{ on := 1, ground := Go.Ground.data }], guard := none }) (v := ?_) rfl (by kernel_rfl) (by kernel_rfl) (by kernel_rfl) (fun _ _ _ h => h) (Or.inl ⟨by rfl, ?_⟩) (by assumption) ?_
            rotate_left
            · intro w hSw
              (try dsimp only at hSw)
              go_simp
              try (with_reducible rfl)
            try simp only [Act.put, List.setIfInBounds_toArray, List.set_cons_zero, List.set_cons_succ]
            refine wpAnyH_take (i := 3) (oi := { dst := some 124, op := Go.Op.load 29 (Go.Operand.tmp 15), type := 29, pos := "law.go:104", after := #[{ on := 2, ground := Go.Ground.guard }], guard := some (2, false) }) (v := ?_) rfl (by kernel_rfl) (by kernel_rfl) (by kernel_rfl) (fun _ _ _ h => h) (Or.inl ⟨by rfl, ?_⟩) (by assumption) ?_
            rotate_left
            · intro w hSw
              (try dsimp only at hSw)
              go_simp
              try (with_reducible rfl)
            try simp only [Act.put, List.setIfInBounds_toArray, List.set_cons_zero, List.set_cons_succ]
            refine wpAnyH_take (i := 4) (oi := { dst := some 125, op := Go.Op.move (Go.Operand.tmp 8), type := 22, pos := "law.go:104", after := #[{ on := 2, ground := Go.Ground.guard }], guard := some (2, false) }) (v := ?_) rfl (by kernel_rfl) (by kernel_rfl) (by kernel_rfl) (fun _ _ _ h => h) (Or.inl ⟨by rfl, ?_⟩) (by assumption) ?_
            rotate_left
            · intro w hSw
              (try dsimp only at hSw)
              go_simp
              try (with_reducible rfl)
            try simp only [Act.put, List.setIfInBounds_toArray, List.set_cons_zero, List.set_cons_succ]
            refine wpAnyH_take (i := 5) (oi := { dst := some 126, op := Go.Op.move (Go.Operand.tmp 9), type := 3, pos := "law.go:104", after := #[{ on := 2, ground := Go.Ground.guard }], guard := some (2, false) }) (v := ?_) rfl (by kernel_rfl) (by kernel_rfl) (by kernel_rfl) (fun _ _ _ h => h) (Or.inl ⟨by rfl, ?_⟩) (by assumption) ?_
            rotate_left
            · intro w hSw
              (try dsimp only at hSw)
              go_simp
              try (with_reducible rfl)
            try simp only [Act.put, List.setIfInBounds_toArray, List.set_cons_zero, List.set_cons_succ]
            refine wpAnyH_take (i := 6) (oi := { dst := some 127, op := Go.Op.indexAddr 22 (Go.Operand.tmp 125) (Go.Operand.tmp 126), type := 0, pos := "law.go:104", after := #[{ on := 4, ground := Go.Ground.data }, { on := 5, ground := Go.Ground.data }, { on := 2, ground := Go.Ground.guard }], guard := some (2, false) }) (v := ?_) rfl (by kernel_rfl) (by kernel_rfl) (by kernel_rfl) (fun _ _ _ h => h) (Or.inl ⟨by rfl, ?_⟩) (by assumption) ?_
            rotate_left
            · intro w hSw
              (try dsimp only at hSw)
              go_simp
              try (with_reducible rfl)
            try simp only [Act.put, List.setIfInBounds_toArray, List.set_cons_zero, List.set_cons_succ]
            refine wpAnyH_take (i := 7) (oi := { dst := some 128, op := Go.Op.load 29 (Go.Operand.tmp 127), type := 29, pos := "law.go:104", after := #[{ on := 6, ground := Go.Ground.data }, { on := 2, ground := Go.Ground.guard }], guard := some (2, false) }) (v := ?_) rfl (by kernel_rfl) (by kernel_rfl) (by kernel_rfl) (fun _ _ _ h => h) (Or.inl ⟨by rfl, ?_⟩) (by assumption) ?_
            rotate_left
            · intro w hSw
              (try dsimp only at hSw)
              go_simp
              try (with_reducible rfl)
            try simp only [Act.put, List.setIfInBounds_toArray, List.set_cons_zero, List.set_cons_succ]
            refine wpAnyH_take (i := 8) (oi := { dst := some 129, op := Go.Op.binOp Go.BinOp.neq 29 (Go.Operand.tmp 124) (Go.Operand.tmp 128) 29, type := 4, pos := "law.go:104", after := #[{ on := 3, ground := Go.Ground.data }, { on := 7, ground := Go.Ground.data }, { on := 2, ground := Go.Ground.guard }], guard := some (2, false) }) (v := ?_) rfl (by kernel_rfl) (by kernel_rfl) (by kernel_rfl) (fun _ _ _ h => h) (Or.inl ⟨by rfl, ?_⟩) (by assumption) ?_
            rotate_left
            · intro w hSw
              (try dsimp only at hSw)
              go_simp
              try (with_reducible rfl)
            try simp only [Act.put, List.setIfInBounds_toArray, List.set_cons_zero, List.set_cons_succ]
            refine wpAnyH_take (i := 9) (oi := { dst := some 130, op := Go.Op.pick (Go.Operand.tmp 123) (Go.Operand.const (Go.Value.bool true)) (Go.Operand.tmp 129), type := 4, pos := "law.go:104", after := #[{ on := 2, ground := Go.Ground.data }, { on := 8, ground := Go.Ground.data }], guard := none }) (v := ?_) rfl (by kernel_rfl) (by kernel_rfl) (by kernel_rfl) (fun _ _ _ h => h) (Or.inl ⟨by rfl, ?_⟩) (by assumption) ?_
            rotate_left
            · intro w hSw
              (try dsimp only at hSw)
              go_simp
              try (with_reducible rfl)
            try simp only [Act.put, List.setIfInBounds_toArray, List.set_cons_zero, List.set_cons_succ]
            refine wpAnyH_done (by kernel_rfl) ?_ _
            go_wp2
            go_roundw
            case rel => exact ⟨o + 1, by go_num, hol, HO4', Lib.hid ((HR4.out.below HBy.out).below (Below.refl _ W4).drew), Lib.hid ⟨(HB4.out.1.trans (HBy.out.mono HB4.out.1.size)).drew, Nat.le_trans HB4.out.2 HBy.out.size⟩⟩
            case measure => simp [intOf]; omega
          · obtain rfl : o = L := by omega
            have hlI : ¬ (o : Int) < (o : Int) := by omega
            have HP := Lib.hid (popP_none r b N (elP all) o HEl.out.symm HLn.out wr hR.out)
            clear hol
            go_wp2_with fail
            refine Calls.mono HP.out ?_
            rintro e w4 ⟨rfl, hR4, hT4⟩
            have HR4 := Lib.hid hR4
            have HB4 : Hid (Below w.heap.size w w4) := Lib.hid (hB.out.1.trans (hT4.below hB.out.1.size (by simp; exact ⟨B3.out.2.1, B3.out.2.2⟩)))
            obtain ⟨W4, hW4⟩ : ∃ W4, w4.alloc (.cells #[.int .i64 0, .int .i64 0, .string ⟨#[]⟩] 29) = W4 := ⟨_, rfl⟩
            have HBy : Hid (Below w4.heap.size w4 W4) := Lib.hid (hW4 ▸ (Below.refl _ _).alloc (Nat.le_refl _) _)
            have HW4 := Lib.hid hW4
            have HL := Lib.hid (ret_as (v' := .int .i64 0) (lenP_any r b N (elP all) o HLn.out W4 (HR4.out.below HBy.out)) (by rw [HEl.out]; simp))
            have q6 : ((0 : Int) == 0) = true := by simp
            clear hR4 hT4 HP hW4
            go_wp2_with fail
            rw [HW4.out]
            refine Calls.mono HL.out ?_
            rintro e w6 ⟨rfl, rfl⟩
            go_wp2
            go_ret
            exact ⟨rfl, HB4.out.trans (HBy.out.mono HB4.out.size)⟩
      · have hjI : (j : Int) < l1 := by omega
        have hjI2 : ¬ (j : Int) < 300 := by omega
        clear hlt h1 h2
        go_wp2
        have HLn : Hid ((elP all).length ≤ 900000) := Lib.hid (by have := hA.out; have := hfin.out; rw [elP_len]; omega)
        have HEl : Hid ((elP all).length = L) := Lib.hid (by rw [elP_len]; exact hA.out.1)
        have hle := hR.out.le.1
        rw [HEl.out] at hle
        have hL300 := hfin.out
        clear hj hj2 hjI hfin
        obtain ⟨wo, hwo⟩ : ∃ x, x = wr := ⟨_, rfl⟩
        subst hwo
        go_loopw [9] (fun ov wr => ∃ o : Nat, ov = .int .i64 (o : Int) ∧ o ≤ L ∧ Hid (wr.ownsRow x3.heap.size 29 3 (.slice A L c) L (cls all)) ∧ Hid (RgP wr r b N (elP all) o) ∧ Hid (Below w.heap.size w wr ∧ x3.heap.size ≤ wr.heap.size)) (fun ov _ => L - (intOf ov).toNat)
        case atStart => exact ⟨out, rfl, hle, hO, hR, hB⟩
        case round =>
          obtain ⟨o, rfl, hoL, hO, hR, hB⟩ := hrel
          by_cases hol : o < L
          · obtain ⟨x, hx⟩ : ∃ x, all[o]? = some x := ⟨_, List.getElem?_eq_getElem (by have := hA.out.1; omega)⟩
            obtain ⟨p1, p2, p3⟩ := x
            have HP := Lib.hid (popP_ok r b N (elP all) o p1 p2 p3 (elP_at hx) HLn.out wr hR.out)
            have HAx := Lib.hid hx
            have hlI : (o : Int) < (L : Int) := by omega
            have hl0 : (0 : Int) ≤ (o : Int) := by omega
            have j5 : IntKind.i64.wrap ((o : Int) + 1) = (o : Int) + 1 := by rw [IntKind.wrap_i64]; omega
            clear hx
            go_wp2_with fail
            refine Calls.mono HP.out ?_
            rintro e w4 ⟨rfl, hR4, hT4⟩
            have HR4 := Lib.hid hR4
            have HO4 := Lib.hid (hT4.own hO.out (fun g hg => nin2 (by have := own_basek hO.out g hg; have := HRl.out; omega) (by have := own_basek hO.out g hg; have := HRl.out; omega)))
            have HB4 : Hid (Below w.heap.size w w4 ∧ x3.heap.size ≤ w4.heap.size) := Lib.hid ⟨hB.out.1.trans (hT4.below hB.out.1.size (by simp; exact ⟨B3.out.2.1, B3.out.2.2⟩)), Nat.le_trans hB.out.2 hT4.size⟩
            clear hR4 hT4 HP
            obtain ⟨yb, hyb⟩ : ∃ yb, w4.heap.size = yb := ⟨_, rfl⟩
            obtain ⟨W4, hW4⟩ : ∃ W4, w4.alloc (.cells #[.int .i64 p1, .int .i64 p2, .string p3] 29) = W4 := ⟨_, rfl⟩
            have HY : Hid (Blk W4 yb 29 #[.int .i64 p1, .int .i64 p2, .string p3]) := Lib.hid (hW4 ▸ hyb ▸ Blk.new _ _ _)
            have HBy : Hid (Below w4.heap.size w4 W4) := Lib.hid (hW4 ▸ (Below.refl _ _).alloc (Nat.le_refl _) _)
            have HW4 := Lib.hid (And.intro hW4 hyb)
            have HO4' : Hid (W4.ownsRow x3.heap.size 29 3 (.slice A L c) L (cls all)) := Lib.hid ((Tch.of_below [] HBy.out).own HO4.out (by simp))
            obtain ⟨gg, rfl, -, -, k0, k1, k2, -⟩ := own_step HO4'.out HAx.out
            simp only at k0 k1 k2
            have g0 := (HY.out.cell 0).trans (show _ = some (Value.int .i64 p1) by rfl)
            have g1 := (HY.out.cell 1).trans (show _ = some (Value.int .i64 p2) by rfl)
            have g2 := (HY.out.cell 2).trans (show _ = some (Value.string p3) by rfl)
            have HG := Lib.hid (And.intro g0 (And.intro g1 (And.intro g2 (And.intro k0 (And.intro k1 k2)))))
            clear hyb hW4
            go_wp2
            rw [HW4.out.1, HW4.out.2]
            refine wp_region_held_drew (S := (fun W => W.cell? ⟨yb, 0, none⟩ = some (.int .i64 p1) ∧ W.cell? ⟨yb, 1, none⟩ = some (.int .i64 p2) ∧ W.cell? ⟨yb, 2, none⟩ = some (.string p3) ∧ W.cell? ⟨gg, o * 3, none⟩ = some (.int .i64 p1) ∧ W.cell? ⟨gg, o * 3 + 1, none⟩ = some (.int .i64 p2) ∧ W.cell? ⟨gg, o * 3 + 2, none⟩ = some (.string p3))) (by kernel_rfl) ?_ (fun hHeld => ?_)
            · (exact HG.out)
            refine wpAnyH_take (i := 0) (oi := { dst := some 121, op := Go.Op.move (Go.Operand.tmp 16), type := 4, pos := "law.go:104", after := #[], guard := none }) (v := ?_) rfl (by kernel_rfl) (by kernel_rfl) (by kernel_rfl) (fun _ _ _ h => h) (Or.inl ⟨by rfl, ?_⟩) (by assumption) ?_
            rotate_left
            · intro w hSw
              (try dsimp only at hSw)
              go_simp
              try (with_reducible rfl)
            try simp only [Act.put, List.setIfInBounds_toArray, List.set_cons_zero, List.set_cons_succ]
            refine wpAnyH_take (i := 1) (oi := { dst := some 122, op := Go.Op.unOp Go.UnOp.not 4 (Go.Operand.tmp 121), type := 4, pos := "law.go:104", after := #[{ on := 0, ground := Go.Ground.data }], guard := none }) (v := ?_) rfl (by kernel_rfl) (by kernel_rfl) (by kernel_rfl) (fun _ _ _ h => h) (Or.inl ⟨by rfl, ?_⟩) (by assumption) ?_
            rotate_left
            · intro w hSw
              (try dsimp only at hSw)
              go_simp
              try (with_reducible rfl)
            try simp only [Act.put, List.setIfInBounds_toArray, List.set_cons_zero, List.set_cons_succ]
            refine wpAnyH_take (i := 2) (oi := { dst := some 123, op := Go.Op.move (Go.Operand.tmp 122), type := 4, pos := "law.go:104", after := #[{ on := 1, ground := Go.Ground.data }], guard := none }) (v := ?_) rfl (by kernel_rfl) (by kernel_rfl) (by kernel_rfl) (fun _ _ _ h => h) (Or.inl ⟨by rfl, ?_⟩) (by assumption) ?_
            rotate_left
            · intro w hSw
              (try dsimp only at hSw)
              go_simp
              try (with_reducible rfl)
            try simp only [Act.put, List.setIfInBounds_toArray, List.set_cons_zero, List.set_cons_succ]
            refine wpAnyH_take (i := 3) (oi := { dst := some 124, op := Go.Op.load 29 (Go.Operand.tmp 15), type := 29, pos := "law.go:104", after := #[{ on := 2, ground := Go.Ground.guard }], guard := some (2, false) }) (v := ?_) rfl (by kernel_rfl) (by kernel_rfl) (by kernel_rfl) (fun _ _ _ h => h) (Or.inl ⟨by rfl, ?_⟩) (by assumption) ?_
            rotate_left
            · intro w hSw
              (try dsimp only at hSw)
              go_simp
              try (with_reducible rfl)
            try simp only [Act.put, List.setIfInBounds_toArray, List.set_cons_zero, List.set_cons_succ]
            refine wpAnyH_take (i := 4) (oi := { dst := some 125, op := Go.Op.move (Go.Operand.tmp 8), type := 22, pos := "law.go:104", after := #[{ on := 2, ground := Go.Ground.guard }], guard := some (2, false) }) (v := ?_) rfl (by kernel_rfl) (by kernel_rfl) (by kernel_rfl) (fun _ _ _ h => h) (Or.inl ⟨by rfl, ?_⟩) (by assumption) ?_
            rotate_left
            · intro w hSw
              (try dsimp only at hSw)
              go_simp
              try (with_reducible rfl)
            try simp only [Act.put, List.setIfInBounds_toArray, List.set_cons_zero, List.set_cons_succ]
            refine wpAnyH_take (i := 5) (oi := { dst := some 126, op := Go.Op.move (Go.Operand.tmp 9), type := 3, pos := "law.go:104", after := #[{ on := 2, ground := Go.Ground.guard }], guard := some (2, false) }) (v := ?_) rfl (by kernel_rfl) (by kernel_rfl) (by kernel_rfl) (fun _ _ _ h => h) (Or.inl ⟨by rfl, ?_⟩) (by assumption) ?_
            rotate_left
            · intro w hSw
              (try dsimp only at hSw)
              go_simp
              try (with_reducible rfl)
            try simp only [Act.put, List.setIfInBounds_toArray, List.set_cons_zero, List.set_cons_succ]
            refine wpAnyH_take (i := 6) (oi := { dst := some 127, op := Go.Op.indexAddr 22 (Go.Operand.tmp 125) (Go.Operand.tmp 126), type := 0, pos := "law.go:104", after := #[{ on := 4, ground := Go.Ground.data }, { on := 5, ground := Go.Ground.data }, { on := 2, ground := Go.Ground.guard }], guard := some (2, false) }) (v := ?_) rfl (by kernel_rfl) (by kernel_rfl) (by kernel_rfl) (fun _ _ _ h => h) (Or.inl ⟨by rfl, ?_⟩) (by assumption) ?_
            rotate_left
            · intro w hSw
              (try dsimp only at hSw)
              go_simp
              try (with_reducible rfl)
            try simp only [Act.put, List.setIfInBounds_toArray, List.set_cons_zero, List.set_cons_succ]
            refine wpAnyH_take (i := 7) (oi := { dst := some 128, op := Go.Op.load 29 (Go.Operand.tmp 127), type := 29, pos := "law.go:104", after := #[{ on := 6, ground := Go.Ground.data }, { on := 2, ground := Go.Ground.guard }], guard := some (2, false) }) (v := ?_) rfl (by kernel_rfl) (by kernel_rfl) (by kernel_rfl) (fun _ _ _ h => h) (Or.inl ⟨by rfl, ?_⟩) (by assumption) ?_
            rotate_left
            · intro w hSw
              (try dsimp only at hSw)
              go_simp
              try (with_reducible rfl)
            try simp only [Act.put, List.setIfInBounds_toArray, List.set_cons_zero, List.set_cons_succ]
            refine wpAnyH_take (i := 8) (oi := { dst := some 129, op := Go.Op.binOp Go.BinOp.neq 29 (Go.Operand.tmp 124) (Go.Operand.tmp 128) 29, type := 4, pos := "law.go:104", after := #[{ on := 3, ground := Go.Ground.data }, { on := 7, ground := Go.Ground.data }, { on := 2, ground := Go.Ground.guard }], guard := some (2, false) }) (v := ?_) rfl (by kernel_rfl) (by kernel_rfl) (by kernel_rfl) (fun _ _ _ h => h) (Or.inl ⟨by rfl, ?_⟩) (by assumption) ?_
            rotate_left
            · intro w hSw
              (try dsimp only at hSw)
              go_simp
              try (with_reducible rfl)
            try simp only [Act.put, List.setIfInBounds_toArray, List.set_cons_zero, List.set_cons_succ]
            refine wpAnyH_take (i := 9) (oi := { dst := some 130, op := Go.Op.pick (Go.Operand.tmp 123) (Go.Operand.const (Go.Value.bool true)) (Go.Operand.tmp 129), type := 4, pos := "law.go:104", after := #[{ on := 2, ground := Go.Ground.data }, { on := 8, ground := Go.Ground.data }], guard := none }) (v := ?_) rfl (by kernel_rfl) (by kernel_rfl) (by kernel_rfl) (fun _ _ _ h => h) (Or.inl ⟨by rfl, ?_⟩) (by assumption) ?_
            rotate_left
            · intro w hSw
              (try dsimp only at hSw)
              go_simp
              try (with_reducible rfl)
            try simp only [Act.put, List.setIfInBounds_toArray, List.set_cons_zero, List.set_cons_succ]
            refine wpAnyH_done (by kernel_rfl) ?_ _
            go_wp2
            go_roundw
            case rel => exact ⟨o + 1, by go_num, hol, HO4', Lib.hid ((HR4.out.below HBy.out).below (Below.refl _ W4).drew), Lib.hid ⟨(HB4.out.1.trans (HBy.out.mono HB4.out.1.size)).drew, Nat.le_trans HB4.out.2 HBy.out.size⟩⟩
            case measure => simp [intOf]; omega
          · obtain rfl : o = L := by omega
            have hlI : ¬ (o : Int) < (o : Int) := by omega
            have HP := Lib.hid (popP_none r b N (elP all) o HEl.out.symm HLn.out wr hR.out)
            clear hol
            go_wp2_with fail
            refine Calls.mono HP.out ?_
            rintro e w4 ⟨rfl, hR4, hT4⟩
            have HR4 := Lib.hid hR4
            have HB4 : Hid (Below w.heap.size w w4) := Lib.hid (hB.out.1.trans (hT4.below hB.out.1.size (by simp; exact ⟨B3.out.2.1, B3.out.2.2⟩)))
            obtain ⟨W4, hW4⟩ : ∃ W4, w4.alloc (.cells #[.int .i64 0, .int .i64 0, .string ⟨#[]⟩] 29) = W4 := ⟨_, rfl⟩
            have HBy : Hid (Below w4.heap.size w4 W4) := Lib.hid (hW4 ▸ (Below.refl _ _).alloc (Nat.le_refl _) _)
            have HW4 := Lib.hid hW4
            have HL := Lib.hid (ret_as (v' := .int .i64 0) (lenP_any r b N (elP all) o HLn.out W4 (HR4.out.below HBy.out)) (by rw [HEl.out]; simp))
            have q6 : ((0 : Int) == 0) = true := by simp
            clear hR4 hT4 HP hW4
            go_wp2_with fail
            rw [HW4.out]
            refine Calls.mono HL.out ?_
            rintro e w6 ⟨rfl, rfl⟩
            go_wp2
            go_ret
            exact ⟨rfl, HB4.out.trans (HBy.out.mono HB4.out.size)⟩
set_option maxRecDepth 100000 in
theorem contract (H : Type) (enc : TypeId × Value → H) (W : World) (base : Nat) (args : Array Value) (ds gs : List (DataW H)) (before : List MemPlace)
    (hval0 : ∀ (j : Nat) t v, Try.f4.params[j]? = some t → args[j]? = some v → Value.okWide Try.prog W .any base t v)
    (hW : DataW.Whole enc Try.prog Try.f4.params.toList Rows.ringOrdersSpec.vars false W args.toList ds gs before)
    (hsz0 : (DataW.weightsEach Try.prog (Try.f4.params.toList ++ Rows.ringOrdersSpec.plain.varTypes Try.prog) (ds ++ gs)).all (· ≤ reachBytes) = true) :
    Calls Try.prog 4 args W fun e W' => ∃ v, e = .returned v ∧ Rows.ringOrdersSpec.post enc Try.prog Try.f4 false true false false W args v W' := by
  have hsz := hsz0
  clear hsz0
  have hval := hval0
  clear hval0
  have hW' := hW
  obtain ⟨p, q, hA0, hV, rfl, hfz, hnd⟩ := hW
  have hA : DataW.TrodAll enc Try.prog W 0 (fun _ => true) true Try.f4.params.toList args.toList ds p := hA0
  rw [Try.params4] at hA hval hsz
  obtain ⟨v0, vs0, d0, ds0, p0, q0, hargs, rfl, rfl, h0, r0⟩ := trodAll_cons hA
  obtain ⟨v1, vs1, d1, ds1, p1, q1, rfl, rfl, rfl, h1, r1⟩ := trodAll_cons r0
  obtain ⟨rfl, rfl, rfl⟩ := trodAll_nil r1
  obtain rfl : args = #[v0, v1] := by cases args; simp_all
  obtain ⟨rfl, rfl⟩ := trodVars_none hV
  obtain ⟨a0, rfl, rfl, rfl, w0⟩ := open_int Try.underlying3 (hval 0 3 v0 rfl rfl) h0
  obtain ⟨a1, l1, c1, rfl⟩ := okWide_slice Try.underlying22 (hval 1 22 v1 rfl rfl)
  have k1 := h1
  have lt1 : ∀ x ∈ p1, x.block < W.heap.size := by obtain ⟨m, hm⟩ := k1; exact DataW.trod_lt m _ _ _ hm
  obtain ⟨z1, w1⟩ := isStp_of h1
  clear hA0
  refine (walk W a0 w0 a1 l1 c1 z1 w1).mono fun e W' ⟨he, bel⟩ => ?_
  subst he
  exact ⟨_, rfl, _, _, _, [], _, [], hW', trodAll_mk1 (shut_bool Try.underlying4 _), (trodAll_cons_mk (shut_int Try.underlying3 w0) (trodAll_cons_mk (Below.trod laidOut (by kernel_rfl) (of_decide_eq_true (by kernel_rfl)) k1 bel lt1) trodAll_mk0)), rfl, bel.frame _, fun h => by cases h⟩

set_option maxRecDepth 100000 in
theorem lifted (os : Os) (started : os.Started) (H : Type) (enc : TypeId × Value → H) :
    ReturnsInHanded {} Try.checked os 4 .any (Rows.ringOrdersSpec.pre6 enc Try.prog Try.f4 Rows.ringOrdersRow.domain false) (Rows.ringOrdersSpec.post enc Try.prog Try.f4 false true false false) := by
  refine returnsInHanded_of_change_sized (C := Try.checked) own started (by kernel_rfl) Try.func4
    (ChangeSpec.witness6 (enc := enc) (C := Try.checked) false ⟨#[], #[.int .i64 0, .slice none 0 0], []⟩ 8 (by kernel_rfl) (by kernel_rfl) (by kernel_rfl) (by kernel_rfl)) ?_
  intro W base args ds gs before hval hW _ hsz _
  exact contract H enc W base args ds gs before hval hW hsz

theorem over : Rows.ringOrdersRow.holds Try.pinned (OpenSpec.ofChange Rows.ringOrdersSpec) :=
  OpenClaim.holds_of_wide 4 Try.f4 rfl rfl rfl rfl rfl rfl rfl ⟨rfl, rfl, rfl, rfl, rfl⟩ rfl rfl rfl rfl rfl (by kernel_rfl) Try.func4 (by kernel_rfl)
    (of_decide_eq_true (by kernel_rfl)) (by unfold Func.isWrapper; first | (rw [if_pos (by decide +kernel)]; kernel_rfl) | (rw [if_neg (by decide +kernel)]; exact ⟨rfl, rfl⟩))
    (fun os started H enc _ => lifted os started H enc)

theorem proved : Rows.RingOrdersSaid := over
#print axioms proved
end ROrd
end Go.Proofs.Ytogbchahfkphoaa
