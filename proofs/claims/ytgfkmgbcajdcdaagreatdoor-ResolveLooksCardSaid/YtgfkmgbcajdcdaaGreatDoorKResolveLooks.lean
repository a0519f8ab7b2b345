/-
  crosswaylaw16.ResolveLooks returns true for every input, and leaves its arguments alone.
  Conditions: none of our own.
-/
import Derived.Test.YtgfkmgbcajdcdaaGreatDoorKba
import Derived.Test.YtgfkmgbcajdcdaaGreatDoorKbf
import Derived.Test.YtgfkmgbcajdcdaaGreatDoorKbn
import Derived.Test.YtgfkmgbcajdcdaaGreatDoorKas
namespace Go.Proofs.YtgfkmgbcajdcdaaGreatDoor
open Go.ChangeShapes Go.WideShapes Go.ChangeAt Go.RowKit Ifs
set_option linter.unusedVariables false
namespace VLk
/-- Numbers of routes: from 1 to as many as there are hops. -/
theorem num_next {l : List EnI} (hl : l.length ≤ 90) : ∀ r ∈ (numI l).1, 1 ≤ r.2 ∧ r.2 ≤ 65535 := by
  intro r hr
  obtain ⟨i, hi⟩ := List.mem_iff_getElem?.1 hr
  have hil : i < l.length := by have := (List.getElem?_eq_some_iff.1 hi).1; rw [(numI_len l).1] at this; exact this
  obtain ⟨n, hn1, hn2⟩ := numI_at (List.getElem?_eq_getElem hil)
  have h1 := (List.getElem?_eq_some_iff.1 hn2).1
  have h2 := (numI_len l).2
  rw [hn1] at hi
  injection hi with hi
  rw [← hi]
  simp only
  omega
/-- What stands of a lookup: nothing, or a hop and its number. -/
theorem look_ways {l : List EnI} (hs : SrtE l) (a : AdR) (h1 : N64 a.2.1) (h2 : N64 a.2.2) :
    (lookI l a = none ∧ (if vld a.1 (a.2.1 : Int) (a.2.2 : Int) = true then valN (famN (numI l).1 a.1) 0 (numA a) else 0) = 0) ∨
    ∃ (k : Nat) (h : HpI), lookI l a = some h ∧ (if vld a.1 (a.2.1 : Int) (a.2.2 : Int) = true then valN (famN (numI l).1 a.1) 0 (numA a) else 0) = ((k + 1 : Nat) : Int) ∧ (numI l).2[k]? = some h := by
  by_cases hv : vld a.1 (a.2.1 : Int) (a.2.2 : Int) = true
  · rw [if_pos hv]
    exact find_look hs ⟨hv, h1, h2⟩
  · left
    rw [if_neg hv]
    refine ⟨look_none.2 fun j f hj => ?_, rfl⟩
    have hv2 : vld a.1 (a.2.1 : Int) (a.2.2 : Int) = false := by simpa using hv
    unfold hldP hld
    rw [hv2]; rfl
set_option maxRecDepth 100000 in
set_option maxHeartbeats 8000000 in
theorem walk (w : World) (hE : EnvR w) (a0 b0 : Option Addr) (l0 c0 m0 d0_ : Nat) (z0 : List Ifs.Stp) (y0 : List Stp) (w0 : Ifs.IsStp w a0 l0 z0) (x0 : IsStp w b0 m0 y0) (a1 : Option Addr) (l1 c1 : Nat) (z1 : List AdR) (w1 : IsAds w a1 l1 z1) :
    Calls Tryz.prog 6 #[.agg #[.slice a0 l0 c0, .slice b0 m0 d0_], .slice a1 l1 c1] w fun e w' => e = .returned (.bool true) ∧ Below w.heap.size w w' := by
  have HEn := Lib.hid hE
  have HM := Lib.hid (fun W (hW : Below w.heap.size w W) => made16 w a0 b0 l0 c0 m0 d0_ z0 y0 w0 x0 W hW hE)
  have HZa := Lib.hid w1
  clear hE w0 x0 w1
  obtain ⟨xb, hxb⟩ : ∃ xb, w.heap.size = xb := ⟨_, rfl⟩
  obtain ⟨W0, hW0⟩ : ∃ W, w.alloc (.cells #[.slice a0 l0 c0, .slice b0 m0 d0_] 25) = W := ⟨_, rfl⟩
  have HX : Hid (Blk W0 xb 25 #[.slice a0 l0 c0, .slice b0 m0 d0_]) := Lib.hid (hW0 ▸ hxb ▸ Blk.new w _ _)
  have HB0 : Hid (Below w.heap.size w W0) := Lib.hid (hW0 ▸ (Below.refl _ w).alloc (Nat.le_refl _) _)
  have HEn0 := Lib.hid (HEn.out.below HB0.out)
  have HW0 := Lib.hid (And.intro hW0 hxb)
  clear hW0 hxb
  go_enter Tryz.func6, Tryz.ntmps6
  go_wp2_with fail
  rw [HW0.out.1, HW0.out.2]
  refine Calls.mono (awake16 W0 HEn0.out) ?_
  rintro e x1 ⟨rfl, hb1⟩
  have HB1 := Lib.hid (HB0.out.trans (hb1.mono HB0.out.size))
  have HX1 := Lib.hid (HX.out.below hb1 HX.out.lt)
  clear hb1
  have q0 := (HX1.out.cell 0).trans (show _ = some (Value.slice a0 l0 c0) by rfl)
  have q1 := (HX1.out.cell 1).trans (show _ = some (Value.slice b0 m0 d0_) by rfl)
  go_wp2_with fail
  refine Calls.mono (HM.out x1 HB1.out) ?_
  rintro e x2 ⟨t, p, S, T, rfl, hY⟩
  clear q0 q1
  obtain ⟨L, hL⟩ : ∃ L, plR y0 (min m0 60) = L := ⟨_, rfl⟩
  obtain ⟨st, hst⟩ : ∃ st, plI z0 (min l0 60) = st := ⟨_, rfl⟩
  rw [hL, hst] at hY
  have HYf := Lib.hid (fun W (hW : Tch x2 W []) => hY.tch0 hW)
  have HTa := Lib.hid (rtable_any t p S T L st x2 hY.R hY.I)
  have HI := Lib.hid hY.R.inv
  have HOk := Lib.hid hY.R.ok
  have HBe := Lib.hid (fun W (hW : Tch x2 W []) => HB1.out.trans ((hY.tch0 hW).bel.mono HB1.out.size))
  clear hL hst hY
  have HSr : Hid (SrtE (tabI L st)) := Lib.hid (tabI_SrtE HI.out.inv)
  have HTl := Lib.hid (tabI_len L st)
  have hn90 := HI.out.ninety
  obtain ⟨l, hl⟩ : ∃ l, tabI L st = l := ⟨_, rfl⟩
  obtain ⟨n, hn⟩ : ∃ n, l.length = n := ⟨_, rfl⟩
  have HN9 : Hid (n ≤ 90) := Lib.hid (by have h1 := HTl.out; rw [hl, hn] at h1; omega)
  rw [hl, hn] at HTa
  rw [hl] at HSr
  have HN := Lib.hid hn
  have HL := Lib.hid hl
  clear hl hn hn90
  go_wp2_with fail
  refine Calls.mono HTa.out ?_
  rintro e x3 ⟨A, c, rfl, ho, hT⟩
  have HRo := Lib.hid (fun W (hW : Tch x3 W []) => own_tch (own_mono ho (Nat.zero_le _)) hW (by simp))
  have HT3 := Lib.hid hT
  have HNu := Lib.hid (rnumber_any A n c l HN.out (by have := HN9.out; omega) x3 (HRo.out x3 (Tch.refl _ _)))
  clear ho hT
  go_wp2_with fail
  refine Calls.mono HNu.out ?_
  rintro e x4 ⟨A1, c1, A2, c2, rfl, ho1, ho2, -, hT4⟩
  have HT4 := Lib.hid hT4
  have HRh := Lib.hid (fun W (hW : Tch x4 W []) => own_tch (own_zero ho2) hW (by simp))
  have HNl := Lib.hid (numI_len l)
  have HNw := Lib.hid (newPop_any A1 n c1 (numI l).1 (SrtR.num HSr.out) (by rw [HNl.out.1]; exact HN.out) HN9.out (num_next (by rw [HN.out]; exact HN9.out)) x4 (own_zero ho1))
  have HWy := Lib.hid (fun a h1 h2 => look_ways HSr.out a h1 h2)
  obtain ⟨hs, hhs⟩ : ∃ hs, (numI l).2 = hs := ⟨_, rfl⟩
  obtain ⟨m, hm⟩ : ∃ m, hs.length = m := ⟨_, rfl⟩
  rw [hhs] at HRh HWy HNl
  rw [hm] at HRh HNl
  have HM2 := Lib.hid hm
  clear ho1 ho2 hT4 HNu
  rw [hhs, hm]
  clear hhs hm
  go_wp2_with fail
  refine Calls.mono HNw.out ?_
  rintro e x5 ⟨tp, rfl, hI5, hT5⟩
  have HT5 := Lib.hid hT5
  have HLk := Lib.hid (fun a (ha : N64 a.2.1 ∧ N64 a.2.2) W (hW : Tch x5 W []) => (show Calls Tryz.prog 29 #[.slice A n c, adR a] W fun e w' => e = .returned (.tuple #[hpR ((lookI l a).getD zeroH), .bool (lookI l a).isSome]) ∧ Tch W w' [] from rlook_any A n c l HN.out (by have := HN9.out; omega) a ha W (HRo.out W ((HT4.out.trans hT5).trans hW))))
  have HDk := Lib.hid (fun a (ha : N64 a.2.1 ∧ N64 a.2.2) W (hW : Tch x5 W []) => (show Calls Tryz.prog 30 #[.slice A n c, adR a] W fun e w' => e = .returned (.tuple #[hpR ((lookI l a).getD zeroH), .bool (lookI l a).isSome]) ∧ Tch W w' [] from dlook_any A n c l HN.out (by have := HN9.out; omega) a ha (fun e he => (HSr.out.ok e he).2.2) W (HRo.out W ((HT4.out.trans hT5).trans hW))))
  have HFd := Lib.hid (fun (a : AdR) (ha : N64 a.2.1 ∧ N64 a.2.2) W (hW : Tch x5 W []) => tabFind_tab (SrtR.num HSr.out) (hI5.tch hW) a.1 a.2.1 a.2.2 ha.1 ha.2)
  have HBx := Lib.hid (fun W (hW : Tch x5 W []) => HBe.out W (((HT3.out.trans HT4.out).trans hT5).trans hW))
  have HRz := Lib.hid (fun W (hW : Tch x5 W []) => HRh.out W (hT5.trans hW))
  clear hI5 hT5 HNw
  go_wp2
  go_loopw [13] (fun iv wr => ∃ j : Nat, iv = .int .i64 (j : Int) ∧ j ≤ 60 ∧ Hid (Tch x5 wr [])) (fun iv _ => 60 - (intOf iv).toNat)
  case atStart => exact ⟨0, rfl, by omega, Lib.hid (Tch.refl _ _)⟩
  case round =>
    obtain ⟨j, rfl, hj, hT⟩ := hrel
    by_cases hlt : j < l1 ∧ j < 60
    · obtain ⟨h1, h2⟩ := hlt
      obtain ⟨g, o, x, rfl, hg, -, nx1, nx2, hcl⟩ := HZa.out.step h1
      have HCl := Lib.hid hcl
      obtain ⟨c0, c1, c2⟩ := hcl wr (HBx.out wr hT.out)
      have hjI : (j : Int) < l1 := by omega
      have hjI2 : (j : Int) < 60 := by omega
      have hj0 : (0 : Int) ≤ j := by omega
      have j3 : IntKind.i64.wrap ((j : Int) + 1) = (j : Int) + 1 := by rw [IntKind.wrap_i64]; omega
      have HL6 := Lib.hid (HLk.out x ⟨nx1, nx2⟩)
      have HD6 := Lib.hid (HDk.out x ⟨nx1, nx2⟩)
      have HF6 := Lib.hid (HFd.out x ⟨nx1, nx2⟩)
      have hway := HWy.out x nx1 nx2
      obtain ⟨ov, hov⟩ : ∃ ov, lookI l x = ov := ⟨_, rfl⟩
      obtain ⟨M, hM⟩ : ∃ M, (if vld x.1 (x.2.1 : Int) (x.2.2 : Int) = true then valN (famN (numI l).1 x.1) 0 (numA x) else 0) = M := ⟨_, rfl⟩
      rw [hov, hM] at hway
      rw [hM] at HF6
      rw [hov] at HL6 HD6
      have HJ := Lib.hid (And.intro h2 j3)
      have hway2 : (ov = none ∧ M = 0) ∨ ∃ (k : Nat) (h : HpI), ov = some h ∧ M = ((k + 1 : Nat) : Int) ∧ hs[k]? = some h := hway
      obtain ⟨⟨hp, ⟨hs', hh, hl'⟩, hw⟩, hD⟩ : ∃ D, ov.getD zeroH = D := ⟨_, rfl⟩
      obtain ⟨B, hB⟩ : ∃ B, ov.isSome = B := ⟨_, rfl⟩
      rw [hD, hB] at HL6 HD6
      have hway3 : (B = false ∧ M = 0) ∨ (B = true ∧ ∃ (k : Nat), M = ((k + 1 : Nat) : Int) ∧ hs[k]? = some (hp, (hs', hh, hl'), hw)) := by
        rcases hway2 with ⟨e1, e2⟩ | ⟨k, h, e1, e2, e3⟩
        · left; subst e1; exact ⟨hB.symm, e2⟩
        · right; subst e1; refine ⟨hB.symm, k, e2, ?_⟩
          rw [e3]; congr 1
      have EQ := eq_neq 43 _ _ (eq_hpR (hp, (hs', hh, hl'), hw) (hp, (hs', hh, hl'), hw) (decide_eq_true rfl))
      simp only [Bool.not_true] at EQ
      have HW3 := Lib.hid hway3
      clear hov hM hcl hg nx1 nx2 hway hway2 hway3 hD hB
      obtain ⟨xs, xh, xl⟩ := x
      go_wp2_with fail
      refine Calls.mono (HL6.out wr hT.out) ?_
      rintro e w6 ⟨rfl, hT6⟩
      obtain ⟨y, hy⟩ : ∃ y, w6.heap.size = y := ⟨_, rfl⟩
      obtain ⟨W6, hW6⟩ : ∃ W, w6.alloc (.cells #[.int .i64 hp, .bool hs', .int .u64 (hh : Int), .int .u64 (hl' : Int), .bool hw] 43) = W := ⟨_, rfl⟩
      have hB6 : Blk W6 y 43 #[.int .i64 hp, .bool hs', .int .u64 (hh : Int), .int .u64 (hl' : Int), .bool hw] := hW6 ▸ hy ▸ Blk.new w6 _ _
      have HB6 := Lib.hid hB6
      have HT6 : Hid (Tch x5 W6 []) := Lib.hid (hT.out.trans (hT6.trans (hW6 ▸ (Tch.refl w6 []).alloc _)))
      have HW6 := Lib.hid (And.intro hW6 hy)
      clear c0 c1 c2 hT6 hB6
      obtain ⟨c0, c1, c2⟩ := HCl.out W6 (HBx.out W6 HT6.out)
      rw [← hW6] at c0 c1 c2
      clear hW6 hy
      go_wp2_with fail
      rw [HW6.out.1, HW6.out.2]
      refine Calls.mono (HD6.out W6 HT6.out) ?_
      rintro e w7 ⟨rfl, hT7⟩
      obtain ⟨z, hz⟩ : ∃ z, w7.heap.size = z := ⟨_, rfl⟩
      obtain ⟨W7, hW7⟩ : ∃ W, w7.alloc (.cells #[.int .i64 hp, .bool hs', .int .u64 (hh : Int), .int .u64 (hl' : Int), .bool hw] 43) = W := ⟨_, rfl⟩
      have hB7 : Blk W7 z 43 #[.int .i64 hp, .bool hs', .int .u64 (hh : Int), .int .u64 (hl' : Int), .bool hw] := hW7 ▸ hz ▸ Blk.new w7 _ _
      have HB7 := Lib.hid hB7
      have HT67 : Hid (Tch W6 W7 []) := Lib.hid (hT7.trans (hW7 ▸ (Tch.refl w7 []).alloc _))
      have HT7 := Lib.hid (HT6.out.trans HT67.out)
      have HW7 := Lib.hid (And.intro hW7 hz)
      clear c0 c1 c2 hT7 hB7
      obtain ⟨c0, c1, c2⟩ := HCl.out W7 (HBx.out W7 HT7.out)
      rw [← hW7] at c0 c1 c2
      clear hW7 hz
      go_wp2_with fail
      rw [HW7.out.1, HW7.out.2]
      refine Calls.mono (HF6.out W7 HT7.out) ?_
      rintro e w8 ⟨rfl, hT8⟩
      have HT8 := Lib.hid (HT7.out.trans hT8)
      have hb6 := (HT67.out.trans hT8).blk HB6.out (by simp)
      have hb7 := hT8.blk HB7.out (by simp)
      have HT8b := Lib.hid (And.intro hb6 hb7)
      clear c0 c1 c2 hT8 hb6 hb7
      have HPR : Hid (∀ W, Tch w8 W [] → (W.cell? ⟨y, 0, none⟩ = some (Value.int .i64 hp) ∧ W.cell? ⟨y, 1, none⟩ = some (Value.bool hs') ∧ W.cell? ⟨y, 2, none⟩ = some (Value.int .u64 (hh : Int)) ∧ W.cell? ⟨y, 3, none⟩ = some (Value.int .u64 (hl' : Int)) ∧ W.cell? ⟨y, 4, none⟩ = some (Value.bool hw)) ∧ (W.cell? ⟨z, 0, none⟩ = some (Value.int .i64 hp) ∧ W.cell? ⟨z, 1, none⟩ = some (Value.bool hs') ∧ W.cell? ⟨z, 2, none⟩ = some (Value.int .u64 (hh : Int)) ∧ W.cell? ⟨z, 3, none⟩ = some (Value.int .u64 (hl' : Int)) ∧ W.cell? ⟨z, 4, none⟩ = some (Value.bool hw))) := Lib.hid (fun W hW => ⟨(hW.blk (HT8b.out.1) (by simp)).h5, (hW.blk (HT8b.out.2) (by simp)).h5⟩)
      have j3 := HJ.out.2
      rcases HW3.out with ⟨rfl, rfl⟩ | ⟨rfl, k, rfl, hk⟩
      · have m0 : ¬ (m : Int) < 0 := by omega
        have m0d : decide ((m : Int) < 0) = false := decide_eq_false m0
        have HC0 := Lib.hid (HPR.out w8.drew ((Tch.refl w8 []).drew))
        go_wp2_with fail
        refine wp_region_held_drew (S := (fun W => (W.cell? ⟨y, 0, none⟩ = some (Value.int .i64 hp) ∧ W.cell? ⟨y, 1, none⟩ = some (Value.bool hs') ∧ W.cell? ⟨y, 2, none⟩ = some (Value.int .u64 (hh : Int)) ∧ W.cell? ⟨y, 3, none⟩ = some (Value.int .u64 (hl' : Int)) ∧ W.cell? ⟨y, 4, none⟩ = some (Value.bool hw)) ∧ (W.cell? ⟨z, 0, none⟩ = some (Value.int .i64 hp) ∧ W.cell? ⟨z, 1, none⟩ = some (Value.bool hs') ∧ W.cell? ⟨z, 2, none⟩ = some (Value.int .u64 (hh : Int)) ∧ W.cell? ⟨z, 3, none⟩ = some (Value.int .u64 (hl' : Int)) ∧ W.cell? ⟨z, 4, none⟩ = some (Value.bool hw)))) (by kernel_rfl) ?_ (fun hHeld => ?_)
        · (exact HC0.out)
        refine tkH 0 (by assumption) ?_
        refine tkH 1 (by assumption) ?_
        refine tkH 2 (by assumption) ?_
        refine tkH 3 (by assumption) ?_
        refine tkH 4 (by assumption) ?_
        refine tkH 5 (by assumption) ?_
        refine tkH 6 (by assumption) ?_
        refine tkH 7 (by assumption) ?_
        refine tkH 8 (by assumption) ?_
        refine tkH 9 (by assumption) ?_
        refine tkH 10 (by assumption) ?_
        refine tkH 11 (by assumption) ?_
        refine tkH 12 (by assumption) ?_
        refine tkH 13 (by assumption) ?_
        refine tkH 14 (by assumption) ?_
        refine tkH 15 (by assumption) ?_
        refine tkH 16 (by assumption) ?_
        refine tkH 17 (by assumption) ?_
        refine tkH 18 (by assumption) ?_
        refine tkH 19 (by assumption) ?_
        refine tkH 20 (by assumption) ?_
        refine tkH 21 (by assumption) ?_
        refine tkH 22 (by assumption) ?_
        refine tkO 23 (by assumption) ?_
        refine tkO 24 (by assumption) ?_
        refine tkO 25 (by assumption) ?_
        refine tkO 26 (by assumption) ?_
        refine tkO 27 (by assumption) ?_
        refine tkO 28 (by assumption) ?_
        refine tkO 29 (by assumption) ?_
        refine tkH 30 (by assumption) ?_
        refine tkH 31 (by assumption) ?_
        refine wpAnyH_done (by kernel_rfl) ?_ _
        go_wp2
        go_roundw
        case rel => exact ⟨j + 1, by go_num, HJ.out.1, Lib.hid HT8.out.drew⟩
        case measure => have := HJ.out.1; simp [intOf]; omega
      · have hkm : k < m := by have h9 := (List.getElem?_eq_some_iff.1 hk).1; rw [HM2.out] at h9; exact h9
        have hro := HRz.out w8 HT8.out
        obtain ⟨g2, rfl⟩ := slice_some hro (by omega)
        have hat := fun q hq => flatk_at (n := 5) (f := hpC) (fun _ => rfl) hk (k := q) hq
        have HTc : Hid (∀ W, Tch w8 W [] → (W.cell? ⟨g2, k * 5, none⟩ = some (Value.int .i64 hp) ∧ W.cell? ⟨g2, k * 5 + 1, none⟩ = some (Value.bool hs') ∧ W.cell? ⟨g2, k * 5 + 2, none⟩ = some (Value.int .u64 (hh : Int)) ∧ W.cell? ⟨g2, k * 5 + 3, none⟩ = some (Value.int .u64 (hl' : Int)) ∧ W.cell? ⟨g2, k * 5 + 4, none⟩ = some (Value.bool hw))) := Lib.hid (fun W hW => by
          have hro2 := own_tch hro hW (by simp)
          exact ⟨own_cellN hro2 (hat 0 (by decide)), own_cellN hro2 (hat 1 (by decide)), own_cellN hro2 (hat 2 (by decide)), own_cellN hro2 (hat 3 (by decide)), own_cellN hro2 (hat 4 (by decide))⟩)
        obtain ⟨M, hM⟩ : ∃ M : Int, ((k + 1 : Nat) : Int) = M := ⟨_, rfl⟩
        rw [hM]
        have m0 : 0 < M := by omega
        have m1 : ¬ (m : Int) < M := by omega
        have m1d : decide ((m : Int) < M) = false := decide_eq_false m1
        have m0d : decide (0 < M) = true := decide_eq_true m0
        have m2 : IntKind.i64.wrap (M - 1) = (k : Int) := by have h7 := HNl.out.2; have h8 := HN.out; have h9 := HN9.out; rw [IntKind.wrap_i64]; omega
        have m3 : (0 : Int) ≤ k := by omega
        have m4 : (k : Int) < m := by omega
        clear hM hkm hro hat hk
        have HC0 := Lib.hid (And.intro (HPR.out w8.drew ((Tch.refl w8 []).drew)) (HTc.out w8.drew ((Tch.refl w8 []).drew)))
        go_wp2_with fail
        refine wp_region_held_drew (S := (fun W => ((W.cell? ⟨y, 0, none⟩ = some (Value.int .i64 hp) ∧ W.cell? ⟨y, 1, none⟩ = some (Value.bool hs') ∧ W.cell? ⟨y, 2, none⟩ = some (Value.int .u64 (hh : Int)) ∧ W.cell? ⟨y, 3, none⟩ = some (Value.int .u64 (hl' : Int)) ∧ W.cell? ⟨y, 4, none⟩ = some (Value.bool hw)) ∧ (W.cell? ⟨z, 0, none⟩ = some (Value.int .i64 hp) ∧ W.cell? ⟨z, 1, none⟩ = some (Value.bool hs') ∧ W.cell? ⟨z, 2, none⟩ = some (Value.int .u64 (hh : Int)) ∧ W.cell? ⟨z, 3, none⟩ = some (Value.int .u64 (hl' : Int)) ∧ W.cell? ⟨z, 4, none⟩ = some (Value.bool hw))) ∧ (W.cell? ⟨g2, k * 5, none⟩ = some (Value.int .i64 hp) ∧ W.cell? ⟨g2, k * 5 + 1, none⟩ = some (Value.bool hs') ∧ W.cell? ⟨g2, k * 5 + 2, none⟩ = some (Value.int .u64 (hh : Int)) ∧ W.cell? ⟨g2, k * 5 + 3, none⟩ = some (Value.int .u64 (hl' : Int)) ∧ W.cell? ⟨g2, k * 5 + 4, none⟩ = some (Value.bool hw)))) (by kernel_rfl) ?_ (fun hHeld => ?_)
        · (exact HC0.out)
        refine tkH 0 (by assumption) ?_
        refine tkH 1 (by assumption) ?_
        refine tkH 2 (by assumption) ?_
        refine tkH 3 (by assumption) ?_
        refine tkH 4 (by assumption) ?_
        refine tkH 5 (by assumption) ?_
        refine tkH 6 (by assumption) ?_
        refine tkH 7 (by assumption) ?_
        refine tkH 8 (by assumption) ?_
        refine tkH 9 (by assumption) ?_
        refine tkH 10 (by assumption) ?_
        refine tkH 11 (by assumption) ?_
        refine tkH 12 (by assumption) ?_
        refine tkH 13 (by assumption) ?_
        refine tkH 14 (by assumption) ?_
        refine tkH 15 (by assumption) ?_
        refine tkH 16 (by assumption) ?_
        refine tkH 17 (by assumption) ?_
        refine tkH 18 (by assumption) ?_
        refine tkH 19 (by assumption) ?_
        refine tkH 20 (by assumption) ?_
        refine tkH 21 (by assumption) ?_
        refine tkH 22 (by assumption) ?_
        refine tkH 23 (by assumption) ?_
        refine tkH 24 (by assumption) ?_
        refine tkH 25 (by assumption) ?_
        refine tkH 26 (by assumption) ?_
        refine tkH 27 (by assumption) ?_
        refine tkH 28 (by assumption) ?_
        refine tkH 29 (by assumption) ?_
        refine tkH 30 (by assumption) ?_
        refine tkH 31 (by assumption) ?_
        refine wpAnyH_done (by kernel_rfl) ?_ _
        go_wp2
        go_roundw
        case rel => exact ⟨j + 1, by go_num, HJ.out.1, Lib.hid HT8.out.drew⟩
        case measure => have := HJ.out.1; simp [intOf]; omega
    · have hc : ((j : Int) < l1 ∧ ¬ (j : Int) < 60) ∨ ¬ ((j : Int) < l1) := by omega
      clear hlt hj
      have HEb := Lib.hid (HBx.out wr hT.out)
      rcases hc with ⟨h1, h2⟩ | h1
      all_goals
        go_wp2
        go_ret
        exact ⟨by simp, HEb.out⟩
set_option maxRecDepth 100000 in
theorem contract (H : Type) (enc : TypeId × Value → H) (W : World) (base : Nat) (args : Array Value) (ds gs : List (DataW H)) (before : List MemPlace)
    (hval0 : ∀ (j : Nat) t v, Tryz.f6.params[j]? = some t → args[j]? = some v → Value.okWide Tryz.prog W .any base t v)
    (hW : DataW.Whole enc Tryz.prog Tryz.f6.params.toList Rows.resolveLooksSpec.vars false W args.toList ds gs before)
    (hsz0 : (DataW.weightsEach Tryz.prog (Tryz.f6.params.toList ++ Rows.resolveLooksSpec.plain.varTypes Tryz.prog) (ds ++ gs)).all (· ≤ reachBytes) = true) (hE : EnvR W) :
    Calls Tryz.prog 6 args W fun e W' => ∃ v, e = .returned v ∧ Rows.resolveLooksSpec.post enc Tryz.prog Tryz.f6 false true false false W args v W' := by
  have hsz := hsz0
  clear hsz0
  have hval := hval0
  clear hval0
  have hW' := hW
  obtain ⟨p, q, hA0, hV, rfl, hfz, hnd⟩ := hW
  have hA : DataW.TrodAll enc Tryz.prog W 0 (fun _ => true) true Tryz.f6.params.toList args.toList ds p := hA0
  rw [Tryz.params6] at hA hval hsz
  obtain ⟨v0, vs0, d0, ds0, p0, q0, hargs, rfl, rfl, h0, r0⟩ := trodAll_cons hA
  obtain ⟨v1, vs1, d1, ds1, p1, q1, rfl, rfl, rfl, h1, r1⟩ := trodAll_cons r0
  obtain ⟨rfl, rfl, rfl⟩ := trodAll_nil r1
  obtain rfl : args = #[v0, v1] := by cases args; simp_all
  obtain ⟨rfl, rfl⟩ := trodVars_none hV
  have k0 := h0
  have lt0 : ∀ x ∈ p0, x.block < W.heap.size := by obtain ⟨m, hm⟩ := k0; exact DataW.trod_lt m _ _ _ hm
  obtain ⟨a0, b0, l0, c0, m0, d0_, z0, y0, rfl, w0, x0⟩ := open_world (hval 0 25 v0 rfl rfl) h0
  obtain ⟨a1, l1, c1, rfl⟩ := okWide_slice Tryz.underlying78 (hval 1 78 v1 rfl rfl)
  have k1 := h1
  have lt1 : ∀ x ∈ p1, x.block < W.heap.size := by obtain ⟨m, hm⟩ := k1; exact DataW.trod_lt m _ _ _ hm
  obtain ⟨z1, w1⟩ := isAds_of h1
  clear hA0
  refine (walk W hE a0 b0 l0 c0 m0 d0_ z0 y0 w0 x0 a1 l1 c1 z1 w1).mono fun e W' ⟨he, bel⟩ => ?_
  subst he
  exact ⟨_, rfl, _, _, _, [], _, [], hW', trodAll_mk1 (shut_bool Tryz.underlying4 _), (trodAll_cons_mk (Below.trod laidOut (by kernel_rfl) (of_decide_eq_true (by kernel_rfl)) k0 bel lt0) (trodAll_cons_mk (Below.trod laidOut (by kernel_rfl) (of_decide_eq_true (by kernel_rfl)) k1 bel lt1) trodAll_mk0)), rfl, bel.frame _, fun h => by cases h⟩

theorem laid_met (os : Os) (args : Array Value) : laidMet Tryz.prog Rows.resolveLooksRow.laid ((World.laidAll Tryz.prog os Rows.resolveLooksRow.laid).forCall (fun _ _ => 0) ⟨#[], args, []⟩).memory :=
  laidMet_laidAll _ (by kernel_rfl) (by kernel_rfl)
set_option maxRecDepth 100000 in
theorem pre_row (os : Os) {H : Type} (enc : TypeId × Value → H) :
    (OpenSpec.ofChange Rows.resolveLooksSpec).preRow enc Tryz.prog Tryz.f6 Rows.resolveLooksRow.domain false Rows.resolveLooksRow.laid ((World.laidAll Tryz.prog os Rows.resolveLooksRow.laid).forCall (fun _ _ => 0) ⟨#[], #[.agg #[.slice none 0 0, .slice none 0 0], .slice none 0 0], []⟩).memory #[.agg #[.slice none 0 0, .slice none 0 0], .slice none 0 0] := by
  exact ⟨⟨ChangeSpec.pre_of_preB (fuel := 8) (by kernel_rfl), by rw [MakeChecks.laidMetH_plain _ _ _ (by kernel_rfl)]; exact laid_met os _⟩, sizedMet_of_sizedB (fuel := 8) (by kernel_rfl)⟩
set_option maxRecDepth 100000 in
theorem lifted (os : Os) (started : os.Started) (H : Type) (enc : TypeId × Value → H) (F : Stop.Interp) :
    ReturnsInHanded {} Tryz.checked os 6 .any ((OpenSpec.ofChange Rows.resolveLooksSpec).preRow enc Tryz.prog Tryz.f6 Rows.resolveLooksRow.domain false Rows.resolveLooksRow.laid) (((OpenSpec.ofChange Rows.resolveLooksSpec).at F).post enc Tryz.prog Tryz.f6 false true false false) := by
  refine returnsInHanded_of_row (C := Tryz.checked) (s := (OpenSpec.ofChange Rows.resolveLooksSpec)) own started (by kernel_rfl) Tryz.func6
    ⟨World.laidAll Tryz.prog os Rows.resolveLooksRow.laid, fun _ _ => 0, ⟨#[], #[.agg #[.slice none 0 0, .slice none 0 0], .slice none 0 0], []⟩, World.laidAll_os _ _ _, World.shaped_of_ZipB (by kernel_rfl) (by kernel_rfl), rfl, (Input.okWide_of_okWideB (by kernel_rfl)).2, pre_row os enc, (by simp only [Assume.holds]; exact ⟨by simp, by simp, fun _ => Modest.zero, by simp, by simp⟩)⟩ ?_
  intro W base args ds gs before hval hW _ hcond hsz hL hsh _
  rw [MakeChecks.laidMetH_plain _ _ _ (by kernel_rfl)] at hL
  exact contract H enc W base args ds gs before hval hW hsz (envR_of hL)

theorem over : Rows.resolveLooksRow.holds Tryz.pinned (OpenSpec.ofChange Rows.resolveLooksSpec) :=
  OpenClaim.holds_of_cond 6 Tryz.f6 rfl rfl rfl rfl rfl rfl rfl ⟨rfl, rfl, rfl, rfl, rfl⟩ rfl rfl rfl rfl rfl (by kernel_rfl) Tryz.func6 (by kernel_rfl)
    (of_decide_eq_true (by kernel_rfl)) (by unfold Func.isWrapper; first | (rw [if_pos (by decide +kernel)]; kernel_rfl) | (rw [if_neg (by decide +kernel)]; exact ⟨rfl, rfl⟩))
    (fun os started H enc _ F => by rw [OpenClaim.pre_eq_preRow]; exact lifted os started H enc F)

theorem proved : Rows.ResolveLooksCardSaid :=
  Claim7.holds_tied_plain_at .later [] Rows.resolveLooksCard.laidKinds true Rows.resolveLooksCard.stood.harness Rows.resolveLooksCard.stood.looks over (fun _ h => by cases h) (by kernel_rfl) (fun _ h => by cases h) resolveLooks_row_tie rfl ⟨rfl, rfl⟩ (by kernel_rfl) rfl
    (fun f fn hf hfn => by
      obtain rfl : f = 6 := Option.some.inj ((show Tryz.prog.funcNamed Rows.resolveLooksRow.func = some 6 by kernel_rfl).symm.trans hf) |>.symm
      obtain rfl : fn = Tryz.f6 := (Option.some.inj (Tryz.func6.symm.trans hfn)).symm
      exact ⟨by kernel_rfl, fun j t ht => by
        rw [Tryz.params6] at ht
        have hm : t ∈ [25, 78] := by simpa using Array.mem_of_getElem? ht
        have hall : ([25, 78].all fun u => !Tryz.prog.wantsStandIn u) = true := by kernel_rfl
        exact (show Tryz.prog.wantsStandIn t = false by simpa using List.all_eq_true.1 hall t hm)⟩)
    (by kernel_rfl)
#print axioms proved
end VLk
end Go.Proofs.YtgfkmgbcajdcdaaGreatDoor
