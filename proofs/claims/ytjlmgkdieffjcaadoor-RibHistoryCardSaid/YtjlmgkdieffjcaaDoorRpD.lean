/-
  The program's own rib (layer 15): isSameWay; slices.IndexFunc over paths; find.
-/
import Derived.Test.YtjlmgkdieffjcaaDoorRpC
namespace Go.Proofs.YtjlmgkdieffjcaaDoor
open Go.RowKit
set_option linter.unusedVariables false

set_option maxRecDepth 100000 in
set_option maxHeartbeats 4000000 in
theorem same_m (x y : PaI) (w : World) : Calls Tryd.prog 54 #[paR x, paR y] w fun e w' => e = .returned (.bool (sameW x y)) ∧ Tch w w' [] := by
  obtain ⟨R, hR⟩ : ∃ R, sameW x y = R := ⟨_, rfl⟩
  rw [hR]
  unfold sameW at hR
  obtain ⟨b1, hb1⟩ : ∃ b, decide (x.1 = y.1) = b := ⟨_, rfl⟩
  obtain ⟨b2, hb2⟩ : ∃ b, decide (x.2.2.1 = y.2.2.1) = b := ⟨_, rfl⟩
  obtain ⟨b3, hb3⟩ : ∃ b, decide (x.2.2.2.1 = y.2.2.2.1) = b := ⟨_, rfl⟩
  obtain ⟨b4, hb4⟩ : ∃ b, decide (x.2.2.2.2 = y.2.2.2.2) = b := ⟨_, rfl⟩
  rw [hb1, hb2, hb3, hb4] at hR
  have HQ := eqA_eql 24 _ _ (eq_adR x.2.2.1 y.2.2.1 hb2)
  obtain ⟨pr, me, ⟨vs, vh, vl⟩, po, aw⟩ := x
  obtain ⟨qr, ne, ⟨us, uh, ul⟩, qo, bw⟩ := y
  have e1 : (pr == qr) = b1 := (beq_int _ _).trans hb1
  have e3 : (po == qo) = b3 := (beq_int _ _).trans hb3
  have e4 : (aw == bw) = b4 := (beq_bool _ _).trans hb4
  have HQ : ∀ W, (binOp .eql 24 (.agg #[.bool vs, .int .u64 (vh : Int), .int .u64 (vl : Int)]) (.agg #[.bool us, .int .u64 (uh : Int), .int .u64 (ul : Int)])).run Tryd.prog W = .ok (.bool b2) W := HQ
  obtain ⟨xb, hxb⟩ : ∃ xb, w.heap.size = xb := ⟨_, rfl⟩
  obtain ⟨W0, hW0⟩ : ∃ W, (w.alloc (.cells #[.int .i64 pr, .int .i64 me, .bool vs, .int .u64 (vh : Int), .int .u64 (vl : Int), .int .i64 po, .bool aw] 55)).alloc (.cells #[.int .i64 qr, .int .i64 ne, .bool us, .int .u64 (uh : Int), .int .u64 (ul : Int), .int .i64 qo, .bool bw] 26) = W := ⟨_, rfl⟩
  have hX : Blk W0 xb 55 #[.int .i64 pr, .int .i64 me, .bool vs, .int .u64 (vh : Int), .int .u64 (vl : Int), .int .i64 po, .bool aw] := hW0 ▸ hxb ▸ (Blk.new _ _ _).alloc _
  have hY : Blk W0 (xb + 1) 26 #[.int .i64 qr, .int .i64 ne, .bool us, .int .u64 (uh : Int), .int .u64 (ul : Int), .int .i64 qo, .bool bw] := by
    rw [← hW0, ← hxb, show w.heap.size + 1 = (w.alloc (.cells #[.int .i64 pr, .int .i64 me, .bool vs, .int .u64 (vh : Int), .int .u64 (vl : Int), .int .i64 po, .bool aw] 55)).heap.size by simp]
    exact Blk.new _ _ _
  have HT0 : Hid (Tch w W0 []) := Lib.hid (hW0 ▸ ((Tch.refl w []).alloc _).alloc _)
  obtain ⟨x0, x1, x2, x3, x4, x5, x6⟩ := hX.p7
  obtain ⟨y0, y1, y2, y3, y4, y5, y6⟩ := hY.p7
  have HR := Lib.hid hR
  clear hX hY hb1 hb2 hb3 hb4 hR
  cases b1 <;> cases b2 <;> cases b3 <;> cases b4
  all_goals
    rw [← HR.out]
    clear HR
    go_enter Tryd.func54, Tryd.ntmps54
    go_wp2
    go_ret
    exact ⟨rfl, HT0.out⟩
set_option maxRecDepth 100000 in
set_option maxHeartbeats 2000000 in
/-- Flush's own question of a path: over the cell that holds the Proto. -/
theorem flush1_any (pr0 : Int) (xb : Nat) (x : PaI) (w : World) (hB : w.cell? ⟨xb, 0, none⟩ = some (.int .i64 pr0)) :
    Calls Tryd.prog 42 #[paR x, .pointer (some ⟨xb, 0, none⟩)] w fun e w' => e = .returned (.bool (decide (x.1 = pr0))) ∧ Tch w w' [] := by
  obtain ⟨b, hb⟩ : ∃ b, decide (x.1 = pr0) = b := ⟨_, rfl⟩
  rw [hb]
  obtain ⟨pr, me, ⟨vs, vh, vl⟩, po, aw⟩ := x
  have e1 : (pr == pr0) = b := (beq_int _ _).trans hb
  have HT0 : Hid (Tch w (w.alloc (.cells #[.int .i64 pr, .int .i64 me, .bool vs, .int .u64 (vh : Int), .int .u64 (vl : Int), .int .i64 po, .bool aw] 26)) []) := Lib.hid ((Tch.refl w []).alloc _)
  have x0 := (HT0.out.cell (p := ⟨xb, 0, none⟩) (World.block_lt_of_cell? w _ hB) (by simp)).trans hB
  clear hB hb
  go_enter Tryd.func42, Tryd.ntmps42
  go_wp2
  go_ret
  exact ⟨rfl, HT0.out⟩
set_option maxRecDepth 100000 in
set_option maxHeartbeats 4000000 in
theorem idx_same (x : PaI) (A : Option Addr) (n c : Nat) (l : List PaI) (hl : l.length = n) (hn : n ≤ 1000) (w : World) (h : w.ownsRow 0 26 7 (.slice A n c) n (l.flatMap paC)) :
    Calls Tryd.prog 53 #[.slice A n c, .func (.func 54) #[paR x] #[]] w fun e w' => e = .returned (.int .i64 (((fndI (fun y => sameW x y) l : Nat) : Int) - 1)) ∧ Tch w w' [] := by
  have eg : ∀ args W, (callFunc 54 args).run Tryd.prog W = .ok (.enter 54 args) W := enters_of Tryd.func54 (by kernel_rfl) rfl
  have HL := Lib.hid hl
  have HF := Lib.hid (fun (y : PaI) W (hT : Tch w W []) => same_m x y W)
  have HO := Lib.hid h
  obtain ⟨PP, hPP⟩ : ∃ P : PaI → Bool, (fun y => sameW x y) = P := ⟨_, rfl⟩
  have HPP : Hid (∀ y, (fun y => sameW x y) y = PP y) := Lib.hid (fun y => by rw [hPP])
  rw [hPP]
  clear h hl hPP
  go_enter Tryd.func53, Tryd.ntmps53
  go_wp2
  go_loopw [5, 8] (fun _ kv wr => ∃ k : Nat, kv = .int .i64 (k : Int) ∧ k ≤ n ∧ Hid (∀ (j : Nat) (y : PaI), j < k → l[j]? = some y → PP y = false) ∧ Hid (Tch w wr [])) (fun _ kv _ => n - (intOf kv).toNat)
  case atStart => exact ⟨0, rfl, Nat.zero_le _, Lib.hid (fun j y hj => absurd hj (by omega)), Lib.hid (Tch.refl _ _)⟩
  case round =>
    obtain ⟨k, rfl, hk, hA, hT⟩ := hrel
    have k1 : IntKind.i64.wrap ((k : Int) + 1) = (k : Int) + 1 := by rw [IntKind.wrap_i64]; omega
    by_cases hkn : k < n
    · have kI : (k : Int) < (n : Int) := by omega
      have k0 : (0 : Int) ≤ (k : Int) := by omega
      obtain ⟨y, hy⟩ : ∃ y, l[k]? = some y := ⟨_, List.getElem?_eq_getElem (by rw [HL.out]; exact hkn)⟩
      have d3 := own_tch HO.out hT.out (by simp)
      obtain ⟨gx, rfl⟩ := slice_some d3 (by omega)
      obtain ⟨y0, y1, y2, y3, y4, y5, y6⟩ := pa_cells d3 hy
      have HC := Lib.hid (HF.out y wr hT.out)
      have Hy := Lib.hid hy
      obtain ⟨b, hb⟩ : ∃ b, PP y = b := ⟨_, rfl⟩
      have HC : Hid (Calls Tryd.prog 54 _ wr fun e w' => e = .returned (.bool b) ∧ Tch wr w' []) := Lib.hid (by rw [← hb, ← HPP.out y]; exact HC.out)
      have HBb := Lib.hid hb
      clear d3 hy hb
      cases b with
      | true =>
        have HR : Hid (fndI PP l = k + 1) := Lib.hid (fndI_succ.2 ⟨⟨y, Hy.out, HBb.out⟩, hA.out⟩)
        go_wp2_with (go_at_fn 54; refine Calls.mono HC.out ?_; rintro e w' ⟨rfl, hT'⟩; have HT' := Lib.hid hT'; clear hT')
        go_ret
        exact ⟨by rw [HR.out]; simp, hT.out.trans HT'.out⟩
      | false =>
        go_wp2_with (go_at_fn 54; refine Calls.mono HC.out ?_; rintro e w' ⟨rfl, hT'⟩; have HT' := Lib.hid hT'; clear hT')
        go_roundw
        case rel => exact ⟨k + 1, by go_num, hkn, Lib.hid (fun j z hj hz => by
          rcases Nat.lt_or_ge j k with h1 | h1
          · exact hA.out j z h1 hz
          · obtain rfl : j = k := by omega
            rw [Hy.out] at hz
            injection hz with hz
            subst hz
            exact HBb.out), Lib.hid (hT.out.trans HT'.out)⟩
        case measure => simp [intOf]; omega
    · obtain rfl : k = n := by omega
      have kI : ¬ (k : Int) < (k : Int) := by omega
      have HR : Hid (fndI PP l = 0) := Lib.hid (fndI_zero.2 fun j y hy => hA.out j y (by rw [← HL.out]; exact (List.getElem?_eq_some_iff.1 hy).1) hy)
      clear hkn hk
      go_wp2
      go_ret
      exact ⟨by rw [HR.out]; rfl, hT.out⟩
set_option maxRecDepth 100000 in
set_option maxHeartbeats 4000000 in
theorem idx_bet (x : PaI) (A : Option Addr) (n c : Nat) (l : List PaI) (hl : l.length = n) (hn : n ≤ 1000) (w : World) (h : w.ownsRow 0 26 7 (.slice A n c) n (l.flatMap paC)) (hE : EnvR w) :
    Calls Tryd.prog 53 #[.slice A n c, .func (.func 24) #[paR x] #[]] w fun e w' => e = .returned (.int .i64 (((fndI (fun y => betI x y) l : Nat) : Int) - 1)) ∧ Tch w w' [] := by
  have eg : ∀ args W, (callFunc 24 args).run Tryd.prog W = .ok (.enter 24 args) W := enters_of Tryd.func24 (by kernel_rfl) rfl
  have HL := Lib.hid hl
  have HF := Lib.hid (fun (y : PaI) W (hT : Tch w W []) => better_m x y W (hE.tch0 hT))
  have HO := Lib.hid h
  obtain ⟨PP, hPP⟩ : ∃ P : PaI → Bool, (fun y => betI x y) = P := ⟨_, rfl⟩
  have HPP : Hid (∀ y, (fun y => betI x y) y = PP y) := Lib.hid (fun y => by rw [hPP])
  rw [hPP]
  clear h hl hPP hE
  go_enter Tryd.func53, Tryd.ntmps53
  go_wp2
  go_loopw [5, 8] (fun _ kv wr => ∃ k : Nat, kv = .int .i64 (k : Int) ∧ k ≤ n ∧ Hid (∀ (j : Nat) (y : PaI), j < k → l[j]? = some y → PP y = false) ∧ Hid (Tch w wr [])) (fun _ kv _ => n - (intOf kv).toNat)
  case atStart => exact ⟨0, rfl, Nat.zero_le _, Lib.hid (fun j y hj => absurd hj (by omega)), Lib.hid (Tch.refl _ _)⟩
  case round =>
    obtain ⟨k, rfl, hk, hA, hT⟩ := hrel
    have k1 : IntKind.i64.wrap ((k : Int) + 1) = (k : Int) + 1 := by rw [IntKind.wrap_i64]; omega
    by_cases hkn : k < n
    · have kI : (k : Int) < (n : Int) := by omega
      have k0 : (0 : Int) ≤ (k : Int) := by omega
      obtain ⟨y, hy⟩ : ∃ y, l[k]? = some y := ⟨_, List.getElem?_eq_getElem (by rw [HL.out]; exact hkn)⟩
      have d3 := own_tch HO.out hT.out (by simp)
      obtain ⟨gx, rfl⟩ := slice_some d3 (by omega)
      obtain ⟨y0, y1, y2, y3, y4, y5, y6⟩ := pa_cells d3 hy
      have HC := Lib.hid (HF.out y wr hT.out)
      have Hy := Lib.hid hy
      obtain ⟨b, hb⟩ : ∃ b, PP y = b := ⟨_, rfl⟩
      have HC : Hid (Calls Tryd.prog 24 _ wr fun e w' => e = .returned (.bool b) ∧ Tch wr w' []) := Lib.hid (by rw [← hb, ← HPP.out y]; exact HC.out)
      have HBb := Lib.hid hb
      clear d3 hy hb
      cases b with
      | true =>
        have HR : Hid (fndI PP l = k + 1) := Lib.hid (fndI_succ.2 ⟨⟨y, Hy.out, HBb.out⟩, hA.out⟩)
        go_wp2_with (go_at_fn 24; refine Calls.mono HC.out ?_; rintro e w' ⟨rfl, hT'⟩; have HT' := Lib.hid hT'; clear hT')
        go_ret
        exact ⟨by rw [HR.out]; simp, hT.out.trans HT'.out⟩
      | false =>
        go_wp2_with (go_at_fn 24; refine Calls.mono HC.out ?_; rintro e w' ⟨rfl, hT'⟩; have HT' := Lib.hid hT'; clear hT')
        go_roundw
        case rel => exact ⟨k + 1, by go_num, hkn, Lib.hid (fun j z hj hz => by
          rcases Nat.lt_or_ge j k with h1 | h1
          · exact hA.out j z h1 hz
          · obtain rfl : j = k := by omega
            rw [Hy.out] at hz
            injection hz with hz
            subst hz
            exact HBb.out), Lib.hid (hT.out.trans HT'.out)⟩
        case measure => simp [intOf]; omega
    · obtain rfl : k = n := by omega
      have kI : ¬ (k : Int) < (k : Int) := by omega
      have HR : Hid (fndI PP l = 0) := Lib.hid (fndI_zero.2 fun j y hy => hA.out j y (by rw [← HL.out]; exact (List.getElem?_eq_some_iff.1 hy).1) hy)
      clear hkn hk
      go_wp2
      go_ret
      exact ⟨by rw [HR.out]; rfl, hT.out⟩
set_option maxRecDepth 100000 in
set_option maxHeartbeats 4000000 in
theorem idx_pro (pr0 : Int) (xb : Nat) (A : Option Addr) (n c : Nat) (l : List PaI) (hl : l.length = n) (hn : n ≤ 1000) (w : World) (h : w.ownsRow 0 26 7 (.slice A n c) n (l.flatMap paC)) (hB : w.cell? ⟨xb, 0, none⟩ = some (.int .i64 pr0)) :
    Calls Tryd.prog 53 #[.slice A n c, .func (.func 42) #[] #[.pointer (some ⟨xb, 0, none⟩)]] w fun e w' => e = .returned (.int .i64 (((fndI (fun y => decide (y.1 = pr0)) l : Nat) : Int) - 1)) ∧ Tch w w' [] := by
  have eg : ∀ args W, (callFunc 42 args).run Tryd.prog W = .ok (.enter 42 args) W := enters_of Tryd.func42 (by kernel_rfl) rfl
  have HL := Lib.hid hl
  have HF := Lib.hid (fun (y : PaI) W (hT : Tch w W []) => flush1_any pr0 xb y W ((hT.cell (p := ⟨xb, 0, none⟩) (World.block_lt_of_cell? w _ hB) (by simp)).trans hB))
  have HO := Lib.hid h
  obtain ⟨PP, hPP⟩ : ∃ P : PaI → Bool, (fun y => decide (y.1 = pr0)) = P := ⟨_, rfl⟩
  have HPP : Hid (∀ y, (fun y => decide (y.1 = pr0)) y = PP y) := Lib.hid (fun y => by rw [hPP])
  rw [hPP]
  clear h hl hPP hB
  go_enter Tryd.func53, Tryd.ntmps53
  go_wp2
  go_loopw [5, 8] (fun _ kv wr => ∃ k : Nat, kv = .int .i64 (k : Int) ∧ k ≤ n ∧ Hid (∀ (j : Nat) (y : PaI), j < k → l[j]? = some y → PP y = false) ∧ Hid (Tch w wr [])) (fun _ kv _ => n - (intOf kv).toNat)
  case atStart => exact ⟨0, rfl, Nat.zero_le _, Lib.hid (fun j y hj => absurd hj (by omega)), Lib.hid (Tch.refl _ _)⟩
  case round =>
    obtain ⟨k, rfl, hk, hA, hT⟩ := hrel
    have k1 : IntKind.i64.wrap ((k : Int) + 1) = (k : Int) + 1 := by rw [IntKind.wrap_i64]; omega
    by_cases hkn : k < n
    · have kI : (k : Int) < (n : Int) := by omega
      have k0 : (0 : Int) ≤ (k : Int) := by omega
      obtain ⟨y, hy⟩ : ∃ y, l[k]? = some y := ⟨_, List.getElem?_eq_getElem (by rw [HL.out]; exact hkn)⟩
      have d3 := own_tch HO.out hT.out (by simp)
      obtain ⟨gx, rfl⟩ := slice_some d3 (by omega)
      obtain ⟨y0, y1, y2, y3, y4, y5, y6⟩ := pa_cells d3 hy
      have HC := Lib.hid (HF.out y wr hT.out)
      have Hy := Lib.hid hy
      obtain ⟨b, hb⟩ : ∃ b, PP y = b := ⟨_, rfl⟩
      have HC : Hid (Calls Tryd.prog 42 _ wr fun e w' => e = .returned (.bool b) ∧ Tch wr w' []) := Lib.hid (by rw [← hb, ← HPP.out y]; exact HC.out)
      have HBb := Lib.hid hb
      clear d3 hy hb
      cases b with
      | true =>
        have HR : Hid (fndI PP l = k + 1) := Lib.hid (fndI_succ.2 ⟨⟨y, Hy.out, HBb.out⟩, hA.out⟩)
        go_wp2_with (go_at_fn 42; refine Calls.mono HC.out ?_; rintro e w' ⟨rfl, hT'⟩; have HT' := Lib.hid hT'; clear hT')
        go_ret
        exact ⟨by rw [HR.out]; simp, hT.out.trans HT'.out⟩
      | false =>
        go_wp2_with (go_at_fn 42; refine Calls.mono HC.out ?_; rintro e w' ⟨rfl, hT'⟩; have HT' := Lib.hid hT'; clear hT')
        go_roundw
        case rel => exact ⟨k + 1, by go_num, hkn, Lib.hid (fun j z hj hz => by
          rcases Nat.lt_or_ge j k with h1 | h1
          · exact hA.out j z h1 hz
          · obtain rfl : j = k := by omega
            rw [Hy.out] at hz
            injection hz with hz
            subst hz
            exact HBb.out), Lib.hid (hT.out.trans HT'.out)⟩
        case measure => simp [intOf]; omega
    · obtain rfl : k = n := by omega
      have kI : ¬ (k : Int) < (k : Int) := by omega
      have HR : Hid (fndI PP l = 0) := Lib.hid (fndI_zero.2 fun j y hy => hA.out j y (by rw [← HL.out]; exact (List.getElem?_eq_some_iff.1 hy).1) hy)
      clear hkn hk
      go_wp2
      go_ret
      exact ⟨by rw [HR.out]; rfl, hT.out⟩
set_option maxRecDepth 100000 in
set_option maxHeartbeats 2000000 in
theorem find_any (x : PaI) (A : Option Addr) (n c : Nat) (l : List PaI) (hl : l.length = n) (hn : n ≤ 1000) (w : World) (h : w.ownsRow 0 26 7 (.slice A n c) n (l.flatMap paC)) :
    Calls Tryd.prog 33 #[.slice A n c, paR x] w fun e w' => e = .returned (.int .i64 (((fndI (fun y => sameW x y) l : Nat) : Int) - 1)) ∧ Tch w w' [] := by
  obtain ⟨r, hr⟩ : ∃ r, ((fndI (fun y => sameW x y) l : Nat) : Int) - 1 = r := ⟨_, rfl⟩
  have HI := Lib.hid (fun W (hT : Tch w W []) => idx_same x A n c l hl hn W (own_tch h hT (by simp)))
  rw [hr] at HI ⊢
  clear hr h hl hn
  obtain ⟨pr, me, ⟨vs, vh, vl⟩, po, aw⟩ := x
  obtain ⟨W0, hW0⟩ : ∃ W, w.alloc (.cells #[.int .i64 pr, .int .i64 me, .bool vs, .int .u64 (vh : Int), .int .u64 (vl : Int), .int .i64 po, .bool aw] 26) = W := ⟨_, rfl⟩
  obtain ⟨xb, hxb⟩ : ∃ xb, w.heap.size = xb := ⟨_, rfl⟩
  have hX : Blk W0 xb 26 #[.int .i64 pr, .int .i64 me, .bool vs, .int .u64 (vh : Int), .int .u64 (vl : Int), .int .i64 po, .bool aw] := hW0 ▸ hxb ▸ Blk.new _ _ _
  have hT0 : Tch w W0 [] := hW0 ▸ (Tch.refl w []).alloc _
  have HC := Lib.hid (HI.out W0 hT0)
  have HT0 := Lib.hid hT0
  obtain ⟨x0, x1, x2, x3, x4, x5, x6⟩ := hX.p7
  clear hX hT0 HI
  go_enter Tryd.func33, Tryd.ntmps33
  go_wp2_with (go_at_call 53; refine Calls.mono HC.out ?_; rintro e w' ⟨rfl, hT⟩; have HT' := Lib.hid hT; clear hT)
  go_ret
  exact ⟨rfl, HT0.out.trans HT'.out⟩
end Go.Proofs.YtjlmgkdieffjcaaDoor
