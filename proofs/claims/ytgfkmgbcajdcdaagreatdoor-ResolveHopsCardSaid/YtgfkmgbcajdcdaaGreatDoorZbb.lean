/-
  Several texts in one: RvF, Row, Frame.
-/
import Derived.Test.YtgfkmgbcajdcdaaGreatDoorZao
import Derived.Test.YtgfkmgbcajdcdaaGreatDoorZad
import Derived.Test.YtgfkmgbcajdcdaaGreatDoorZaa
import Derived.ProofKit
import Derived.OpenShut
import Derived.ShutString
import Derived.ChangeOld
import Derived.Test.YtgfkmgbcajdcdaaGreatDoorRows
import Derived.WalkKit
import Derived.SizedLaws
import Derived.JoinedCond
import Derived.Deep.CondSized
import Derived.Lib.SmallJoins
import Derived.Deep.Matrix
set_option linter.unusedVariables false
set_option maxRecDepth 100000
set_option maxHeartbeats 16000000
namespace Go.Proofs.YtgfkmgbcajdcdaaGreatDoor
open Go.RowKit Ifs

def bstV (o : Option Nat) : Int := match o with
 | none => -1
 | some b => (b : Int)
abbrev lookV (o : Option HpI) : Value := .tuple #[hpR (o.getD zeroH), .bool o.isSome]
theorem bstK_succ {l : List EnI} {a : AdR} {k : Nat} {e : EnI} (h : l[k]? = some e) : bstK l a (k + 1) = if (hldP e.1 a && (match bstK l a k with | none => true | some b => decide (bitsE l b < e.1.2))) = true then some k else bstK l a k := by
 rw [bstK, h]
 rfl
theorem rlook_any (A : Option Addr) (n c : Nat) (l : List EnI) (hn : l.length = n) (hn9 : n ≤ 1000000) (a : AdR) (ha : N64 a.2.1 ∧ N64 a.2.2) (w : World) (h : RowE w 0 A n c l) :
  Calls Tryz.prog 29 #[.slice A n c, adR a] w fun e w' => e = .returned (lookV (lookI l a)) ∧ Tch w w' [] := by
 have HRow := lH (fun W (hT : Tch w W []) => own_tch h hT (by simp))
 have HN := lH hn
 have HA := lH ha
 have HLk : Hid (lookI l a = match bstK l a l.length with | none => none | some i => (l[i]?).map (·.2)) := lH rfl
 have HSp := lH (fun k hk => bstK_spec l a k hk)
 have HSu := lH (fun k e (he : l[k]? = some e) => bstK_succ (a := a) he)
 obtain ⟨o9, ho9⟩ : ∃ o, lookI l a = o := ⟨_, rfl⟩
 rw [ho9] at HLk ⊢
 obtain ⟨ads, ah, al⟩ := a
 obtain ⟨ab, hab⟩ : ∃ ab, w.heap.size = ab := ⟨_, rfl⟩
 obtain ⟨W1, hW1⟩ : ∃ W, w.alloc (.cells #[.bool ads, .int .u64 (ah : Int), .int .u64 (al : Int)] 28) = W := ⟨_, rfl⟩
 obtain ⟨rb, hrb⟩ : ∃ rb, ab + 1 = rb := ⟨_, rfl⟩
 obtain ⟨W0, hW0⟩ : ∃ W, W1.alloc (.cells #[.int .i64 0, .bool false, .int .u64 0, .int .u64 0, .bool false] 43) = W := ⟨_, rfl⟩
 have z1 : W1.heap.size = rb := by rw [← hW1, zA, hab, hrb]
 have hT0 : Tch w W0 [] := hW0 ▸ hW1 ▸ (((Tch.refl w []).alloc _).alloc _)
 have hX : Blk W0 ab 28 #[.bool ads, .int .u64 (ah : Int), .int .u64 (al : Int)] := hW0 ▸ hW1 ▸ hab ▸ ((Blk.new w _ _).alloc _)
 have hR : Blk W0 rb 43 #[.int .i64 0, .bool false, .int .u64 0, .int .u64 0, .bool false] := hW0 ▸ z1 ▸ (Blk.new W1 _ _)
 have HT0 := lH hT0
 have HW0 : Hid ((w.alloc (.cells #[.bool ads, .int .u64 (ah : Int), .int .u64 (al : Int)] 28)).alloc (.cells #[.int .i64 0, .bool false, .int .u64 0, .int .u64 0, .bool false] 43) = W0) := lH (by rw [hW1, hW0])
 have HSz : Hid (w.heap.size = ab ∧ ab + 1 = rb) := lH (by omega)
 have HX := lH (fun W (hT : Tch W0 W []) => hT.blk hX (by simp))
 have HR := lH (fun W (hT : Tch W0 W []) => hT.blk hR (by simp))
 clear hn ha h ho9 hab hrb hW1 hW0 z1 hT0 hX hR
 go_enter Tryz.func29, Tryz.ntmps29
 go_wp2
 rw [HW0.out, HSz.out.1, HSz.out.2]
 go_loopw [6, 11] (fun bv iv wr => ∃ (i : Nat) (o : Option Nat), bv = .int .i64 (bstV o) ∧ iv = .int .i64 (i : Int) ∧ i ≤ n ∧ Hid (bstK l (ads, ah, al) i = o) ∧ Hid (Tch W0 wr [])) (fun _ iv _ => n - (intOf iv).toNat)
 case atStart => exact ⟨0, none, rfl, rfl, Nat.zero_le _, lH rfl, lH (Tch.refl _ _)⟩
 case round =>
  obtain ⟨i, o, rfl, rfl, hi, hb, hT⟩ := hrel
  by_cases hin : i < n
  ·have iI : (i : Int) < (n : Int) := by omega
   have i0 : (0 : Int) ≤ (i : Int) := by omega
   have i1 : IntKind.i64.wrap ((i : Int) + 1) = (i : Int) + 1 := by rw [IntKind.wrap_i64]; omega
   obtain ⟨x, hx⟩ : ∃ x, l[i]? = some x := ⟨_, List.getElem?_eq_getElem (by rw [HN.out]; exact hin)⟩
   have HSi := lH (HSu.out i x hx)
   have HSp' := HSp.out i (by rw [HN.out]; omega)
   have ho2 := HRow.out wr (HT0.out.trans hT.out)
   obtain ⟨g, rfl⟩ := slice_some ho2 (by omega)
   obtain ⟨t0, t1, t2, t3, t4, t5, t6, t7, t8⟩ := en_cells ho2 hx
   obtain ⟨⟨⟨xs, xh, xl⟩, xn⟩, ⟨hp, ⟨hs, hh, hl⟩, hw⟩⟩ := x
   obtain ⟨hd, hhd⟩ : ∃ b, hldP ((xs, xh, xl), xn) (ads, ah, al) = b := ⟨_, rfl⟩
   have HHo := lH (fun W => holds_at xs xh xl xn ads ah al HA.out.1 HA.out.2 hhd W)
   rw [hhd] at HSi
   obtain ⟨eb, heb⟩ : ∃ eb, wr.heap.size = eb := ⟨_, rfl⟩
   obtain ⟨W6, hW6⟩ : ∃ W, wr.alloc (.cells #[.bool xs, .int .u64 (xh : Int), .int .u64 (xl : Int), .int .i64 xn, .int .i64 hp, .bool hs, .int .u64 (hh : Int), .int .u64 (hl : Int), .bool hw] 70) = W := ⟨_, rfl⟩
   have hE6 : Blk W6 eb 70 #[.bool xs, .int .u64 (xh : Int), .int .u64 (xl : Int), .int .i64 xn, .int .i64 hp, .bool hs, .int .u64 (hh : Int), .int .u64 (hl : Int), .bool hw] := hW6 ▸ heb ▸ Blk.new wr _ _
   have HT6 : Hid (Tch W0 W6 []) := lH (hW6 ▸ hT.out.alloc _)
   have HE := lH (fun W (hW : Tch W6 W []) => hW.blk hE6 (by simp))
   have HW6 := lH (And.intro hW6 heb)
   clear hx ho2 hhd hW6 heb hE6
   cases o with
   | none =>
    have HC := lH (fun W (hW : Tch W6 W []) => show ((W.cell? ⟨eb, 0, none⟩ = some (Value.bool xs) ∧ W.cell? ⟨eb, 1, none⟩ = some (Value.int .u64 (xh : Int)) ∧ W.cell? ⟨eb, 2, none⟩ = some (Value.int .u64 (xl : Int)) ∧ W.cell? ⟨eb, 3, none⟩ = some (Value.int .i64 xn)) ∧ (W.cell? ⟨ab, 0, none⟩ = some (Value.bool ads) ∧ W.cell? ⟨ab, 1, none⟩ = some (Value.int .u64 (ah : Int)) ∧ W.cell? ⟨ab, 2, none⟩ = some (Value.int .u64 (al : Int)))) from ⟨⟨((HE.out W hW).cell 0).trans rfl, ((HE.out W hW).cell 1).trans rfl, ((HE.out W hW).cell 2).trans rfl, ((HE.out W hW).cell 3).trans rfl⟩, (HX.out W (HT6.out.trans hW)).c3⟩)
    have HC0 := lH (HC.out _ (Tch.refl W6 []).drew)
    rw [hb.out] at HSi
    have HSi' := HSi.out
    simp only [Bool.and_true] at HSi'
    have HSj := lH HSi'
    simp only [bstV]
    clear HSi HSi' HSp'
    go_wp2_with fail
    rw [HW6.out.1, HW6.out.2]
    clear t0 t1 t2 t3 t4 t5 t6 t7 t8
    cases hd with
    | false =>
     have HSn : Hid (bstK l (ads, ah, al) (i + 1) = none) := lH (by rw [HSj.out]; rfl)
     refine wp_region_held_drew (S := (fun W => (W.cell? ⟨eb, 0, none⟩ = some (Value.bool xs) ∧ W.cell? ⟨eb, 1, none⟩ = some (Value.int .u64 (xh : Int)) ∧ W.cell? ⟨eb, 2, none⟩ = some (Value.int .u64 (xl : Int)) ∧ W.cell? ⟨eb, 3, none⟩ = some (Value.int .i64 xn)) ∧ (W.cell? ⟨ab, 0, none⟩ = some (Value.bool ads) ∧ W.cell? ⟨ab, 1, none⟩ = some (Value.int .u64 (ah : Int)) ∧ W.cell? ⟨ab, 2, none⟩ = some (Value.int .u64 (al : Int))))) (by kernel_rfl) ?_ (fun hHeld => ?_)
     ·(first | exact HC0.out | exact HC5.out)
     refine tkH 0 ?_
     refine tkH 1 ?_
     refine tkH 2 ?_
     refine wpAnyH_ready (rs := [3]) (by kernel_rfl) (by simp) ?_
     refine AllReadyH.cons (o := { dst := some 19, op := Go.Op.call { callee := Go.Callee.value (Go.Operand.func 69), args := #[Go.Operand.tmp 17, Go.Operand.tmp 18], argTypes := #[30, 28] }, type := 4, pos := "entries.go:13", after := #[{ on := 1, ground := Go.Ground.data }, { on := 2, ground := Go.Ground.data }], guard := none }) rfl (fun K hK => ?_) AllReadyH.nil
     go_simp
     (go_at_call 69; (with_reducible refine cZm (HHo.out _) ?_); rintro e w5 ⟨rfl, hb5⟩; have HT5 := lH ((Tch.of_below [] hb5).of_drew); have HC5 := lH (HC.out w5 HT5.out); clear hb5)
     go_wp2_with fail
     refine hK.out _ _ ?_ (fun hHeld => ?_)
     ·(first | exact HC0.out | exact HC5.out)
     clear hK K
     try simp only [Act.put, List.setIfInBounds_toArray, List.set_cons_zero, List.set_cons_succ]
     refine tkH 4 ?_
     refine tkO 5 ?_
     refine tkO 6 ?_
     refine tkO 7 ?_
     refine tkO 8 ?_
     refine tkO 9 ?_
     refine tkO 10 ?_
     refine tkO 11 ?_
     refine tkO 12 ?_
     refine tkO 13 ?_
     refine tkO 14 ?_
     refine tkO 15 ?_
     refine tkO 16 ?_
     refine tkO 17 ?_
     refine tkO 18 ?_
     refine tkH 19 ?_
     refine wpAnyH_done (by kernel_rfl) ?_ _
     go_wp2
     go_roundw
     case rel => exact ⟨i + 1, none, rfl, by go_num, hin, HSn, lH (HT6.out.trans HT5.out)⟩
     case measure => simp [intOf]; omega
    | true =>
     have HSn : Hid (bstK l (ads, ah, al) (i + 1) = some i) := lH (by rw [HSj.out]; rfl)
     refine wp_region_held_drew (S := (fun W => (W.cell? ⟨eb, 0, none⟩ = some (Value.bool xs) ∧ W.cell? ⟨eb, 1, none⟩ = some (Value.int .u64 (xh : Int)) ∧ W.cell? ⟨eb, 2, none⟩ = some (Value.int .u64 (xl : Int)) ∧ W.cell? ⟨eb, 3, none⟩ = some (Value.int .i64 xn)) ∧ (W.cell? ⟨ab, 0, none⟩ = some (Value.bool ads) ∧ W.cell? ⟨ab, 1, none⟩ = some (Value.int .u64 (ah : Int)) ∧ W.cell? ⟨ab, 2, none⟩ = some (Value.int .u64 (al : Int))))) (by kernel_rfl) ?_ (fun hHeld => ?_)
     ·(first | exact HC0.out | exact HC5.out)
     refine tkH 0 ?_
     refine tkH 1 ?_
     refine tkH 2 ?_
     refine wpAnyH_ready (rs := [3]) (by kernel_rfl) (by simp) ?_
     refine AllReadyH.cons (o := { dst := some 19, op := Go.Op.call { callee := Go.Callee.value (Go.Operand.func 69), args := #[Go.Operand.tmp 17, Go.Operand.tmp 18], argTypes := #[30, 28] }, type := 4, pos := "entries.go:13", after := #[{ on := 1, ground := Go.Ground.data }, { on := 2, ground := Go.Ground.data }], guard := none }) rfl (fun K hK => ?_) AllReadyH.nil
     go_simp
     (go_at_call 69; (with_reducible refine cZm (HHo.out _) ?_); rintro e w5 ⟨rfl, hb5⟩; have HT5 := lH ((Tch.of_below [] hb5).of_drew); have HC5 := lH (HC.out w5 HT5.out); clear hb5)
     go_wp2_with fail
     refine hK.out _ _ ?_ (fun hHeld => ?_)
     ·(first | exact HC0.out | exact HC5.out)
     clear hK K
     try simp only [Act.put, List.setIfInBounds_toArray, List.set_cons_zero, List.set_cons_succ]
     refine tkH 4 ?_
     refine tkH 5 ?_
     refine tkH 6 ?_
     refine tkH 7 ?_
     refine tkO 8 ?_
     refine tkO 9 ?_
     refine tkO 10 ?_
     refine tkO 11 ?_
     refine tkO 12 ?_
     refine tkO 13 ?_
     refine tkO 14 ?_
     refine tkO 15 ?_
     refine tkO 16 ?_
     refine tkO 17 ?_
     refine tkH 18 ?_
     refine tkH 19 ?_
     refine wpAnyH_done (by kernel_rfl) ?_ _
     go_wp2
     go_roundw
     case rel => exact ⟨i + 1, some i, rfl, by go_num, hin, HSn, lH (HT6.out.trans HT5.out)⟩
     case measure => simp [intOf]; omega
   | some b =>
    rw [hb.out] at HSi HSp'
    simp only at HSp'
    obtain ⟨y, hy, hbi, -, -, -⟩ := HSp'
    have hbn : b < n := by omega
    have bI : (b : Int) < (n : Int) := by omega
    have b0 : (0 : Int) ≤ (b : Int) := by omega
    have bl : ¬ (b : Int) < 0 := by omega
    have dl : decide ((b : Int) < 0) = false := decide_eq_false bl
    have hby : bitsE l b = y.1.2 := by unfold bitsE; rw [hy]; rfl
    obtain ⟨⟨⟨ys, yh, yl⟩, yn⟩, yhp⟩ := y
    have HTb := lH (fun W (hW : Tch W6 W []) => (en_cells (HRow.out W (HT0.out.trans (HT6.out.trans hW))) hy).2.2.2.1)
    obtain ⟨q, hq⟩ : ∃ q, decide (yn < xn) = q := ⟨_, rfl⟩
    have hq' : decide (xn > yn) = q := hq
    have HC := lH (fun W (hW : Tch W6 W []) => show ((W.cell? ⟨eb, 0, none⟩ = some (Value.bool xs) ∧ W.cell? ⟨eb, 1, none⟩ = some (Value.int .u64 (xh : Int)) ∧ W.cell? ⟨eb, 2, none⟩ = some (Value.int .u64 (xl : Int)) ∧ W.cell? ⟨eb, 3, none⟩ = some (Value.int .i64 xn)) ∧ (W.cell? ⟨ab, 0, none⟩ = some (Value.bool ads) ∧ W.cell? ⟨ab, 1, none⟩ = some (Value.int .u64 (ah : Int)) ∧ W.cell? ⟨ab, 2, none⟩ = some (Value.int .u64 (al : Int))) ∧ W.cell? ⟨g, b * 9 + 3, none⟩ = some (Value.int .i64 yn)) from ⟨⟨((HE.out W hW).cell 0).trans rfl, ((HE.out W hW).cell 1).trans rfl, ((HE.out W hW).cell 2).trans rfl, ((HE.out W hW).cell 3).trans rfl⟩, (HX.out W (HT6.out.trans hW)).c3, HTb.out W hW⟩)
    have HC0 := lH (HC.out _ (Tch.refl W6 []).drew)
    have HSi' := HSi.out
    simp only [hby, hq] at HSi'
    have HSj := lH HSi'
    have HQ := lH (And.intro hq hq')
    simp only [bstV]
    clear HSi HSi' hy hby hq hq'
    go_wp2_with fail
    rw [HW6.out.1, HW6.out.2]
    clear t0 t1 t2 t3 t4 t5 t6 t7 t8
    cases hd with
    | false =>
     have HSn : Hid (bstK l (ads, ah, al) (i + 1) = some b) := lH (by rw [HSj.out]; rfl)
     refine wp_region_held_drew (S := (fun W => (W.cell? ⟨eb, 0, none⟩ = some (Value.bool xs) ∧ W.cell? ⟨eb, 1, none⟩ = some (Value.int .u64 (xh : Int)) ∧ W.cell? ⟨eb, 2, none⟩ = some (Value.int .u64 (xl : Int)) ∧ W.cell? ⟨eb, 3, none⟩ = some (Value.int .i64 xn)) ∧ (W.cell? ⟨ab, 0, none⟩ = some (Value.bool ads) ∧ W.cell? ⟨ab, 1, none⟩ = some (Value.int .u64 (ah : Int)) ∧ W.cell? ⟨ab, 2, none⟩ = some (Value.int .u64 (al : Int))) ∧ W.cell? ⟨g, b * 9 + 3, none⟩ = some (Value.int .i64 yn))) (by kernel_rfl) ?_ (fun hHeld => ?_)
     ·(first | exact HC0.out | exact HC5.out)
     refine tkH 0 ?_
     refine tkH 1 ?_
     refine tkH 2 ?_
     refine wpAnyH_ready (rs := [3]) (by kernel_rfl) (by simp) ?_
     refine AllReadyH.cons (o := { dst := some 19, op := Go.Op.call { callee := Go.Callee.value (Go.Operand.func 69), args := #[Go.Operand.tmp 17, Go.Operand.tmp 18], argTypes := #[30, 28] }, type := 4, pos := "entries.go:13", after := #[{ on := 1, ground := Go.Ground.data }, { on := 2, ground := Go.Ground.data }], guard := none }) rfl (fun K hK => ?_) AllReadyH.nil
     go_simp
     (go_at_call 69; (with_reducible refine cZm (HHo.out _) ?_); rintro e w5 ⟨rfl, hb5⟩; have HT5 := lH ((Tch.of_below [] hb5).of_drew); have HC5 := lH (HC.out w5 HT5.out); clear hb5)
     go_wp2_with fail
     refine hK.out _ _ ?_ (fun hHeld => ?_)
     ·(first | exact HC0.out | exact HC5.out)
     clear hK K
     try simp only [Act.put, List.setIfInBounds_toArray, List.set_cons_zero, List.set_cons_succ]
     refine tkH 4 ?_
     refine tkO 5 ?_
     refine tkO 6 ?_
     refine tkO 7 ?_
     refine tkO 8 ?_
     refine tkO 9 ?_
     refine tkO 10 ?_
     refine tkO 11 ?_
     refine tkO 12 ?_
     refine tkO 13 ?_
     refine tkO 14 ?_
     refine tkO 15 ?_
     refine tkO 16 ?_
     refine tkO 17 ?_
     refine tkO 18 ?_
     refine tkH 19 ?_
     refine wpAnyH_done (by kernel_rfl) ?_ _
     go_wp2
     go_roundw
     case rel => exact ⟨i + 1, some b, rfl, by go_num, hin, HSn, lH (HT6.out.trans HT5.out)⟩
     case measure => simp [intOf]; omega
    | true =>
     have hq1 := HQ.out.1
     have hq2 := HQ.out.2
     cases q with
     | false =>
      have HSn : Hid (bstK l (ads, ah, al) (i + 1) = some b) := lH (by rw [HSj.out]; rfl)
      refine wp_region_held_drew (S := (fun W => (W.cell? ⟨eb, 0, none⟩ = some (Value.bool xs) ∧ W.cell? ⟨eb, 1, none⟩ = some (Value.int .u64 (xh : Int)) ∧ W.cell? ⟨eb, 2, none⟩ = some (Value.int .u64 (xl : Int)) ∧ W.cell? ⟨eb, 3, none⟩ = some (Value.int .i64 xn)) ∧ (W.cell? ⟨ab, 0, none⟩ = some (Value.bool ads) ∧ W.cell? ⟨ab, 1, none⟩ = some (Value.int .u64 (ah : Int)) ∧ W.cell? ⟨ab, 2, none⟩ = some (Value.int .u64 (al : Int))) ∧ W.cell? ⟨g, b * 9 + 3, none⟩ = some (Value.int .i64 yn))) (by kernel_rfl) ?_ (fun hHeld => ?_)
      ·(first | exact HC0.out | exact HC5.out)
      refine tkH 0 ?_
      refine tkH 1 ?_
      refine tkH 2 ?_
      refine wpAnyH_ready (rs := [3]) (by kernel_rfl) (by simp) ?_
      refine AllReadyH.cons (o := { dst := some 19, op := Go.Op.call { callee := Go.Callee.value (Go.Operand.func 69), args := #[Go.Operand.tmp 17, Go.Operand.tmp 18], argTypes := #[30, 28] }, type := 4, pos := "entries.go:13", after := #[{ on := 1, ground := Go.Ground.data }, { on := 2, ground := Go.Ground.data }], guard := none }) rfl (fun K hK => ?_) AllReadyH.nil
      go_simp
      (go_at_call 69; (with_reducible refine cZm (HHo.out _) ?_); rintro e w5 ⟨rfl, hb5⟩; have HT5 := lH ((Tch.of_below [] hb5).of_drew); have HC5 := lH (HC.out w5 HT5.out); clear hb5)
      go_wp2_with fail
      refine hK.out _ _ ?_ (fun hHeld => ?_)
      ·(first | exact HC0.out | exact HC5.out)
      clear hK K
      try simp only [Act.put, List.setIfInBounds_toArray, List.set_cons_zero, List.set_cons_succ]
      refine tkH 4 ?_
      refine tkH 5 ?_
      refine tkH 6 ?_
      refine tkH 7 ?_
      refine tkH 8 ?_
      refine tkH 9 ?_
      refine tkH 10 ?_
      refine tkH 11 ?_
      refine tkH 12 ?_
      refine tkH 13 ?_
      refine tkH 14 ?_
      refine tkH 15 ?_
      refine tkH 16 ?_
      refine tkH 17 ?_
      refine tkH 18 ?_
      refine tkH 19 ?_
      refine wpAnyH_done (by kernel_rfl) ?_ _
      clear hq1 hq2
      go_wp2
      go_roundw
      case rel => exact ⟨i + 1, some b, rfl, by go_num, hin, HSn, lH (HT6.out.trans HT5.out)⟩
      case measure => simp [intOf]; omega
     | true =>
      have HSn : Hid (bstK l (ads, ah, al) (i + 1) = some i) := lH (by rw [HSj.out]; rfl)
      refine wp_region_held_drew (S := (fun W => (W.cell? ⟨eb, 0, none⟩ = some (Value.bool xs) ∧ W.cell? ⟨eb, 1, none⟩ = some (Value.int .u64 (xh : Int)) ∧ W.cell? ⟨eb, 2, none⟩ = some (Value.int .u64 (xl : Int)) ∧ W.cell? ⟨eb, 3, none⟩ = some (Value.int .i64 xn)) ∧ (W.cell? ⟨ab, 0, none⟩ = some (Value.bool ads) ∧ W.cell? ⟨ab, 1, none⟩ = some (Value.int .u64 (ah : Int)) ∧ W.cell? ⟨ab, 2, none⟩ = some (Value.int .u64 (al : Int))) ∧ W.cell? ⟨g, b * 9 + 3, none⟩ = some (Value.int .i64 yn))) (by kernel_rfl) ?_ (fun hHeld => ?_)
      ·(first | exact HC0.out | exact HC5.out)
      refine tkH 0 ?_
      refine tkH 1 ?_
      refine tkH 2 ?_
      refine wpAnyH_ready (rs := [3]) (by kernel_rfl) (by simp) ?_
      refine AllReadyH.cons (o := { dst := some 19, op := Go.Op.call { callee := Go.Callee.value (Go.Operand.func 69), args := #[Go.Operand.tmp 17, Go.Operand.tmp 18], argTypes := #[30, 28] }, type := 4, pos := "entries.go:13", after := #[{ on := 1, ground := Go.Ground.data }, { on := 2, ground := Go.Ground.data }], guard := none }) rfl (fun K hK => ?_) AllReadyH.nil
      go_simp
      (go_at_call 69; (with_reducible refine cZm (HHo.out _) ?_); rintro e w5 ⟨rfl, hb5⟩; have HT5 := lH ((Tch.of_below [] hb5).of_drew); have HC5 := lH (HC.out w5 HT5.out); clear hb5)
      go_wp2_with fail
      refine hK.out _ _ ?_ (fun hHeld => ?_)
      ·(first | exact HC0.out | exact HC5.out)
      clear hK K
      try simp only [Act.put, List.setIfInBounds_toArray, List.set_cons_zero, List.set_cons_succ]
      refine tkH 4 ?_
      refine tkH 5 ?_
      refine tkH 6 ?_
      refine tkH 7 ?_
      refine tkH 8 ?_
      refine tkH 9 ?_
      refine tkH 10 ?_
      refine tkH 11 ?_
      refine tkH 12 ?_
      refine tkH 13 ?_
      refine tkH 14 ?_
      refine tkH 15 ?_
      refine tkH 16 ?_
      refine tkH 17 ?_
      refine tkH 18 ?_
      refine tkH 19 ?_
      refine wpAnyH_done (by kernel_rfl) ?_ _
      clear hq1 hq2
      go_wp2
      go_roundw
      case rel => exact ⟨i + 1, some i, rfl, by go_num, hin, HSn, lH (HT6.out.trans HT5.out)⟩
      case measure => simp [intOf]; omega
  ·obtain rfl : i = n := by omega
   have iI : ¬ (i : Int) < (i : Int) := by omega
   have HRi := lH (HR.out wr hT.out)
   have HTw := lH (HT0.out.trans hT.out)
   have HSz' := lH HSz.out
   cases o with
   | none =>
    have HO : Hid (o9 = none) := lH (by rw [HLk.out, HN.out, hb.out])
    simp only [bstV]
    go_wp2_with (refine wpList_sta rfl 43 (.tmp 4) (.tmp 40) rfl rb 0 #[.int .i64 0, .bool false, .int .u64 0, .int .u64 0, .bool false] rfl rfl 43 _ HRi.out 5 hpSz rfl (show 0 + 5 ≤ 5 from by decide) (by simp [Value.oneCell']) ?_; intro w6 hs6; have HS6 := lH hs6; clear hs6)
    obtain ⟨z0, z1, z2, z3, z4⟩ := (sta_whole HS6.out rfl).h5
    exact bodyPost_ret (v := .tuple #[.agg #[.int .i64 0, .bool false, .int .u64 0, .int .u64 0, .bool false], .bool false]) (by simp [results, Tryz.results29, go_sem, z0, z1, z2, z3, z4]) rfl ⟨by rw [HO.out]; rfl, HTw.out.trans_fre HS6.out.tch (by simp; have := HSz'.out; omega)⟩
   | some b =>
    have HSp' := HSp.out i (by rw [HN.out]; omega)
    rw [hb.out] at HSp'
    simp only at HSp'
    obtain ⟨y, hy, hbi, -, -, -⟩ := HSp'
    have bI : (b : Int) < (i : Int) := by omega
    have b0 : (0 : Int) ≤ (b : Int) := by omega
    have bl : ¬ (b : Int) < 0 := by omega
    have HO : Hid (o9 = some y.2) := lH (by rw [HLk.out, HN.out, hb.out]; simp only; rw [hy]; rfl)
    have ho2 := HRow.out wr HTw.out
    obtain ⟨g, rfl⟩ := slice_some ho2 (by omega)
    obtain ⟨t0, t1, t2, t3, t4, t5, t6, t7, t8⟩ := en_cells ho2 hy
    obtain ⟨yp, ⟨hp, ⟨hs, hh, hl⟩, hw⟩⟩ := y
    simp only [bstV]
    clear ho2 hy hbi hi
    go_wp2_with (refine wpList_sta rfl 43 (.tmp 4) (.tmp 45) rfl rb 0 #[.int .i64 hp, .bool hs, .int .u64 (hh : Int), .int .u64 (hl : Int), .bool hw] rfl rfl 43 _ HRi.out 5 hpSz rfl (show 0 + 5 ≤ 5 from by decide) (by simp [Value.oneCell']) ?_; intro w6 hs6; have HS6 := lH hs6; clear hs6)
    obtain ⟨z0, z1, z2, z3, z4⟩ := (sta_whole HS6.out rfl).h5
    exact bodyPost_ret (v := .tuple #[.agg #[.int .i64 hp, .bool hs, .int .u64 (hh : Int), .int .u64 (hl : Int), .bool hw], .bool true]) (by simp [results, Tryz.results29, go_sem, z0, z1, z2, z3, z4]) rfl ⟨by rw [HO.out]; rfl, HTw.out.trans_fre HS6.out.tch (by simp; have := HSz'.out; omega)⟩
end Go.Proofs.YtgfkmgbcajdcdaaGreatDoor

namespace Go.Proofs.YtgfkmgbcajdcdaaGreatDoor
open Go.RowKit

end Go.Proofs.YtgfkmgbcajdcdaaGreatDoor

namespace Go.Proofs.YtgfkmgbcajdcdaaGreatDoor
open Go.ChangeShapes Go.WideShapes Go.ChangeAt Go.RowKit

theorem own : ownKnob Tryz.prog.godebug = none := by kernel_rfl
theorem laidOut : laidOutB Tryz.prog = true := by kernel_rfl

section
variable {H : Type} {P : Program} {enc : TypeId × Value → H} {W : World}
end
end Go.Proofs.YtgfkmgbcajdcdaaGreatDoor
