/-
  Several texts in one: IpC, IpD, IpK, IpL, IpM.
-/
import Derived.Test.YtgfkmgbcajdcdaaGreatDoorZak
import Derived.Test.YtgfkmgbcajdcdaaGreatDoorZaz
import Derived.Lib.SliceRun
import Derived.Shelf.Abstract
import Derived.Test.YtgfkmgbcajdcdaaGreatDoorZai
import Derived.Laws.IdiomCopy
import Derived.Test.YtgfkmgbcajdcdaaGreatDoorZaa
set_option linter.unusedVariables false
set_option maxRecDepth 100000
set_option maxHeartbeats 16000000
namespace Go.Proofs.YtgfkmgbcajdcdaaGreatDoor.Ifs
open Go.RowKit Go.Maps

theorem infoMm : (Tryz.prog.info? 134).map (fun i => (i.zero, i.size, i.bytes)) = some (some (.agg #[.string ⟨#[]⟩, .int .u64 0, .int .i64 0, .bool false, .slice none 0 0]), 5, 64) := by kernel_rfl
abbrev lcV (x : Loc) : Value := .agg #[.bool x.1.1, .int .u64 (x.1.2.1 : Int), .int .u64 (x.1.2.2 : Int), .int .i64 x.2]
theorem find1_any (a : AdI) (xb : Nat) (x : Loc) (w : World) (hB : Blk w xb 28 #[.bool a.1, .int .u64 (a.2.1 : Int), .int .u64 (a.2.2 : Int)]) :
  Calls Tryz.prog 198 #[lcV x, .pointer (some ⟨xb, 0, none⟩)] w fun e w' => e = .returned (.bool (isA a x)) ∧ Tch w w' [] := by
 obtain ⟨b, hb⟩ : ∃ b, decide (x.1 = a) = b := ⟨_, rfl⟩
 have HQ := eqA_eql 28 _ _ (eq_adI x.1 a hb)
 have HE : Hid (isA a x = b) := lH hb
 obtain ⟨⟨xs, xh, xl⟩, xbt⟩ := x
 obtain ⟨s, ah, al⟩ := a
 have HQ : ∀ W, (binOp .eql 28 (.agg #[.bool xs, .int .u64 (xh : Int), .int .u64 (xl : Int)]) (.agg #[.bool s, .int .u64 (ah : Int), .int .u64 (al : Int)])).run Tryz.prog W = .ok (.bool b) W := HQ
 have HT0 : Hid (Tch w (w.alloc (.cells #[.bool xs, .int .u64 (xh : Int), .int .u64 (xl : Int), .int .i64 xbt] 202)) []) := lH ((Tch.refl w []).alloc _)
 have hX := HT0.out.blk hB (by simp)
 have x0 := (hX.cell 0).trans (show _ = some (Value.bool s) by rfl)
 have x1 := (hX.cell 1).trans (show _ = some (Value.int .u64 (ah : Int)) by rfl)
 have x2 := (hX.cell 2).trans (show _ = some (Value.int .u64 (al : Int)) by rfl)
 clear hB hb hX
 go_enter Tryz.func198, Tryz.ntmps198
 go_wp2
 go_ret
 exact ⟨by rw [HE.out]; rfl, HT0.out⟩
theorem idx_lc (a : AdI) (xb : Nat) (A : Option Addr) (n c : Nat) (l : List Loc) (hl : l.length = n) (hn : n ≤ 1000) (w : World) (hB : Blk w xb 28 #[.bool a.1, .int .u64 (a.2.1 : Int), .int .u64 (a.2.2 : Int)]) (h : w.ownsRow 0 202 4 (.slice A n c) n (l.flatMap lcC)) :
  Calls Tryz.prog 197 #[.slice A n c, .func (.func 198) #[] #[.pointer (some ⟨xb, 0, none⟩)]] w fun e w' => e = .returned (.int .i64 (((fndI (isA a) l : Nat) : Int) - 1)) ∧ Tch w w' [] := by
 have eg : ∀ args W, (callFunc 198 args).run Tryz.prog W = .ok (.enter 198 args) W := enters_of Tryz.func198 (by kernel_rfl) rfl
 have HL := lH hl
 have HF := lH (fun x W hT => find1_any a xb x W (Tch.blk (S := []) (w := w) hT hB (by simp)))
 have HO := lH h
 clear hB h hl
 go_enter Tryz.func197, Tryz.ntmps197
 go_wp2
 go_loopw [5, 8] (fun _ kv wr => ∃ k : Nat, kv = .int .i64 (k : Int) ∧ k ≤ n ∧ Hid (∀ (j : Nat) (x : Loc), j < k → l[j]? = some x → isA a x = false) ∧ Hid (Tch w wr [])) (fun _ kv _ => n - (intOf kv).toNat)
 case atStart => exact ⟨0, rfl, Nat.zero_le _, lH (fun j x hj => absurd hj (by omega)), lH (Tch.refl _ _)⟩
 case round =>
  obtain ⟨k, rfl, hk, hA, hT⟩ := hrel
  have k1 : IntKind.i64.wrap ((k : Int) + 1) = (k : Int) + 1 := by rw [IntKind.wrap_i64]; omega
  by_cases hkn : k < n
  ·have kI : (k : Int) < (n : Int) := by omega
   have k0 : (0 : Int) ≤ (k : Int) := by omega
   obtain ⟨x, hx⟩ : ∃ x, l[k]? = some x := ⟨_, List.getElem?_eq_getElem (by rw [HL.out]; exact hkn)⟩
   have d3 := own_tch HO.out hT.out (by simp)
   obtain ⟨gx, rfl⟩ := slice_some d3 (by omega)
   have x0 : wr.cell? ⟨gx, k * 4, none⟩ = some (.bool x.1.1) := own_cellN d3 ((flat4_at (f := lcC) (fun _ => rfl) hx (k := 0) (by decide)).trans rfl)
   have x1 := own_cellN d3 ((flat4_at (f := lcC) (fun _ => rfl) hx (k := 1) (by decide)).trans (show _ = some (Value.int .u64 (x.1.2.1 : Int)) by rfl))
   have x2 := own_cellN d3 ((flat4_at (f := lcC) (fun _ => rfl) hx (k := 2) (by decide)).trans (show _ = some (Value.int .u64 (x.1.2.2 : Int)) by rfl))
   have x3 := own_cellN d3 ((flat4_at (f := lcC) (fun _ => rfl) hx (k := 3) (by decide)).trans (show _ = some (Value.int .i64 x.2) by rfl))
   have HC := lH (HF.out x wr hT.out)
   have Hx := lH hx
   obtain ⟨b, hb⟩ : ∃ b, isA a x = b := ⟨_, rfl⟩
   rw [hb] at HC
   have HBb := lH hb
   clear d3 hx hb
   cases b with
   | true =>
    have HR : Hid (fndI (isA a) l = k + 1) := lH (fndI_succ.2 ⟨⟨x, Hx.out, HBb.out⟩, hA.out⟩)
    go_wp2_with (go_at_fn 198; refine cZm HC.out ?_; rintro e w' ⟨rfl, hT'⟩; have HT' := lH hT'; clear hT')
    go_ret
    exact ⟨by rw [HR.out]; simp, hT.out.trans HT'.out⟩
   | false =>
    go_wp2_with (go_at_fn 198; refine cZm HC.out ?_; rintro e w' ⟨rfl, hT'⟩; have HT' := lH hT'; clear hT')
    go_roundw
    case rel => exact ⟨k + 1, by go_num, hkn, lH (fun j y hj hy => by
     rcases Nat.lt_or_ge j k with h1 | h1
     ·exact hA.out j y h1 hy
     ·obtain rfl : j = k := by omega
      rw [Hx.out] at hy
      injection hy with hy
      subst hy
      exact HBb.out), lH (hT.out.trans HT'.out)⟩
    case measure => simp [intOf]; omega
  ·obtain rfl : k = n := by omega
   have kI : ¬ (k : Int) < (k : Int) := by omega
   have HR : Hid (fndI (isA a) l = 0) := lH (fndI_zero.2 fun j y hy => hA.out j y (by rw [← HL.out]; exact (List.getElem?_eq_some_iff.1 hy).1) hy)
   clear hkn hk
   go_wp2
   go_ret
   exact ⟨by rw [HR.out]; rfl, hT.out⟩
end Go.Proofs.YtgfkmgbcajdcdaaGreatDoor.Ifs

namespace Go.Proofs.YtgfkmgbcajdcdaaGreatDoor.Ifs
open Go.RowKit Go.Maps

abbrev mmV (q : Prt) (v : Value) : Value := .agg #[.string q.1, .int .u64 q.2.1, .int .i64 q.2.2.1, .bool q.2.2.2, v]
theorem find_any (q : Prt) (a : AdI) (A : Option Addr) (n c : Nat) (l : List Loc) (hl : l.length = n) (hn : n ≤ 1000) (w : World) (h : w.ownsRow 0 202 4 (.slice A n c) n (l.flatMap lcC)) :
  Calls Tryz.prog 169 #[mmV q (.slice A n c), adV a] w fun e w' => e = .returned (.int .i64 (((fndI (isA a) l : Nat) : Int) - 1)) ∧ Tch w w' [] := by
 have HI := lH (fun W xb (hT : Tch w W []) hB => idx_lc a xb A n c l hl hn W hB (own_tch h hT (by simp)))
 obtain ⟨s, ah, al⟩ := a
 obtain ⟨qn, qm, qt, qu⟩ := q
 have HB : Hid (Blk ((w.alloc (.cells #[.string qn, .int .u64 qm, .int .i64 qt, .bool qu, .slice A n c] 134)).alloc (.cells #[.bool s, .int .u64 (ah : Int), .int .u64 (al : Int)] 28)) (w.heap.size + 1) 28 #[.bool s, .int .u64 (ah : Int), .int .u64 (al : Int)]) := lH (by
  have := Blk.new (w.alloc (.cells #[.string qn, .int .u64 qm, .int .i64 qt, .bool qu, .slice A n c] 134)) 28 #[.bool s, .int .u64 (ah : Int), .int .u64 (al : Int)]
  rw [zA] at this
  exact this)
 clear h hl hn
 go_enter Tryz.func169, Tryz.ntmps169
 go_wp2_with fail
 refine cZm (HI.out _ _ (((Tch.refl w []).alloc _).alloc _) HB.out) ?_
 rintro e w' ⟨rfl, hT⟩
 have HT := lH hT
 clear hT
 go_wp2
 go_ret
 exact ⟨rfl, (((Tch.refl w []).alloc _).alloc _).trans HT.out⟩
theorem mine1_any (q : Prt) (a : AdI) (xb : Nat) (A : Option Addr) (n c : Nat) (l : List Loc) (hl : l.length = n) (hn : n ≤ 1000) (w : World) (hB : Blk w xb 28 #[.bool a.1, .int .u64 (a.2.1 : Int), .int .u64 (a.2.2 : Int)]) (h : w.ownsRow 0 202 4 (.slice A n c) n (l.flatMap lcC)) :
  Calls Tryz.prog 200 #[mmV q (.slice A n c), .pointer (some ⟨xb, 0, none⟩)] w fun e w' => e = .returned (.bool (l.any (isA a))) ∧ Tch w w' [] := by
 have HI := lH (fun W (hT : Tch w W []) => find_any q a A n c l hl hn W (own_tch h hT (by simp)))
 obtain ⟨z, hz⟩ : ∃ z : Int, ((fndI (isA a) l : Nat) : Int) - 1 = z := ⟨_, rfl⟩
 have HZ : Hid (decide ((0 : Int) ≤ z) = l.any (isA a)) := lH (by rw [← hz]; exact fndI_any)
 rw [hz] at HI
 obtain ⟨s, ah, al⟩ := a
 obtain ⟨qn, qm, qt, qu⟩ := q
 have HT0 : Hid (Tch w (w.alloc (.cells #[.string qn, .int .u64 qm, .int .i64 qt, .bool qu, .slice A n c] 134)) []) := lH ((Tch.refl w []).alloc _)
 have hX := HT0.out.blk hB (by simp)
 have x0 := (hX.cell 0).trans (show _ = some (Value.bool s) by rfl)
 have x1 := (hX.cell 1).trans (show _ = some (Value.int .u64 (ah : Int)) by rfl)
 have x2 := (hX.cell 2).trans (show _ = some (Value.int .u64 (al : Int)) by rfl)
 clear h hl hn hz hB hX
 go_enter Tryz.func200, Tryz.ntmps200
 go_wp2_with fail
 refine cZm (HI.out _ HT0.out) ?_
 rintro e w' ⟨rfl, hT⟩
 have HT := lH (HT0.out.trans hT)
 clear hT x0 x1 x2
 go_wp2
 go_ret
 exact ⟨by rw [← HZ.out]; rfl, HT.out⟩
theorem idx_mm (p : Nat) (S : List Nat) (st : StI) (a : AdI) (xb : Nat) (AM : Option Addr) (cM n : Nat) (hn : st.1.length = n) (w : World) (h : IfP w p S st) (hB : Blk w xb 28 #[.bool a.1, .int .u64 (a.2.1 : Int), .int .u64 (a.2.2 : Int)]) (c0 : w.cell? ⟨p, 0, none⟩ = some (.slice AM n cM)) :
  Calls Tryz.prog 199 #[.slice AM n cM, .func (.func 200) #[] #[.pointer (some ⟨xb, 0, none⟩)]] w fun e w' => e = .returned (.int .i64 (((mineI st.2 a : Nat) : Int) - 1)) ∧ Tch w w' [] := by
 have eg : ∀ args W, (callFunc 200 args).run Tryz.prog W = .ok (.enter 200 args) W := enters_of Tryz.func200 (by kernel_rfl) rfl
 have hf : n ≤ 8 := by rw [← hn]; exact h.few
 have HN2 : Hid (st.2.length = n) := lH (by rw [← hn]; exact h.inv.len.symm)
 have HN := lH hn
 have HC0 := lH c0
 have HH := lH h
 have HF := lH (fun q A c l W (hT : Tch w W []) (hl : List.length l ≤ 8) hO => mine1_any q a xb A l.length c l rfl (by omega) W (hT.blk hB (by simp)) hO)
 have HPl : Hid (p < w.heap.size) := lH (h.lt p h.pin)
 clear hB h c0 hn
 go_enter Tryz.func199, Tryz.ntmps199
 go_wp2
 go_loopw [5, 8] (fun _ kv wr => ∃ k : Nat, kv = .int .i64 (k : Int) ∧ k ≤ n ∧ Hid (∀ (j : Nat) (l : List Loc), j < k → st.2[j]? = some l → l.any (isA a) = false) ∧ Hid (Tch w wr [])) (fun _ kv _ => n - (intOf kv).toNat)
 case atStart => exact ⟨0, rfl, Nat.zero_le _, lH (fun j x hj => absurd hj (by omega)), lH (Tch.refl _ _)⟩
 case round =>
  obtain ⟨k, rfl, hk, hA, hT⟩ := hrel
  have k1 : IntKind.i64.wrap ((k : Int) + 1) = (k : Int) + 1 := by rw [IntKind.wrap_i64]; omega
  by_cases hkn : k < n
  ·have kI : (k : Int) < (n : Int) := by omega
   have k0 : (0 : Int) ≤ (k : Int) := by omega
   obtain ⟨gM, cM', c, A, q, l, d0, hq, hl, x0, x1, x2, x3, x4, hO, hl8, hpl, hgl, hfz, hgS⟩ := (HH.out.tch hT.out (by simp)).at_ (i := k) (by rw [HN.out]; exact hkn)
   rw [(hT.out.cell (p := ⟨p, 0, none⟩) HPl.out (by simp)).trans HC0.out] at d0
   injection d0 with d0
   injection d0 with d1 d2 d3
   subst d1
   have HC := lH (HF.out q A c l wr hT.out hl8 hO)
   have Hl := lH hl
   obtain ⟨m, hm⟩ : ∃ m, l.length = m := ⟨_, rfl⟩
   rw [hm] at x4 HC
   obtain ⟨b, hb⟩ : ∃ b, l.any (isA a) = b := ⟨_, rfl⟩
   rw [hb] at HC
   have HBb := lH hb
   obtain ⟨qn, qm, qt, qu⟩ := q
   clear hq hl hO hl8 hpl hgl hfz hgS hb hm d2 d3
   cases b with
   | true =>
    have HR : Hid (mineI st.2 a = k + 1) := lH (fndI_succ.2 ⟨⟨l, Hl.out, HBb.out⟩, hA.out⟩)
    go_wp2_with (go_at_fn 200; refine cZm HC.out ?_; rintro e w' ⟨rfl, hT'⟩; have HT' := lH hT'; clear hT')
    go_ret
    exact ⟨by rw [HR.out]; simp, hT.out.trans HT'.out⟩
   | false =>
    go_wp2_with (go_at_fn 200; refine cZm HC.out ?_; rintro e w' ⟨rfl, hT'⟩; have HT' := lH hT'; clear hT')
    go_roundw
    case rel => exact ⟨k + 1, by go_num, hkn, lH (fun j y hj hy => by
     rcases Nat.lt_or_ge j k with h1 | h1
     ·exact hA.out j y h1 hy
     ·obtain rfl : j = k := by omega
      rw [Hl.out] at hy
      injection hy with hy
      subst hy
      exact HBb.out), lH (hT.out.trans HT'.out)⟩
    case measure => simp [intOf]; omega
  ·obtain rfl : k = n := by omega
   have kI : ¬ (k : Int) < (k : Int) := by omega
   have HR : Hid (mineI st.2 a = 0) := lH (fndI_zero.2 fun j y hy => hA.out j y (by rw [← HN2.out]; exact (List.getElem?_eq_some_iff.1 hy).1) hy)
   clear hkn hk
   go_wp2
   go_ret
   exact ⟨by rw [HR.out]; rfl, hT.out⟩
theorem pmine_any (p : Nat) (S : List Nat) (st : StI) (a : AdI) (w : World) (h : IfP w p S st) :
  Calls Tryz.prog 172 #[.pointer (some ⟨p, 0, none⟩), adV a] w fun e w' => e = .returned (.int .i64 (mineI st.2 a : Int)) ∧ Tch w w' [] := by
 obtain ⟨W0, hW0⟩ : ∃ W, w.alloc (.cells #[.bool a.1, .int .u64 (a.2.1 : Int), .int .u64 (a.2.2 : Int)] 28) = W := ⟨_, rfl⟩
 obtain ⟨xb, hxb⟩ : ∃ xb, w.heap.size = xb := ⟨_, rfl⟩
 have hX : Blk W0 xb 28 #[.bool a.1, .int .u64 (a.2.1 : Int), .int .u64 (a.2.2 : Int)] := hW0 ▸ hxb ▸ Blk.new _ _ _
 have HT0 : Hid (Tch w W0 []) := lH (hW0 ▸ (Tch.refl w []).alloc _)
 have hD0 := h.tch HT0.out (by simp)
 obtain ⟨AM, cM, m, D, c0, -⟩ := hD0.head
 obtain ⟨n, hn⟩ : ∃ n, st.1.length = n := ⟨_, rfl⟩
 rw [hn] at c0
 have HI := lH (idx_mm p S st a xb AM cM n hn W0 hD0 hX c0)
 obtain ⟨z, hz⟩ : ∃ z : Int, ((mineI st.2 a : Nat) : Int) - 1 = z := ⟨_, rfl⟩
 rw [hz] at HI
 obtain ⟨M, hM⟩ : ∃ M : Int, ((mineI st.2 a : Nat) : Int) = M := ⟨_, rfl⟩
 have hlt : mineI st.2 a ≤ st.2.length := fndI_le _ _
 have j1 : IntKind.i64.wrap (1 + z) = M := by have := h.inv.len; have := h.few; rw [IntKind.wrap_i64]; omega
 rw [hM]
 have c0 : (w.alloc (.cells #[.bool a.1, .int .u64 (a.2.1 : Int), .int .u64 (a.2.2 : Int)] 28)).cell? ⟨p, 0, none⟩ = some (.slice AM n cM) := by rw [hW0]; exact c0
 have HW0 := lH (And.intro hW0 hxb)
 obtain ⟨s, ah, al⟩ := a
 clear h hD0 hn hz hM hlt hX hW0 hxb
 go_enter Tryz.func172, Tryz.ntmps172
 go_wp2_with fail
 rw [HW0.out.1, HW0.out.2]
 refine cZm HI.out ?_
 rintro e w' ⟨rfl, hT⟩
 have HT := lH (HT0.out.trans hT)
 clear hT c0
 go_wp2
 go_ret
 exact ⟨rfl, HT.out⟩
end Go.Proofs.YtgfkmgbcajdcdaaGreatDoor.Ifs

namespace Go.Proofs.YtgfkmgbcajdcdaaGreatDoor.Ifs
open Go.RowKit Go.Maps

theorem IfP.inner {w W W7 : World} {p : Nat} {S : List Nat} {st : StI} (h : IfP w p S st) {i gM cM n c k : Nat} {A : Option Addr} (hi : i < st.1.length) (hc0 : w.cell? ⟨p, 0, none⟩ = some (.slice (some ⟨gM, 0, none⟩) n cM)) (hc4 : w.cell? ⟨gM, i * 5 + 4, none⟩ = some (.slice A k c))
  (hT : Tch w W []) (hT7 : Tch W W7 (obI (.slice A k c))) {A' : Option Addr} {c' k' : Nat} {l' : List Loc} (hl' : l'.length = k') (hown : W7.ownsRow 0 202 4 (.slice A' k' c') k' (l'.flatMap lcC)) (hob : ∀ s ∈ obI (.slice A' k' c'), s ∈ obI (.slice A k c) ∨ w.heap.size ≤ s) (hinv : InvI (st.1, st.2.set i l')) :
  W7.cell? ⟨p, 0, none⟩ = some (.slice (some ⟨gM, 0, none⟩) n cM) ∧ (∃ u, W7.cell? ⟨gM, i * 5 + 4, none⟩ = some u) ∧ W7.frozen? ⟨gM, i * 5 + 4, none⟩ = false ∧
   ∃ S', IfP (W7.setCell ⟨gM, i * 5 + 4, none⟩ (.slice A' k' c')) p S' (st.1, st.2.set i l') ∧ Goes w (W7.setCell ⟨gM, i * 5 + 4, none⟩ (.slice A' k' c')) S S' := by
 subst hl'
 have hlt := h.lt
 obtain ⟨AM, cM', m, lv, D, rfl, h2, h3, h4, h5, h6, h7, h8, h9⟩ := h
 rw [(h3.cell 0).trans (show _ = some (Value.slice AM st.1.length cM') by rfl)] at hc0
 injection hc0 with hc
 injection hc with hc hcn hcc
 subst hc hcc hcn
 have hlen := h9.len
 obtain ⟨q, hq⟩ : ∃ q, st.1[i]? = some q := ⟨_, List.getElem?_eq_getElem hi⟩
 obtain ⟨l, hl⟩ : ∃ l, st.2[i]? = some l := ⟨_, List.getElem?_eq_getElem (by omega)⟩
 obtain ⟨A0, c0, e, ho⟩ := h8 i l hl
 have x4 := own_cellN h4 ((mm_at (k := 4) hq e (by decide)).trans (show _ = some (Value.slice A0 l.length c0) by rfl))
 rw [x4] at hc4
 injection hc4 with hc4
 injection hc4 with g1 g2 g3
 subst g1 g2 g3
 have ob0 : obI (.slice (some ⟨gM, 0, none⟩) st.1.length cM') = [gM] := rfl
 rw [ob0] at h2 hlt ⊢
 have hnd := h2
 rw [List.nodup_cons, List.nodup_cons, List.singleton_append, List.nodup_cons] at hnd
 obtain ⟨n1, n2, n3, n4⟩ := hnd
 have hin : ∀ s ∈ obI (.slice A0 l.length c0), s ∈ lv.flatMap obI := fun s hs => List.mem_flatMap.2 ⟨_, List.mem_of_getElem? e, hs⟩
 have hltI : ∀ s ∈ lv.flatMap obI, s < w.heap.size := fun s hs => hlt s (List.mem_cons_of_mem _ (List.mem_cons_of_mem _ (List.mem_append_right _ hs)))
 obtain ⟨f1, f2⟩ := flat_set2 (v := .slice A' l'.length c') n4 e hltI hob
 have hgl : gM < w.heap.size := hlt gM (by simp)
 have hml : m < w.heap.size := hlt m (by simp)
 have hpl : p < w.heap.size := hlt p (by simp)
 have pn : p ∉ obI (.slice A0 l.length c0) := fun hm => n1 (List.mem_cons_of_mem _ (List.mem_cons_of_mem _ (hin p hm)))
 have mn : m ∉ obI (.slice A0 l.length c0) := fun hm => n2 (List.mem_cons_of_mem _ (hin m hm))
 have gn : gM ∉ obI (.slice A0 l.length c0) := fun hm => n3 (hin gM hm)
 have pg : p ≠ gM := fun x => n1 (by simp [x])
 have mg : m ≠ gM := fun x => n2 (by simp [x])
 have hTs : Tch W7 (W7.setCell ⟨gM, i * 5 + 4, none⟩ (.slice A' l'.length c')) [gM] := (Tch.refl W7 [gM]).set_ (p := ⟨gM, i * 5 + 4, none⟩) (by simp) _
 have b7 := hT7.blk (hT.blk h3 (by simp)) pn
 have r7 := own_tch (own_tch h4 hT (fun s _ => by simp)) hT7 (fun s hs => by rw [ob0] at hs; rw [List.mem_singleton.1 hs]; exact gn)
 have m7 := map_tch (map_tch h5 hT (by simp)) hT7 mn
 have x7 := own_cellN r7 ((mm_at (k := 4) hq e (by decide)).trans (show _ = some (Value.slice A0 l.length c0) by rfl))
 have fz : W7.frozen? ⟨gM, i * 5 + 4, none⟩ = false := by
  rcases r7.2 with ⟨e, -⟩ | ⟨g', cap, cur, e, -, hb, -⟩
  ·cases e
  ·injection e with e2
   injection e2 with e2
   injection e2 with e2
   subst e2
   exact Blk.frozen hb _
 have hset := own_setN r7 (i := i * 5 + 4) (by omega) (.slice A' l'.length c')
 rw [mm_set (p' := q) (v' := .slice A' l'.length c') h7 hq e (by decide) rfl, set_same hq] at hset
 refine ⟨(b7.cell 0).trans rfl, ⟨_, x7⟩, fz, p :: m :: ([gM] ++ (lv.set i (.slice A' l'.length c')).flatMap obI), ⟨some ⟨gM, 0, none⟩, cM', m, lv.set i (.slice A' l'.length c'), D, by rw [ob0], ?_, ?_, hset, map_tch m7 hTs (by simpa using mg), h6, by simp [h7], fun j l2 hj => ?_, hinv⟩, ⟨?_, fun s hs => ?_⟩⟩
 ·rw [List.nodup_cons, List.nodup_cons, List.singleton_append, List.nodup_cons]
  refine ⟨fun hm => ?_, fun hm => ?_, fun hm => ?_, f1⟩
  ·rcases List.mem_cons.1 hm with k | k
   ·exact n1 (by rw [k]; simp)
   rcases List.mem_cons.1 k with k | k
   ·exact pg k
   ·rcases f2 p k with k | k
    ·exact n1 (List.mem_cons_of_mem _ (List.mem_cons_of_mem _ k))
    ·omega
  ·rcases List.mem_cons.1 hm with k | k
   ·exact mg k
   ·rcases f2 m k with k | k
    ·exact n2 (List.mem_cons_of_mem _ k)
    ·omega
  ·rcases f2 gM hm with k | k
   ·exact n3 k
   ·omega
 ·exact hTs.blk b7 (by simpa using pg)
 ·by_cases hji : j = i
  ·subst hji
   have hj : (st.2.set j l')[j]? = some l2 := hj
   rw [List.getElem?_set_self (by omega)] at hj
   injection hj with hj
   subst hj
   refine ⟨A', c', by rw [List.getElem?_set_self (by omega)], own_tch hown hTs (fun s hs hm => ?_)⟩
   have := List.mem_singleton.1 hm
   rcases hob s hs with k | k
   ·exact gn (by rw [← this]; exact k)
   ·omega
  ·have hj : (st.2.set i l')[j]? = some l2 := hj
   rw [List.getElem?_set_ne (fun e => hji e.symm)] at hj
   obtain ⟨A2, c2, e2, ho2⟩ := h8 j l2 hj
   refine ⟨A2, c2, by rw [List.getElem?_set_ne (fun e => hji e.symm)]; exact e2, own_tch (own_tch (own_tch ho2 hT (fun s _ => by simp)) hT7 (flat_disj n4 e e2 (fun x => hji x.symm))) hTs (fun s hs hm => n3 ?_)⟩
   rw [List.mem_singleton.1 hm] at hs
   exact List.mem_flatMap.2 ⟨_, List.mem_of_getElem? e2, hs⟩
 ·refine ((hT.mono (by simp)).trans (hT7.mono (fun s hs => ?_))).trans (hTs.mono (by simp))
  exact List.mem_cons_of_mem _ (List.mem_cons_of_mem _ (List.mem_append_right _ (hin s hs)))
 ·rcases List.mem_cons.1 hs with k | k
  ·exact .inl (by rw [k]; simp)
  rcases List.mem_cons.1 k with k | k
  ·exact .inl (by rw [k]; simp)
  rcases List.mem_append.1 k with k | k
  ·exact .inl (List.mem_cons_of_mem _ (List.mem_cons_of_mem _ (List.mem_append_left _ k)))
  ·rcases f2 s k with k | k
   ·exact .inl (List.mem_cons_of_mem _ (List.mem_cons_of_mem _ (List.mem_append_right _ k)))
   ·exact .inr k
def lclV (a : AdI) (bits : Int) : Bool := (decide (clsI a = 2) || decide (clsI a = 5)) && decide (1 ≤ bits ∧ bits ≤ (wd a.1 : Int))
theorem isLocal_any (a : AdI) (ha : N64 a.2.1 ∧ N64 a.2.2) (bits : Int) (w : World) :
  Calls Tryz.prog 171 #[adV a, .int .i64 bits] w fun e w' => e = .returned (.bool (lclV a bits)) ∧ Tch w w' [] := by
 obtain ⟨R, hR⟩ : ∃ R, lclV a bits = R := ⟨_, rfl⟩
 rw [hR]
 unfold lclV at hR
 have hcv := @cls_vld a
 obtain ⟨s, ah, al⟩ := a
 have ha : N64 ah ∧ N64 al := ha
 obtain ⟨c, hc⟩ : ∃ c, clsI (s, ah, al) = c := ⟨_, rfl⟩
 have hR : ((decide (clsI (s, ah, al) = 2) || decide (clsI (s, ah, al) = 5)) && decide (1 ≤ bits ∧ bits ≤ (wd s : Int))) = R := hR
 have hc' : clsV s (ah : Int) (al : Int) = c := hc
 rw [hc] at hR hcv
 have HC := lH (fun W => class_at s (ah : Int) (al : Int) (by unfold U6; have := ha.1; unfold N64 at this; omega) (by unfold U6; have := ha.2; unfold N64 at this; omega) hc' W)
 have HB : Hid (∀ W W', Below W.heap.size W W' → Tch W W' []) := lH (fun W W' h => Tch.of_below [] h)
 by_cases h25 : c = 2 ∨ c = 5
 ·have hv : vld s (ah : Int) (al : Int) = true := hcv h25
  have e25 : (decide (c = 2) || decide (c = 5)) = true := by simpa using h25
  rw [e25, Bool.true_and] at hR
  by_cases ho : okn s bits = true
  ·have e1 := ofP_yes ⟨hv, ho⟩
   obtain ⟨X, hX⟩ : ∃ X : Int, ((ct ah (kk s bits - 64) : Nat) : Int) = X := ⟨_, rfl⟩
   obtain ⟨Y, hY⟩ : ∃ Y : Int, ((ct al (kk s bits) : Nat) : Int) = Y := ⟨_, rfl⟩
   rw [hX, hY] at e1
   have HO := lH (fun w => ofP_at s ah al bits ha.1 ha.2 e1 w)
   have o1 := okn_iff.1 ho
   have HR : Hid (R = decide (0 < bits)) := lH (by rw [← hR]; exact decide_eq_decide.2 (by omega))
   clear hR hcv hc hc' ha hv e25 ho e1 hX hY o1
   rcases h25 with rfl | rfl
   all_goals
    go_enter Tryz.func171, Tryz.ntmps171
    go_wp2_with fail
    refine cZm (HC.out _) ?_
    rintro e w1 ⟨rfl, hb1⟩
    have HT1 := lH (((Tch.refl w []).alloc _).trans (HB.out _ _ hb1))
    have q := ((Blk.new w 28 #[.bool s, .int .u64 (ah : Int), .int .u64 (al : Int)]).below hb1 (by simp))
    obtain ⟨q0, q1, q2⟩ := q.c3
    clear hb1 q
    go_wp2_with fail
    refine cZm (HO.out _) ?_
    rintro e w2 ⟨rfl, hb2⟩
    have HT2 := lH ((HT1.out.trans (HB.out _ _ hb2)).alloc (.cells #[.bool s, .int .u64 X, .int .u64 Y, .int .i64 bits] 30))
    clear hb2 q0 q1 q2
    go_wp2
    go_ret
    exact ⟨by rw [HR.out]; rfl, HT2.out⟩
  ·have e1 := ofP_no (s := s) (h := ah) (l := al) (b := bits) (fun x => ho x.2)
   have HO := lH (fun w => ofP_at s ah al bits ha.1 ha.2 e1 w)
   have HR : Hid (R = false) := lH (by rw [← hR]; exact decide_eq_false (fun x => ho (okn_iff.2 ⟨by omega, x.2⟩)))
   clear hR hcv hc hc' ha hv e25 ho e1
   rcases h25 with rfl | rfl
   all_goals
    go_enter Tryz.func171, Tryz.ntmps171
    go_wp2_with fail
    refine cZm (HC.out _) ?_
    rintro e w1 ⟨rfl, hb1⟩
    have HT1 := lH (((Tch.refl w []).alloc _).trans (HB.out _ _ hb1))
    have q := ((Blk.new w 28 #[.bool s, .int .u64 (ah : Int), .int .u64 (al : Int)]).below hb1 (by simp))
    obtain ⟨q0, q1, q2⟩ := q.c3
    clear hb1 q
    go_wp2_with fail
    refine cZm (HO.out _) ?_
    rintro e w2 ⟨rfl, hb2⟩
    have HT2 := lH ((HT1.out.trans (HB.out _ _ hb2)).alloc (.cells #[.bool false, .int .u64 0, .int .u64 0, .int .i64 0] 30))
    clear hb2 q0 q1 q2
    go_wp2
    go_ret
    exact ⟨by rw [HR.out]; rfl, HT2.out⟩
 ·have b2 : (c != 2) = true := by simpa using fun x => h25 (.inl x)
  have b5 : (c != 5) = true := by simpa using fun x => h25 (.inr x)
  have HR : Hid (R = false) := lH (by rw [← hR, decide_eq_false (fun x => h25 (.inl x)), decide_eq_false (fun x => h25 (.inr x))]; rfl)
  clear hR hcv hc hc' ha h25
  go_enter Tryz.func171, Tryz.ntmps171
  go_wp2_with fail
  refine cZm (HC.out _) ?_
  rintro e w1 ⟨rfl, hb1⟩
  have HT1 := lH (((Tch.refl w []).alloc _).trans (HB.out _ _ hb1))
  clear hb1
  go_wp2
  go_ret
  exact ⟨by rw [HR.out]; rfl, HT1.out⟩
end Go.Proofs.YtgfkmgbcajdcdaaGreatDoor.Ifs

namespace Go.Proofs.YtgfkmgbcajdcdaaGreatDoor.Ifs
open Go.RowKit Go.Maps

theorem adOk_lcl (st : StI) (port : Int) (a : AdI) (bits : Int) : adOk st port a bits = (lclV a bits && decide (mineI st.2 a = 0) && !(a.1 && decide (mtuI st port < 1280))) := rfl
theorem putP (p : Nat) (S : List Nat) (st : StI) (port : Int) (a : AdI) (ha : N64 a.2.1 ∧ N64 a.2.2) (bits : Int) (hi : I64 port) (hb : I64 bits) (w : World) (h : IfP w p S st) :
  Calls Tryz.prog 129 #[.pointer (some ⟨p, 0, none⟩), .int .i64 port, adV a, .int .i64 bits] w fun e w' => e = .returned (.int .i64 (putI st port a bits).2) ∧ ∃ S', IfP w' p S' (putI st port a bits).1 ∧ Goes w w' S S' := by
 have hinv := h.inv.put port a bits ha
 have HP0 := lH h
 have HIs := lH (fun W => isLocal_any a ha bits W)
 have HMi := lH (fun W (hT : Tch w W []) => pmine_any p S st a W (h.tch hT (by simp)))
 have HA := adOk_lcl st port a bits
 obtain ⟨L, hL⟩ : ∃ L, lclV a bits = L := ⟨_, rfl⟩
 rw [hL] at HIs HA
 obtain ⟨M, hM⟩ : ∃ M : Nat, mineI st.2 a = M := ⟨_, rfl⟩
 rw [hM] at HMi HA
 obtain ⟨s, ah, al⟩ := a
 have HA : adOk st port (s, ah, al) bits = (L && decide (M = 0) && !(s && decide (mtuI st port < 1280))) := HA
 obtain ⟨xb, hxb⟩ : ∃ xb, w.heap.size = xb := ⟨_, rfl⟩
 obtain ⟨W0, hW0⟩ : ∃ W, w.alloc (.cells #[.bool s, .int .u64 (ah : Int), .int .u64 (al : Int)] 28) = W := ⟨_, rfl⟩
 have hX : Blk W0 xb 28 #[.bool s, .int .u64 (ah : Int), .int .u64 (al : Int)] := hW0 ▸ hxb ▸ Blk.new _ _ _
 have HT0 : Hid (Tch w W0 []) := lH (hW0 ▸ (Tch.refl w []).alloc _)
 have hD0 := h.tch HT0.out (by simp)
 have HW0 := lH (And.intro hW0 hxb)
 have HX := lH hX
 cases hth : thereI st port with
 | false =>
  have HMb := lH (pmember_no p S st port hth W0 hD0)
  have HE : Hid (putI st port (s, ah, al) bits = (st, 132)) := lH (by unfold putI; rw [if_pos hth])
  clear h hinv HA hL hM hX hD0 hW0 hxb hth hi hb
  go_enter Tryz.func129, Tryz.ntmps129
  go_wp2_with fail
  rw [HW0.out.1, HW0.out.2]
  refine cZm HMb.out ?_
  rintro e w' ⟨rfl, rfl⟩
  go_wp2
  go_ret
  rw [HE.out]
  exact ⟨rfl, S, HP0.out.tch HT0.out (by simp), Goes.of_tch (HT0.out.mono (by simp))⟩
 | true =>
  obtain ⟨gM, cM, c, i, n, A, q, l, c0, hq, hl, x0, x1, x2, x3, x4, hO, hl8, hpl, hgl, hfz, hgS, hnn, hn8, hin, hpe, hix⟩ := hD0.is hth
  have HMb := lH (member_at p gM n cM i port hn8 hin hpe W0 c0)
  obtain ⟨-, -, eLoc, eMtu⟩ := there_idx hix hq hl hth
  rw [eMtu] at HA
  obtain ⟨mt, hmt⟩ : ∃ mt, q.2.2.1 = mt := ⟨_, rfl⟩
  rw [hmt] at HA x2
  have x0a := (hX.cell 0).trans (show _ = some (Value.bool s) by rfl)
  have x1a := (hX.cell 1).trans (show _ = some (Value.int .u64 (ah : Int)) by rfl)
  have x2a := (hX.cell 2).trans (show _ = some (Value.int .u64 (al : Int)) by rfl)
  have HBad : Hid (adOk st port (s, ah, al) bits = false → putI st port (s, ah, al) bits = (st, 133)) := lH (fun e => by unfold putI; rw [if_neg (by rw [hth]; simp), if_pos e])
  have HFul : Hid (adOk st port (s, ah, al) bits = true → l.length = 8 → putI st port (s, ah, al) bits = (st, 131)) := lH (fun e e8 => by unfold putI; rw [if_neg (by rw [hth]; simp), if_neg (by rw [e]; simp), eLoc, if_pos (by omega)])
  have HGd : Hid (adOk st port (s, ah, al) bits = true → ¬ l.length = 8 → putI st port (s, ah, al) bits = ((st.1, st.2.set i (l ++ [((s, ah, al), bits)])), 0)) := lH (fun e e8 => by unfold putI; rw [if_neg (by rw [hth]; simp), if_neg (by rw [e]; simp), eLoc, if_neg (by omega), hix, modI_set hl])
  have HInv := lH hinv
  have HRd : Hid (∀ W, Tch W0 W [] → W.cell? ⟨gM, i * 5 + 2, none⟩ = some (.int .i64 mt) ∧ W.cell? ⟨gM, i * 5 + 4, none⟩ = some (.slice A l.length c) ∧ W.ownsRow 0 202 4 (.slice A l.length c) l.length (l.flatMap lcC) ∧ Blk W xb 28 #[.bool s, .int .u64 (ah : Int), .int .u64 (al : Int)]) :=
   lH (fun W hT => ⟨(hT.cell (p := ⟨gM, i * 5 + 2, none⟩) hgl (by simp)).trans x2, (hT.cell (p := ⟨gM, i * 5 + 4, none⟩) hgl (by simp)).trans x4, own_tch hO hT (by simp), hT.blk HX.out (by simp)⟩)
  have hpS : p < w.heap.size := h.lt p h.pin
  have HC0 : Hid (w.cell? ⟨p, 0, none⟩ = some (.slice (some ⟨gM, 0, none⟩) n cM)) := lH ((HT0.out.cell (p := ⟨p, 0, none⟩) hpS (by simp)).symm.trans c0)
  have HC4 : Hid (w.cell? ⟨gM, i * 5 + 4, none⟩ = some (.slice A l.length c)) := lH ((HT0.out.cell (p := ⟨gM, i * 5 + 4, none⟩) (h.lt gM hgS) (by simp)).symm.trans x4)
  have HIn : Hid (i < st.1.length) := lH (by omega)
  obtain ⟨m, hm⟩ : ∃ m, l.length = m := ⟨_, rfl⟩
  rw [hm] at HFul HGd HRd HC4 hl8
  have HLm := lH hm
  have HL8 := lH hl8
  clear h hinv hL hM hX hD0 hW0 hxb hth hi hb c0 hq hl x0 x1 x2 x3 x4 hO hpl hgl hfz hgS hnn hn8 hin hpe hix eLoc eMtu hmt hpS hm
  cases L with
  | false =>
   have HE := lH (HBad.out (by rw [HA]; rfl))
   clear HA
   go_enter Tryz.func129, Tryz.ntmps129
   go_wp2_with fail
   rw [HW0.out.1, HW0.out.2]
   refine cZm HMb.out ?_
   rintro e w' ⟨rfl, rfl⟩
   go_wp2_with fail
   refine cZm (HIs.out _) ?_
   rintro e w1 ⟨rfl, hT1⟩
   have HT1 := lH (HT0.out.trans hT1)
   clear hT1 x0a x1a x2a
   go_wp2
   go_ret
   rw [HE.out]
   exact ⟨rfl, S, HP0.out.tch HT1.out (by simp), Goes.of_tch (HT1.out.mono (by simp))⟩
  | true =>
   by_cases hM0 : M = 0
   ·subst hM0
    have hcs : (s = true ∧ mt < 1280) ∨ (s = false) ∨ (s = true ∧ ¬ mt < 1280) := by
     cases s with
     | false => exact .inr (.inl rfl)
     | true => by_cases h9 : mt < 1280; exact .inl ⟨rfl, h9⟩; exact .inr (.inr ⟨rfl, h9⟩)
    go_enter Tryz.func129, Tryz.ntmps129
    go_wp2_with fail
    rw [HW0.out.1, HW0.out.2]
    refine cZm HMb.out ?_
    rintro e w' ⟨rfl, rfl⟩
    go_wp2_with fail
    refine cZm (HIs.out _) ?_
    rintro e w1 ⟨rfl, hT1⟩
    have HT1 := lH hT1
    obtain ⟨-, -, -, hX1⟩ := HRd.out w1 hT1
    obtain ⟨y0, y1, y2⟩ := hX1.c3
    clear hT1 x0a x1a x2a hX1
    go_wp2_with fail
    refine cZm (HMi.out _ (HT0.out.trans HT1.out)) ?_
    rintro e w2 ⟨rfl, hT2⟩
    have HT2 := lH (HT1.out.trans hT2)
    obtain ⟨z2, z4, -, hX2⟩ := HRd.out w2 HT2.out
    obtain ⟨y0', y1', y2'⟩ := hX2.c3
    clear hT2 hX2 y0 y1 y2
    rcases hcs with ⟨hs, hmt⟩ | hg
    ·have HE := lH (HBad.out (by rw [HA, hs, decide_eq_true hmt]; rfl))
     subst hs
     clear HA
     go_wp2
     go_ret
     rw [HE.out]
     exact ⟨rfl, S, HP0.out.tch (HT0.out.trans HT2.out) (by simp), Goes.of_tch ((HT0.out.trans HT2.out).mono (by simp))⟩
    ·have hok : adOk st port (s, ah, al) bits = true := by
      rw [HA]
      rcases hg with rfl | ⟨rfl, h9⟩
      ·rfl
      ·rw [decide_eq_false (p := mt < 1280) (by omega)]; rfl
     have HE8 := lH (HFul.out hok)
     have HEg := lH (HGd.out hok)
     clear HA hok
     by_cases h8 : m = 8
     ·have HE := lH (HE8.out h8)
      have b8 : ((m : Int) == 8) = true := by subst h8; rfl
      clear h8
      rcases hg with rfl | ⟨rfl, h9⟩
      all_goals
       go_wp2
       go_ret
       rw [HE.out]
       exact ⟨rfl, S, HP0.out.tch (HT0.out.trans HT2.out) (by simp), Goes.of_tch ((HT0.out.trans HT2.out).mono (by simp))⟩
     ·have HE := lH (HEg.out h8)
      have b8 : ((m : Int) == 8) = false := by simp; omega
      clear h8
      have HInv2 : Hid (InvI (st.1, st.2.set i (l ++ [((s, ah, al), bits)]))) := lH (by have h1 := HInv.out; rw [HE.out] at h1; exact h1)
      have HO6 : Hid ((w2.drew.alloc (.cells #[.bool s, .int .u64 (ah : Int), .int .u64 (al : Int), .int .i64 bits] 202)).ownsRow 0 202 4 (.slice A m c) m (l.flatMap lcC)) := lH ((HRd.out w2 HT2.out).2.2.1.drew.alloc _)
      have HT6 : Hid (Tch w (w2.drew.alloc (.cells #[.bool s, .int .u64 (ah : Int), .int .u64 (al : Int), .int .i64 bits] 202)) []) := lH ((HT0.out.trans HT2.out).drew.alloc _)
      have HSr := lH (src_new w2.drew 202 [.bool s, .int .u64 (ah : Int), .int .u64 (al : Int), .int .i64 bits])
      have e4 : (w2.alloc (.cells #[.bool s, .int .u64 (ah : Int), .int .u64 (al : Int), .int .i64 bits] 202)).cell? ⟨gM, i * 5 + 4, none⟩ = some (.slice A m c) := Lib.cell?_alloc_some _ z4
      have HSm : Hid (m ≤ 1000000) := lH (by have := HL8.out; omega)
      have HRw : Hid ((l ++ [((s, ah, al), bits)]).flatMap lcC = l.flatMap lcC ++ [.bool s, .int .u64 (ah : Int), .int .u64 (al : Int), .int .i64 bits]) := lH (by simp [lcC])
      rcases hg with rfl | ⟨rfl, h9⟩
      all_goals
       go_wp2
       go_region_law (refine step_apc 132 202 (.agg #[.bool false, .int .u64 0, .int .u64 0, .int .i64 0]) 4 32 Tryz.underlying132 infoLc rfl (by decide) (by decide) rfl (.tmp 50) (.tmp 54) rfl 0 (.slice A m c) m (l.flatMap lcC) (by simp [Act.eval]) HO6.out ⟨w2.heap.size, 0, none⟩ 1 [_, .int .u64 (ah : Int), .int .u64 (al : Int), .int .i64 bits] (by simp [Act.eval]) rfl (fun j u hj => HSr.out j u hj) (by simp [Value.oneCell']) HSm.out (Nat.zero_le _) ?_; intro v7 w7 hown hg hv; obtain ⟨A7, c7, e7, -, -⟩ := own_sl hown; subst e7; obtain ⟨g1, ⟨u7, k7⟩, f7, S', hI7, hG7⟩ := IfP.inner HP0.out HIn.out HC0.out HC4.out HT6.out (Tch.of_grown' hg (fun g e => by rw [obI_some e]; simp)) (k' := m + 1) (by simp [HLm.out]) (by rw [HRw.out]; exact hown) (fun s hs => by rcases hv with hv | hv; (exact .inl (by unfold obI at hs ⊢; rw [← hv]; exact hs)); (unfold obI at hs; rw [hv] at hs; have h9 := List.mem_singleton.1 hs; exact .inr (by rw [h9]; exact HT6.out.size))) HInv2.out; have HI7 := lH hI7; have HG7 := lH hG7; clear hown hg hv g1 hI7 hG7)
       all_goals
        go_wp2
        go_ret
        rw [HE.out]
        exact ⟨rfl, S', HI7.out, HG7.out⟩
   ·have bM : ((M : Int) != 0) = true := by simpa using hM0
    have HE := lH (HBad.out (by rw [HA, decide_eq_false hM0]; rfl))
    clear HA hM0
    go_enter Tryz.func129, Tryz.ntmps129
    go_wp2_with fail
    rw [HW0.out.1, HW0.out.2]
    refine cZm HMb.out ?_
    rintro e w' ⟨rfl, rfl⟩
    go_wp2_with fail
    refine cZm (HIs.out _) ?_
    rintro e w1 ⟨rfl, hT1⟩
    have HT1 := lH hT1
    obtain ⟨-, -, -, hX1⟩ := HRd.out w1 hT1
    obtain ⟨y0, y1, y2⟩ := hX1.c3
    clear hT1 x0a x1a x2a hX1
    go_wp2_with fail
    refine cZm (HMi.out _ (HT0.out.trans HT1.out)) ?_
    rintro e w2 ⟨rfl, hT2⟩
    have HT2 := lH (HT0.out.trans (HT1.out.trans hT2))
    clear hT2 y0 y1 y2
    go_wp2
    go_ret
    rw [HE.out]
    exact ⟨rfl, S, HP0.out.tch HT2.out (by simp), Goes.of_tch (HT2.out.mono (by simp))⟩
end Go.Proofs.YtgfkmgbcajdcdaaGreatDoor.Ifs

namespace Go.Proofs.YtgfkmgbcajdcdaaGreatDoor.Ifs
open Go.RowKit Go.Maps

theorem run_clear_one (w : World) (t e ty : TypeId) (z : Value) (ht : Tryz.prog.underlying t = some (.slice e)) (hv : ∀ w, (zeroValue e).run Tryz.prog w = .ok z w) (cs : List Value) (hz : z.cells = cs.toArray) (h1 : ∀ v ∈ cs, v.oneCell' = true) (hcs : cs ≠ []) (g off c : Nat) (te : TypeId) (old : Array Value) (hB : Blk w g te old) (hl : off + cs.length ≤ old.size) :
  (Builtin.clear_ #[t] ty #[.slice (some ⟨g, off, none⟩) 1 c]).run Tryz.prog w = .ok (.tuple #[]) (w.setRow g (old.toList.take off ++ cs ++ old.toList.drop (off + cs.length)).toArray) := by
 have hzc : (Builtin.zeroCells z.cells 1).toList = cs := by
  rw [hz]
  simp [Builtin.zeroCells]
  apply List.ext_getElem
  ·simp
  ·intro i h1 h2
   simp
   rw [Nat.mod_eq_of_lt h2, List.getElem?_eq_getElem h2]
   rfl
 have hst := run_storeCells_at (P := Tryz.prog) g off te cs 0 old w hB (by simpa using hl) h1
 simp only [Nat.add_zero] at hst
 simp [Builtin.clear_, run_underlying ht, hv, hzc, hst]
theorem zeroLc (w : World) : (zeroValue 202).run Tryz.prog w = .ok (.agg #[.bool false, .int .u64 0, .int .u64 0, .int .i64 0]) w := by kernel_rfl
theorem own_open {w : World} {g n c : Nat} {xs : List Value} (h : w.ownsRow 0 202 4 (.slice (some ⟨g, 0, none⟩) n c) n xs) : ∃ cur : Array Value, Blk w g 202 cur ∧ n ≤ c ∧ c ≤ maxLen ∧ cur.size = c * 4 ∧ cur.toList.take (n * 4) = xs := by
 rcases h.2 with ⟨e, -⟩ | ⟨g', cap, cur, e, h1, h2, h3, h4, h5, h6⟩
 ·cases e
 ·injection e with e1 e2 e3
  injection e1 with e1
  injection e1 with e1
  subst e1 e3
  exact ⟨cur, h2, h3, h4, h5, h6⟩
theorem take_cut {α : Type} {C X : List α} {m : Nat} (h : C.take m = X) {k : Nat} (hk : k ≤ m) : C.take k = X.take k := by
 rw [← h, List.take_take, Nat.min_eq_left hk]
theorem delete_lc (g n c i : Nat) (l : List Loc) (hl : l.length = n) (hn : n ≤ 1000) (hi : i < n) (w : World) (h : w.ownsRow 0 202 4 (.slice (some ⟨g, 0, none⟩) n c) n (l.flatMap lcC)) :
  Calls Tryz.prog 170 #[.slice (some ⟨g, 0, none⟩) n c, .int .i64 (i : Int), .int .i64 ((i : Int) + 1)] w fun e w' => e = .returned (.slice (some ⟨g, 0, none⟩) (n - 1) c) ∧ w'.ownsRow 0 202 4 (.slice (some ⟨g, 0, none⟩) (n - 1) c) (n - 1) ((l.eraseIdx i).flatMap lcC) ∧ Tch w w' [g] := by
 obtain ⟨cur, hB, hnc, hcm, hcs, hcx⟩ := own_open h
 have hcm : c ≤ 9223372036854775807 := by unfold maxLen at hcm; omega
 have hxl : (l.flatMap lcC).length = n * 4 := by rw [flat4_len (fun _ => rfl), hl]
 have her := erase_flat (f := lcC) (sz := 4) (fun _ => rfl) (l := l) (i := i) (by omega)
 have hone := lcC_one l
 obtain ⟨xs, hxs⟩ : ∃ xs, l.flatMap lcC = xs := ⟨_, rfl⟩
 rw [hxs] at hcx hxl her hone
 have hcl : cur.toList.length = c * 4 := by rw [Array.length_toList]; exact hcs
 obtain ⟨d, hd⟩ : ∃ d, n - (i + 1) = d := ⟨_, rfl⟩
 obtain ⟨n1, hn1⟩ : ∃ n1, n - 1 = n1 := ⟨_, rfl⟩
 rw [hn1]
 obtain ⟨news, hnews⟩ : ∃ news, xs.drop ((i + 1) * 4) = news := ⟨_, rfl⟩
 have hnl : news.length = d * 4 := by rw [← hnews, List.length_drop, hxl]; omega
 obtain ⟨A, hA⟩ : ∃ A : Addr, (if c = i + 1 then (some ⟨g, 0, none⟩ : Option Addr) else some ⟨g, (i + 1) * 4, none⟩) = some A := by
  by_cases e : c = i + 1
  ·exact ⟨_, if_pos e⟩
  ·exact ⟨_, if_neg e⟩
 have HSrc : Hid (∀ j u, news[j]? = some u → w.drew.cell? (A.add j) = some u) := lH (fun j u hj => by
  by_cases e : c = i + 1
  ·have : news.length = 0 := by rw [hnl]; omega
   have := (List.getElem?_eq_some_iff.1 hj).1
   omega
  ·rw [if_neg e] at hA
   injection hA with hA
   subst hA
   rw [← hnews, List.getElem?_drop] at hj
   rw [show (⟨g, (i + 1) * 4, none⟩ : Addr).add j = ⟨g, (i + 1) * 4 + j, none⟩ by unfold Addr.add; split <;> simp_all]
   show w.cell? _ = _
   rw [hB.cell, ← Array.getElem?_toList, ← hj, ← hcx, List.getElem?_take]
   have hjl := (List.getElem?_eq_some_iff.1 hj).1
   rw [hxl] at hjl
   rw [if_pos hjl])
 obtain ⟨cur1, hcur1⟩ : ∃ cur1, (cur.toList.take (i * 4) ++ news ++ cur.toList.drop (i * 4 + news.length)).toArray = cur1 := ⟨_, rfl⟩
 have hl1 : cur1.toList.length = c * 4 := by rw [← hcur1, List.toList_toArray]; simp [hcl, hnl]; omega
 have hpre : cur1.toList.take (n1 * 4) = xs.take (i * 4) ++ news := by
  rw [← hcur1, List.toList_toArray, List.take_left' (by simp [hcl, hnl]; omega), take_cut hcx (by omega)]
 obtain ⟨W1, hW1⟩ : ∃ W1, w.drew.setRow g cur1 = W1 := ⟨_, rfl⟩
 have hB1 : Blk W1 g 202 cur1 := hW1 ▸ setRow_blk (w := w.drew) hB
 have hT1 : Tch w W1 [g] := hW1 ▸ Tch.of_drew (setRow_tch w.drew g cur1)
 have hclr : ∀ ty, (Builtin.clear_ #[132] ty #[.slice (some ⟨g, n1 * 4, none⟩) 1 (c - n1)]).run Tryz.prog W1 = .ok (.tuple #[]) (W1.setRow g (cur1.toList.take (n1 * 4) ++ [Value.bool false, Value.int .u64 0, Value.int .u64 0, Value.int .i64 0] ++ cur1.toList.drop (n1 * 4 + 4)).toArray) := fun ty =>
  run_clear_one W1 132 202 ty _ Tryz.underlying132 zeroLc [Value.bool false, Value.int .u64 0, Value.int .u64 0, Value.int .i64 0] rfl (by simp [Value.oneCell']) (by simp) g (n1 * 4) (c - n1) 202 cur1 hB1 (by simp; rw [← Array.length_toList, hl1]; omega)
 obtain ⟨cur2, hcur2⟩ : ∃ cur2, (cur1.toList.take (n1 * 4) ++ [Value.bool false, Value.int .u64 0, Value.int .u64 0, Value.int .i64 0] ++ cur1.toList.drop (n1 * 4 + 4)).toArray = cur2 := ⟨_, rfl⟩
 have HFin : Hid ((W1.setRow g cur2).ownsRow 0 202 4 (.slice (some ⟨g, 0, none⟩) n1 c) n1 ((l.eraseIdx i).flatMap lcC) ∧ Tch w (W1.setRow g cur2) [g]) := lH (by
  refine ⟨⟨?_, .inr ⟨g, c, cur2, rfl, Nat.zero_le _, setRow_blk hB1, by omega, by unfold maxLen; omega, ?_, ?_⟩⟩, hT1.trans (setRow_tch W1 g cur2)⟩
  ·rw [her, hnews]
   simp [hxl, hnl]; omega
  ·rw [← hcur2]
   simp only [List.size_toArray, List.length_append, List.length_take, List.length_drop, hl1, List.length_cons, List.length_nil]
   omega
  ·rw [her, hnews, ← hpre, ← hcur2, List.toList_toArray, List.append_assoc, List.take_left' (by rw [List.length_take, hl1]; omega)])
 rw [hcur2] at hclr
 have HFit : Hid (i * 4 + news.length ≤ cur.size) := lH (by rw [hnl, hcs]; omega)
 have HOne : Hid (∀ u ∈ news, u.oneCell' = true) := lH (fun u hu => hone u (List.mem_of_mem_drop (by rw [hnews]; exact hu)))
 have HBd : Hid (Blk w.drew g 202 cur) := lH hB
 have HNl := lH hnl
 have HW1 : Hid (w.drew.setRow g (cur.toList.take (i * 4) ++ news ++ cur.toList.drop (i * 4 + news.length)).toArray = W1) := lH (by rw [hcur1]; exact hW1)
 have HRm : Hid (i + d ≤ c ∧ i + d = n1) := lH (by omega)
 have hn11 : n - n1 = 1 := by omega
 have hic : i ≤ c := by omega
 have hjc : i + 1 ≤ c := by omega
 have hib : (0 : Int) ≤ (i : Int) + 1 ∧ (i : Int) + 1 ≤ (n : Int) := by omega
 have b0 : ((i : Int) == (i : Int) + 1) = false := by simp; omega
 clear hB hcs hcx hxl her hone hxs hcl hnews hnl hcur1 hl1 hpre hW1 hB1 hT1 hcur2 h
 go_enter Tryz.func170, Tryz.ntmps170
 go_wp2
 go_region_law (refine step_apr rfl (.tmp 22) (.tmp 25) 132 rfl 202 4 Tryz.underlying132 sizeLc g i c cur HBd.out (by simp [Act.eval, Act.put]) A d (c - (i + 1)) news (by simp [Act.eval, Act.put, *]) HNl.out HSrc.out HOne.out HRm.out.1 HFit.out ?_; rw [HW1.out, HRm.out.2])
 all_goals
  go_wp2
  go_ret
  exact ⟨rfl, HFin.out.1, HFin.out.2⟩
end Go.Proofs.YtgfkmgbcajdcdaaGreatDoor.Ifs
