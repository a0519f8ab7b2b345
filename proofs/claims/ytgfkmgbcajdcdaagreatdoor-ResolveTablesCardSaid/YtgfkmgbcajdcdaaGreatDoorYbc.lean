/-
  Several texts in one: RxE, RvF, Row, Frame.
-/
import Derived.Test.YtgfkmgbcajdcdaaGreatDoorYap
import Derived.Test.YtgfkmgbcajdcdaaGreatDoorYao
import Derived.Test.YtgfkmgbcajdcdaaGreatDoorYad
import Derived.Test.YtgfkmgbcajdcdaaGreatDoorYaa
import Derived.ProofKit
import Derived.OpenShut
import Derived.ShutString
import Derived.ChangeOld
import Derived.Test.YtgfkmgbcajdcdaaGreatDoorRows
import Derived.WalkKit
import Derived.SizedLaws
import Derived.JoinedCond
import Derived.Deep.CondSized
import Derived.Lib.SmallJoins
import Derived.Deep.Matrix
set_option linter.unusedVariables false
set_option maxRecDepth 100000
set_option maxHeartbeats 16000000
namespace Go.Proofs.YtgfkmgbcajdcdaaGreatDoor
open Go.RowKit Ifs
theorem hp_cells {w : World} {base g n c k : Nat} {l : List HpI} (h : RowH w base (some ⟨g, 0, none⟩) n c l) {x : HpI} (hx : l[k]? = some x) :
  w.cell? ⟨g, k * 5, none⟩ = some (.int .i64 x.1) ∧ w.cell? ⟨g, k * 5 + 1, none⟩ = some (.bool x.2.1.1) ∧ w.cell? ⟨g, k * 5 + 2, none⟩ = some (.int .u64 (x.2.1.2.1 : Int)) ∧ w.cell? ⟨g, k * 5 + 3, none⟩ = some (.int .u64 (x.2.1.2.2 : Int)) ∧ w.cell? ⟨g, k * 5 + 4, none⟩ = some (.bool x.2.2) := by
 have hat := fun q hq => flatk_at (n := 5) hp_five hx (k := q) hq
 exact ⟨own_cellN h (hat 0 (by decide)), own_cellN h (hat 1 (by decide)), own_cellN h (hat 2 (by decide)), own_cellN h (hat 3 (by decide)), own_cellN h (hat 4 (by decide))⟩
theorem dnumber_any (A : Option Addr) (n c : Nat) (l : List EnI) (hn : l.length = n) (hn9 : n ≤ 100000) (w : World) (h : RowE w 0 A n c l) :
  Calls Tryz.prog 23 #[.slice A n c] w fun e w' => ∃ A1 c1 A2 c2, e = .returned (.tuple #[.slice A1 n c1, .slice A2 (numI l).2.length c2]) ∧ RowT w' w.heap.size A1 n c1 (numI l).1 ∧ RowH w' w.heap.size A2 (numI l).2.length c2 (numI l).2 ∧ (∀ s ∈ obI (.slice A1 n c1), s ∉ obI (.slice A2 (numI l).2.length c2)) ∧ Tch w w' [] := by
 have HRow := lH (fun W (hT : Tch w W []) => own_tch h hT (by simp))
 have HN := lH hn
 have HLn := lH (fun k (hk : k ≤ n) => numK_len l k (by rw [hn]; exact hk))
 have HSu := lH (fun k e (he : l[k]? = some e) => numK_succ he)
 have HAl : Hid (numK l n = numI l) := lH (numK_all (by rw [hn]; exact Nat.le_refl _))
 have HZ0 := lH (Nat.le_refl w.heap.size)
 clear hn h
 go_enter Tryz.func23, Tryz.ntmps23
 go_wp2
 go_loopw [4, 5, 6] (fun rv hv iv wr => ∃ (i k : Nat) (A1 A2 : Option Addr) (c1 c2 : Nat), rv = .slice A1 i c1 ∧ hv = .slice A2 k c2 ∧ iv = .int .i64 (i : Int) ∧ i ≤ n ∧ Hid ((numK l i).2.length = k) ∧ Hid (RowT wr w.heap.size A1 i c1 (numK l i).1) ∧ Hid (RowH wr w.heap.size A2 k c2 (numK l i).2) ∧ Hid (∀ s ∈ obI (.slice A1 i c1), s ∉ obI (.slice A2 k c2)) ∧ Hid (Tch w wr [])) (fun _ _ iv _ => n - (intOf iv).toNat)
 case atStart => exact ⟨0, 0, none, none, 0, 0, rfl, rfl, rfl, Nat.zero_le _, lH (by rw [numK_zero]; rfl), lH (by rw [numK_zero]; exact ⟨rfl, .inl ⟨rfl, rfl⟩⟩), lH (by rw [numK_zero]; exact ⟨rfl, .inl ⟨rfl, rfl⟩⟩), lH (by simp [obI, Value.ownBlock]), lH (Tch.refl _ _)⟩
 case round =>
  obtain ⟨i, m, A1, A2, c1, c2, rfl, rfl, rfl, hi, hk, hR, hH, hD, hT⟩ := hrel
  by_cases hin : i < n
  ·have iI : (i : Int) < (n : Int) := by omega
   have i0 : (0 : Int) ≤ (i : Int) := by omega
   have i1 : IntKind.i64.wrap ((i : Int) + 1) = (i : Int) + 1 := by rw [IntKind.wrap_i64]; omega
   have HI := lH (And.intro iI (And.intro i0 i1))
   have hk9 := (HLn.out i (by omega)).2
   rw [hk.out] at hk9
   have HK9 := lH (And.intro hk9 hn9)
   obtain ⟨x, hx⟩ : ∃ x, l[i]? = some x := ⟨_, List.getElem?_eq_getElem (by rw [HN.out]; exact hin)⟩
   have HSi := lH (HSu.out i x hx)
   have HXx := lH hx
   have ho2 := HRow.out wr hT.out
   obtain ⟨g, rfl⟩ := slice_some ho2 (by omega)
   have HEc := lH (fun W (hW : Tch wr W []) => en_cells (own_tch ho2 hW (by simp)) hx)
   have HHc := lH (fun W (hW : Tch wr W []) => own_tch hH.out hW (by simp))
   obtain ⟨hs0, hhs0⟩ : ∃ z, (numK l i).2 = z := ⟨_, rfl⟩
   rw [hhs0] at HHc hk
   have HH0 := lH hhs0
   obtain ⟨⟨⟨xs, xh, xl⟩, xn⟩, ⟨hp, ⟨hs, hh, hl⟩, hw⟩⟩ := x
   obtain ⟨wo, hwo⟩ : ∃ x, x = wr := ⟨_, rfl⟩
   subst hwo
   clear hx ho2 hhs0 hk9
   go_wp2
   go_loopw [7] (fun kv w2 => ∃ k : Nat, kv = .int .i64 (k : Int) ∧ k ≤ m ∧ Hid (∀ (u : Nat) (z : HpI), u < k → hs0[u]? = some z → ¬ z = (hp, (hs, hh, hl), hw)) ∧ Hid (Tch wo w2 [])) (fun kv _ => m - (intOf kv).toNat)
   case atStart => exact ⟨0, rfl, Nat.zero_le _, lH (fun u z hu => absurd hu (Nat.not_lt_zero _)), lH (Tch.refl _ _)⟩
   case round =>
    obtain ⟨k, rfl, hkm, hno, hT2⟩ := hrel
    have k0 : (0 : Int) ≤ (k : Int) := by omega
    have k1 : IntKind.i64.wrap ((k : Int) + 1) = (k : Int) + 1 := by have := HK9.out; rw [IntKind.wrap_i64]; omega
    by_cases hkl : k < m
    ·have kI : (k : Int) < (m : Int) := by omega
     have kD : decide (k < m) = true := decide_eq_true hkl
     have kE : ((k : Int) == (m : Int)) = false := by simp; omega
     obtain ⟨y, hy⟩ : ∃ y, hs0[k]? = some y := ⟨_, List.getElem?_eq_getElem (by rw [hk.out]; exact hkl)⟩
     obtain ⟨g2, hg2⟩ := slice_some (HHc.out wr hT2.out) (by omega)
     subst hg2
     obtain ⟨b, hb⟩ : ∃ b, decide (y = (hp, (hs, hh, hl), hw)) = b := ⟨_, rfl⟩
     have EQ := eq_neq 43 _ _ (eq_hpR y (hp, (hs, hh, hl), hw) hb)
     have HY := lH hy
     have HB := lH hb
     obtain ⟨yp, ⟨ys, yh, yl⟩, yw⟩ := y
     have HC : Hid (∀ W, Tch wo W [] → (W.cell? ⟨g2, k * 5, none⟩ = some (Value.int .i64 yp) ∧ W.cell? ⟨g2, k * 5 + 1, none⟩ = some (Value.bool ys) ∧ W.cell? ⟨g2, k * 5 + 2, none⟩ = some (Value.int .u64 (yh : Int)) ∧ W.cell? ⟨g2, k * 5 + 3, none⟩ = some (Value.int .u64 (yl : Int)) ∧ W.cell? ⟨g2, k * 5 + 4, none⟩ = some (Value.bool yw)) ∧ (W.cell? ⟨g, i * 9 + 4, none⟩ = some (Value.int .i64 hp) ∧ W.cell? ⟨g, i * 9 + 5, none⟩ = some (Value.bool hs) ∧ W.cell? ⟨g, i * 9 + 6, none⟩ = some (Value.int .u64 (hh : Int)) ∧ W.cell? ⟨g, i * 9 + 7, none⟩ = some (Value.int .u64 (hl : Int)) ∧ W.cell? ⟨g, i * 9 + 8, none⟩ = some (Value.bool hw))) := lH (fun W hW => ⟨hp_cells (HHc.out W hW) hy, (HEc.out W hW).2.2.2.2⟩)
     have HC0 := lH (HC.out wr.drew hT2.out.drew)
     clear hy hb
     cases b with
     | false =>
      simp only [Bool.not_false] at EQ
      go_wp2_with fail
      refine wp_region_held_drew (S := (fun W => (W.cell? ⟨g2, k * 5, none⟩ = some (Value.int .i64 yp) ∧ W.cell? ⟨g2, k * 5 + 1, none⟩ = some (Value.bool ys) ∧ W.cell? ⟨g2, k * 5 + 2, none⟩ = some (Value.int .u64 (yh : Int)) ∧ W.cell? ⟨g2, k * 5 + 3, none⟩ = some (Value.int .u64 (yl : Int)) ∧ W.cell? ⟨g2, k * 5 + 4, none⟩ = some (Value.bool yw)) ∧ (W.cell? ⟨g, i * 9 + 4, none⟩ = some (Value.int .i64 hp) ∧ W.cell? ⟨g, i * 9 + 5, none⟩ = some (Value.bool hs) ∧ W.cell? ⟨g, i * 9 + 6, none⟩ = some (Value.int .u64 (hh : Int)) ∧ W.cell? ⟨g, i * 9 + 7, none⟩ = some (Value.int .u64 (hl : Int)) ∧ W.cell? ⟨g, i * 9 + 8, none⟩ = some (Value.bool hw)))) (by kernel_rfl) ?_ (fun hHeld => ?_)
      ·(exact HC0.out)
      refine tkH 0 ?_
      refine tkH 1 ?_
      refine tkH 2 ?_
      refine tkH 3 ?_
      refine tkH 4 ?_
      refine tkH 5 ?_
      refine tkH 6 ?_
      refine tkH 7 ?_
      refine tkH 8 ?_
      refine tkH 9 ?_
      refine tkH 10 ?_
      refine tkH 11 ?_
      refine tkH 12 ?_
      refine tkH 13 ?_
      refine tkH 14 ?_
      refine tkH 15 ?_
      refine wpAnyH_done (by kernel_rfl) ?_ _
      go_wp2
      go_roundw
      case rel => exact ⟨k + 1, by go_num, hkl, lH (fun u z hu hz => by
       rcases Nat.lt_or_eq_of_le (Nat.le_of_lt_succ hu) with h1 | h1
       ·exact hno.out u z h1 hz
       ·subst h1; rw [HY.out] at hz; injection hz with hz; subst hz; exact of_decide_eq_false HB.out), lH hT2.out.drew⟩
      case measure => simp [intOf]; omega
     | true =>
      simp only [Bool.not_true] at EQ
      go_wp2_with fail
      refine wp_region_held_drew (S := (fun W => (W.cell? ⟨g2, k * 5, none⟩ = some (Value.int .i64 yp) ∧ W.cell? ⟨g2, k * 5 + 1, none⟩ = some (Value.bool ys) ∧ W.cell? ⟨g2, k * 5 + 2, none⟩ = some (Value.int .u64 (yh : Int)) ∧ W.cell? ⟨g2, k * 5 + 3, none⟩ = some (Value.int .u64 (yl : Int)) ∧ W.cell? ⟨g2, k * 5 + 4, none⟩ = some (Value.bool yw)) ∧ (W.cell? ⟨g, i * 9 + 4, none⟩ = some (Value.int .i64 hp) ∧ W.cell? ⟨g, i * 9 + 5, none⟩ = some (Value.bool hs) ∧ W.cell? ⟨g, i * 9 + 6, none⟩ = some (Value.int .u64 (hh : Int)) ∧ W.cell? ⟨g, i * 9 + 7, none⟩ = some (Value.int .u64 (hl : Int)) ∧ W.cell? ⟨g, i * 9 + 8, none⟩ = some (Value.bool hw)))) (by kernel_rfl) ?_ (fun hHeld => ?_)
      ·(exact HC0.out)
      refine tkH 0 ?_
      refine tkH 1 ?_
      refine tkH 2 ?_
      refine tkH 3 ?_
      refine tkH 4 ?_
      refine tkH 5 ?_
      refine tkH 6 ?_
      refine tkH 7 ?_
      refine tkH 8 ?_
      refine tkH 9 ?_
      refine tkH 10 ?_
      refine tkH 11 ?_
      refine tkH 12 ?_
      refine tkH 13 ?_
      refine tkH 14 ?_
      refine tkH 15 ?_
      refine wpAnyH_done (by kernel_rfl) ?_ _
      obtain ⟨W6, hW6⟩ : ∃ W, wr.drew = W := ⟨_, rfl⟩
      have HT6 : Hid (Tch wo W6 []) := lH (hW6 ▸ hT2.out.drew)
      rw [hW6]
      clear hW6 k1 kI kD EQ
      have hyq : (yp, (ys, yh, yl), yw) = (hp, (hs, hh, hl), hw) := of_decide_eq_true HB.out
      have HQ : Hid (hpAt hs0 (hp, (hs, hh, hl), hw) = k + 1) := lH (by
       unfold hpAt
       exact fndI_succ.2 ⟨⟨_, HY.out, by simpa using hyq⟩, fun u z hu hz => by simpa using hno.out u z hu hz⟩)
      have HSn : Hid (numK l (i + 1) = ((numK l i).1 ++ [(((xs, xh, xl), xn), ((k + 1 : Nat) : Int))], (numK l i).2)) := lH (by
       rw [HSi.out]
       unfold numS
       rw [HH0.out, HQ.out, if_neg (by omega)])
      obtain ⟨K1, hK1⟩ : ∃ K1 : Int, (k : Int) + 1 = K1 := ⟨_, rfl⟩
      have k1 : IntKind.i64.wrap ((k : Int) + 1) = K1 := by rw [hK1, IntKind.wrap_i64]; have := HK9.out; omega
      have HKk : Hid (K1 = ((k + 1 : Nat) : Int)) := lH (by omega)
      obtain ⟨e0, e1, e2, e3, -⟩ := HEc.out W6 HT6.out
      have HR8 := lH (own_tch hR.out (HT6.out.alloc (.cells (rtC (((xs, xh, xl), xn), K1)).toArray 101)) (by simp))
      have HH8 := lH (HHc.out W6 HT6.out)
      have HSr2 := lH (src_new W6 101 (rtC (((xs, xh, xl), xn), K1)))
      have HSfa : Hid (i ≤ 1000000) := lH (by have := HK9.out; omega)
      have HSza : Hid (w.heap.size ≤ (W6.alloc (.cells (rtC (((xs, xh, xl), xn), K1)).toArray 101)).heap.size) := lH (((hT.out.trans HT6.out).alloc _).size)
      clear hyq hK1
      go_wp2_with (at_builtin; (refine wpList_apc 63 101 (.agg #[.bool false, .int .u64 0, .int .u64 0, .int .i64 0, .int .i64 0]) 5 40 Tryz.underlying63 infoRt rfl (by decide) (by decide) _ rfl (.tmp 44) (.tmp 53) rfl w.heap.size (.slice A1 i c1) i ((numK l i).1.flatMap rtC) rfl HR8.out ⟨W6.heap.size, 0, none⟩ 1 (rtC (((xs, xh, xl), xn), K1)) rfl rfl (fun j u hj => HSr2.out j u hj) (rt_one _) HSfa.out HSza.out ?_; intro v9 w9 hown hg hv; obtain ⟨A9, c9, e9, -, -⟩ := own_sl hown; subst e9; have HRz := lH hown; have hTg := Tch.of_grown' (S := obI (.slice A1 i c1)) hg (fun k e => by rw [obI_some e]; simp); have HTz : Hid (Tch W6 w9 (obI (.slice A1 i c1))) := lH ((((Tch.refl W6 []).alloc _).mono (by simp)).trans hTg); have HVz := lH (obI_app hv); clear hown hg hv hTg))
      have i1 := HI.out.2.2
      clear e0 e1 e2 e3
      go_wp2
      go_roundw
      case rel => exact ⟨i + 1, m, A9, some ⟨g2, 0, none⟩, c9, c2, rfl, rfl, by go_num, hin, lH (by rw [HSn.out]; show (numK l i).2.length = m; rw [HH0.out]; exact hk.out), lH (by rw [HSn.out]; unfold RowT; rw [List.flatMap_append, ← HKk.out]; exact HRz.out), lH (by rw [HSn.out]; show RowH w9 w.heap.size _ m c2 (numK l i).2; exact own_tch (own_tch hH.out HT6.out (by simp)) HTz.out (fun s hs h9 => hD.out s h9 hs)), lH (fun s hs h9 => by
       rcases HVz.out s hs with h8 | h8
       ·exact hD.out s h8 h9
       ·have h6 := (own_geI HH8.out s h9).2
        have h7 := h8.trans (zA _ _)
        omega), lH ((hT.out.trans HT6.out).trans_fre HTz.out (fun s hs => .inr (own_geI hR.out s hs).1))⟩
      case measure => simp [intOf]; omega
    ·have kI : ¬ (k : Int) < (m : Int) := by omega
     have kD : decide (k < m) = false := decide_eq_false hkl
     have kDI : decide ((k : Int) < (m : Int)) = false := decide_eq_false kI
     obtain rfl : k = m := by omega
     have HC0 : Hid (Tch wo wr.drew []) := lH hT2.out.drew
     go_wp2_with fail
     refine wp_region_held_drew (S := (fun W => Tch wo W [])) (by kernel_rfl) ?_ (fun hHeld => ?_)
     ·(exact HC0.out)
     refine tkH 0 ?_
     refine tkH 1 ?_
     refine tkH 2 ?_
     refine tkH 3 ?_
     refine tkH 4 ?_
     refine tkO 5 ?_
     refine tkO 6 ?_
     refine tkO 7 ?_
     refine tkO 8 ?_
     refine tkO 9 ?_
     refine tkO 10 ?_
     refine tkO 11 ?_
     refine tkO 12 ?_
     refine tkO 13 ?_
     refine tkO 14 ?_
     refine tkH 15 ?_
     refine wpAnyH_done (by kernel_rfl) ?_ _
     obtain ⟨W6, hW6⟩ : ∃ W, wr.drew = W := ⟨_, rfl⟩
     have HT6 : Hid (Tch wo W6 []) := lH (hW6 ▸ hT2.out.drew)
     rw [hW6]
     clear hW6 k1 kI kD kDI
     have HQ : Hid (hpAt hs0 (hp, (hs, hh, hl), hw) = 0) := lH (by
      unfold hpAt
      exact fndI_zero.2 fun u z hz => by
       have h1 := (List.getElem?_eq_some_iff.1 hz).1
       rw [hk.out] at h1
       simpa using hno.out u z h1 hz)
     have HSn : Hid (numK l (i + 1) = ((numK l i).1 ++ [(((xs, xh, xl), xn), ((k + 1 : Nat) : Int))], hs0 ++ [(hp, (hs, hh, hl), hw)])) := lH (by
      rw [HSi.out]
      unfold numS
      rw [HH0.out, if_pos HQ.out, hk.out])
     obtain ⟨K1, hK1⟩ : ∃ K1 : Int, (k : Int) + 1 = K1 := ⟨_, rfl⟩
     have k1 : IntKind.i64.wrap ((k : Int) + 1) = K1 := by rw [hK1, IntKind.wrap_i64]; have := HK9.out; omega
     have HKk : Hid (K1 = ((k + 1 : Nat) : Int)) := lH (by omega)
     obtain ⟨-, -, -, -, e4, e5, e6, e7, e8⟩ := HEc.out W6 HT6.out
     have HH8 := lH (own_tch (HHc.out W6 HT6.out) ((Tch.refl W6 []).alloc (.cells (hpC (hp, (hs, hh, hl), hw)).toArray 43)) (by simp))
     have HH8b : Hid (RowH (W6.alloc (.cells (hpC (hp, (hs, hh, hl), hw)).toArray 43)) w.heap.size A2 k c2 hs0) := lH (by
      have h1 := own_tch hH.out (HT6.out.alloc (.cells (hpC (hp, (hs, hh, hl), hw)).toArray 43)) (by simp)
      rw [HH0.out] at h1; exact h1)
     have HSr := lH (src_new W6 43 (hpC (hp, (hs, hh, hl), hw)))
     have HSf : Hid (k ≤ 1000000) := lH (by have := HK9.out; omega)
     have HSz7 : Hid (w.heap.size ≤ (W6.alloc (.cells (hpC (hp, (hs, hh, hl), hw)).toArray 43)).heap.size) := lH (((hT.out.trans HT6.out).alloc _).size)
     have HSfa : Hid (i ≤ 1000000) := lH (by have := HK9.out; omega)
     clear hK1
     go_wp2_with (first
      | (at_builtin; (refine wpList_apc 64 43 (.agg #[.int .i64 0, .bool false, .int .u64 0, .int .u64 0, .bool false]) 5 40 Tryz.underlying64 infoHp rfl (by decide) (by decide) _ rfl (.tmp 36) (.tmp 42) rfl w.heap.size (.slice A2 k c2) k (hs0.flatMap hpC) rfl HH8b.out ⟨W6.heap.size, 0, none⟩ 1 (hpC (hp, (hs, hh, hl), hw)) rfl rfl (fun j u hj => HSr.out j u hj) (hp_one _) HSf.out HSz7.out ?_; intro v7 w7 hown hg hv; obtain ⟨A7, c7, e7', -, -⟩ := own_sl hown; subst e7'; have HH7 := lH hown; have hTg := Tch.of_grown' (S := obI (.slice A2 k c2)) hg (fun k e => by rw [obI_some e]; simp); have HT7 : Hid (Tch W6 w7 (obI (.slice A2 k c2))) := lH ((((Tch.refl W6 []).alloc _).mono (by simp)).trans hTg); have HV7 := lH (obI_app hv); have HTo7 : Hid (Tch wo w7 (obI (.slice A2 k c2))) := lH ((HT6.out.mono (by simp)).trans HT7.out); have HTw7 : Hid (Tch w w7 []) := lH ((hT.out.trans HT6.out).trans_fre HT7.out (fun s hs => .inr (own_geI hH.out s hs).1)); have HR7 := lH (own_tch hR.out HTo7.out hD.out); obtain ⟨f0, f1, f2, f3, -⟩ := en_cells (HRow.out w7 HTw7.out) HXx.out; have HR8 := lH (own_tch HR7.out ((Tch.refl w7 []).alloc (.cells (rtC (((xs, xh, xl), xn), K1)).toArray 101)) (by simp)); have HSr2 := lH (src_new w7 101 (rtC (((xs, xh, xl), xn), K1))); have HSza : Hid (w.heap.size ≤ (w7.alloc (.cells (rtC (((xs, xh, xl), xn), K1)).toArray 101)).heap.size) := lH ((HTw7.out.alloc _).size); have HD7 : Hid (∀ s ∈ obI (.slice A7 (k + 1) c7), s ∉ obI (.slice A1 i c1)) := lH (fun s hs h9 => by rcases HV7.out s hs with h8 | h8; exact hD.out s h9 h8; (have h6 := (own_geI hR.out s h9).2; have h7 := h8.trans (zA _ _); have h5 := HT6.out.size; omega)); clear hown hg hv hTg e4 e5 e6 e7 e8))
      | (at_builtin; (refine wpList_apc 63 101 (.agg #[.bool false, .int .u64 0, .int .u64 0, .int .i64 0, .int .i64 0]) 5 40 Tryz.underlying63 infoRt rfl (by decide) (by decide) _ rfl (.tmp 44) (.tmp 53) rfl w.heap.size (.slice A1 i c1) i ((numK l i).1.flatMap rtC) rfl HR8.out ⟨w7.heap.size, 0, none⟩ 1 (rtC (((xs, xh, xl), xn), K1)) rfl rfl (fun j u hj => HSr2.out j u hj) (rt_one _) HSfa.out HSza.out ?_; intro v9 w9 hown hg hv; obtain ⟨A9, c9, e9, -, -⟩ := own_sl hown; subst e9; have HRz := lH hown; have hTg := Tch.of_grown' (S := obI (.slice A1 i c1)) hg (fun k e => by rw [obI_some e]; simp); have HTz : Hid (Tch w7 w9 (obI (.slice A1 i c1))) := lH ((((Tch.refl w7 []).alloc _).mono (by simp)).trans hTg); have HVz := lH (obI_app hv); clear hown hg hv hTg)))
     have i1 := HI.out.2.2
     clear f0 f1 f2 f3
     go_wp2
     go_roundw
     case rel => exact ⟨i + 1, k + 1, A9, A7, c9, c7, rfl, rfl, by go_num, hin, lH (by rw [HSn.out]; show (hs0 ++ _).length = k + 1; rw [List.length_append, hk.out]; rfl), lH (by rw [HSn.out]; unfold RowT; rw [List.flatMap_append, ← HKk.out]; exact HRz.out), lH (by rw [HSn.out]; unfold RowH; rw [List.flatMap_append]; exact own_tch HH7.out HTz.out (fun s hs h9 => HD7.out s hs h9)), lH (fun s hs h9 => by
      rcases HVz.out s hs with h8 | h8
      ·exact HD7.out s h9 h8
      ·have h6 := (own_geI HH7.out s h9).2
       have h7 := h8.trans (zA _ _)
       omega), lH (HTw7.out.trans_fre HTz.out (fun s hs => .inr (own_geI hR.out s hs).1))⟩
     case measure => simp [intOf]; omega
  ·have iI : ¬ (i : Int) < (n : Int) := by omega
   obtain rfl : i = n := by omega
   have HR9 := lH hR.out
   rw [HAl.out] at hR hH hk
   obtain rfl := hk.out
   go_wp2
   go_ret2
   exact ⟨A1, c1, A2, c2, rfl, hR.out, hH.out, hD.out, hT.out⟩
end Go.Proofs.YtgfkmgbcajdcdaaGreatDoor

namespace Go.Proofs.YtgfkmgbcajdcdaaGreatDoor
open Go.RowKit Ifs

def bstV (o : Option Nat) : Int := match o with
 | none => -1
 | some b => (b : Int)
abbrev lookV (o : Option HpI) : Value := .tuple #[hpR (o.getD zeroH), .bool o.isSome]
theorem bstK_succ {l : List EnI} {a : AdR} {k : Nat} {e : EnI} (h : l[k]? = some e) : bstK l a (k + 1) = if (hldP e.1 a && (match bstK l a k with | none => true | some b => decide (bitsE l b < e.1.2))) = true then some k else bstK l a k := by
 rw [bstK, h]
 rfl
theorem rlook_any (A : Option Addr) (n c : Nat) (l : List EnI) (hn : l.length = n) (hn9 : n ≤ 1000000) (a : AdR) (ha : N64 a.2.1 ∧ N64 a.2.2) (w : World) (h : RowE w 0 A n c l) :
  Calls Tryz.prog 29 #[.slice A n c, adR a] w fun e w' => e = .returned (lookV (lookI l a)) ∧ Tch w w' [] := by
 have HRow := lH (fun W (hT : Tch w W []) => own_tch h hT (by simp))
 have HN := lH hn
 have HA := lH ha
 have HLk : Hid (lookI l a = match bstK l a l.length with | none => none | some i => (l[i]?).map (·.2)) := lH rfl
 have HSp := lH (fun k hk => bstK_spec l a k hk)
 have HSu := lH (fun k e (he : l[k]? = some e) => bstK_succ (a := a) he)
 obtain ⟨o9, ho9⟩ : ∃ o, lookI l a = o := ⟨_, rfl⟩
 rw [ho9] at HLk ⊢
 obtain ⟨ads, ah, al⟩ := a
 obtain ⟨ab, hab⟩ : ∃ ab, w.heap.size = ab := ⟨_, rfl⟩
 obtain ⟨W1, hW1⟩ : ∃ W, w.alloc (.cells #[.bool ads, .int .u64 (ah : Int), .int .u64 (al : Int)] 28) = W := ⟨_, rfl⟩
 obtain ⟨rb, hrb⟩ : ∃ rb, ab + 1 = rb := ⟨_, rfl⟩
 obtain ⟨W0, hW0⟩ : ∃ W, W1.alloc (.cells #[.int .i64 0, .bool false, .int .u64 0, .int .u64 0, .bool false] 43) = W := ⟨_, rfl⟩
 have z1 : W1.heap.size = rb := by rw [← hW1, zA, hab, hrb]
 have hT0 : Tch w W0 [] := hW0 ▸ hW1 ▸ (((Tch.refl w []).alloc _).alloc _)
 have hX : Blk W0 ab 28 #[.bool ads, .int .u64 (ah : Int), .int .u64 (al : Int)] := hW0 ▸ hW1 ▸ hab ▸ ((Blk.new w _ _).alloc _)
 have hR : Blk W0 rb 43 #[.int .i64 0, .bool false, .int .u64 0, .int .u64 0, .bool false] := hW0 ▸ z1 ▸ (Blk.new W1 _ _)
 have HT0 := lH hT0
 have HW0 : Hid ((w.alloc (.cells #[.bool ads, .int .u64 (ah : Int), .int .u64 (al : Int)] 28)).alloc (.cells #[.int .i64 0, .bool false, .int .u64 0, .int .u64 0, .bool false] 43) = W0) := lH (by rw [hW1, hW0])
 have HSz : Hid (w.heap.size = ab ∧ ab + 1 = rb) := lH (by omega)
 have HX := lH (fun W (hT : Tch W0 W []) => hT.blk hX (by simp))
 have HR := lH (fun W (hT : Tch W0 W []) => hT.blk hR (by simp))
 clear hn ha h ho9 hab hrb hW1 hW0 z1 hT0 hX hR
 go_enter Tryz.func29, Tryz.ntmps29
 go_wp2
 rw [HW0.out, HSz.out.1, HSz.out.2]
 go_loopw [6, 11] (fun bv iv wr => ∃ (i : Nat) (o : Option Nat), bv = .int .i64 (bstV o) ∧ iv = .int .i64 (i : Int) ∧ i ≤ n ∧ Hid (bstK l (ads, ah, al) i = o) ∧ Hid (Tch W0 wr [])) (fun _ iv _ => n - (intOf iv).toNat)
 case atStart => exact ⟨0, none, rfl, rfl, Nat.zero_le _, lH rfl, lH (Tch.refl _ _)⟩
 case round =>
  obtain ⟨i, o, rfl, rfl, hi, hb, hT⟩ := hrel
  by_cases hin : i < n
  ·have iI : (i : Int) < (n : Int) := by omega
   have i0 : (0 : Int) ≤ (i : Int) := by omega
   have i1 : IntKind.i64.wrap ((i : Int) + 1) = (i : Int) + 1 := by rw [IntKind.wrap_i64]; omega
   obtain ⟨x, hx⟩ : ∃ x, l[i]? = some x := ⟨_, List.getElem?_eq_getElem (by rw [HN.out]; exact hin)⟩
   have HSi := lH (HSu.out i x hx)
   have HSp' := HSp.out i (by rw [HN.out]; omega)
   have ho2 := HRow.out wr (HT0.out.trans hT.out)
   obtain ⟨g, rfl⟩ := slice_some ho2 (by omega)
   obtain ⟨t0, t1, t2, t3, t4, t5, t6, t7, t8⟩ := en_cells ho2 hx
   obtain ⟨⟨⟨xs, xh, xl⟩, xn⟩, ⟨hp, ⟨hs, hh, hl⟩, hw⟩⟩ := x
   obtain ⟨hd, hhd⟩ : ∃ b, hldP ((xs, xh, xl), xn) (ads, ah, al) = b := ⟨_, rfl⟩
   have HHo := lH (fun W => holds_at xs xh xl xn ads ah al HA.out.1 HA.out.2 hhd W)
   rw [hhd] at HSi
   obtain ⟨eb, heb⟩ : ∃ eb, wr.heap.size = eb := ⟨_, rfl⟩
   obtain ⟨W6, hW6⟩ : ∃ W, wr.alloc (.cells #[.bool xs, .int .u64 (xh : Int), .int .u64 (xl : Int), .int .i64 xn, .int .i64 hp, .bool hs, .int .u64 (hh : Int), .int .u64 (hl : Int), .bool hw] 70) = W := ⟨_, rfl⟩
   have hE6 : Blk W6 eb 70 #[.bool xs, .int .u64 (xh : Int), .int .u64 (xl : Int), .int .i64 xn, .int .i64 hp, .bool hs, .int .u64 (hh : Int), .int .u64 (hl : Int), .bool hw] := hW6 ▸ heb ▸ Blk.new wr _ _
   have HT6 : Hid (Tch W0 W6 []) := lH (hW6 ▸ hT.out.alloc _)
   have HE := lH (fun W (hW : Tch W6 W []) => hW.blk hE6 (by simp))
   have HW6 := lH (And.intro hW6 heb)
   clear hx ho2 hhd hW6 heb hE6
   cases o with
   | none =>
    have HC := lH (fun W (hW : Tch W6 W []) => show ((W.cell? ⟨eb, 0, none⟩ = some (Value.bool xs) ∧ W.cell? ⟨eb, 1, none⟩ = some (Value.int .u64 (xh : Int)) ∧ W.cell? ⟨eb, 2, none⟩ = some (Value.int .u64 (xl : Int)) ∧ W.cell? ⟨eb, 3, none⟩ = some (Value.int .i64 xn)) ∧ (W.cell? ⟨ab, 0, none⟩ = some (Value.bool ads) ∧ W.cell? ⟨ab, 1, none⟩ = some (Value.int .u64 (ah : Int)) ∧ W.cell? ⟨ab, 2, none⟩ = some (Value.int .u64 (al : Int)))) from ⟨⟨((HE.out W hW).cell 0).trans rfl, ((HE.out W hW).cell 1).trans rfl, ((HE.out W hW).cell 2).trans rfl, ((HE.out W hW).cell 3).trans rfl⟩, (HX.out W (HT6.out.trans hW)).c3⟩)
    have HC0 := lH (HC.out _ (Tch.refl W6 []).drew)
    rw [hb.out] at HSi
    have HSi' := HSi.out
    simp only [Bool.and_true] at HSi'
    have HSj := lH HSi'
    simp only [bstV]
    clear HSi HSi' HSp'
    go_wp2_with fail
    rw [HW6.out.1, HW6.out.2]
    clear t0 t1 t2 t3 t4 t5 t6 t7 t8
    cases hd with
    | false =>
     have HSn : Hid (bstK l (ads, ah, al) (i + 1) = none) := lH (by rw [HSj.out]; rfl)
     refine wp_region_held_drew (S := (fun W => (W.cell? ⟨eb, 0, none⟩ = some (Value.bool xs) ∧ W.cell? ⟨eb, 1, none⟩ = some (Value.int .u64 (xh : Int)) ∧ W.cell? ⟨eb, 2, none⟩ = some (Value.int .u64 (xl : Int)) ∧ W.cell? ⟨eb, 3, none⟩ = some (Value.int .i64 xn)) ∧ (W.cell? ⟨ab, 0, none⟩ = some (Value.bool ads) ∧ W.cell? ⟨ab, 1, none⟩ = some (Value.int .u64 (ah : Int)) ∧ W.cell? ⟨ab, 2, none⟩ = some (Value.int .u64 (al : Int))))) (by kernel_rfl) ?_ (fun hHeld => ?_)
     ·(first | exact HC0.out | exact HC5.out)
     refine tkH 0 ?_
     refine tkH 1 ?_
     refine tkH 2 ?_
     refine wpAnyH_ready (rs := [3]) (by kernel_rfl) (by simp) ?_
     refine AllReadyH.cons (o := { dst := some 19, op := Go.Op.call { callee := Go.Callee.value (Go.Operand.func 69), args := #[Go.Operand.tmp 17, Go.Operand.tmp 18], argTypes := #[30, 28] }, type := 4, pos := "entries.go:13", after := #[{ on := 1, ground := Go.Ground.data }, { on := 2, ground := Go.Ground.data }], guard := none }) rfl (fun K hK => ?_) AllReadyH.nil
     go_simp
     (go_at_call 69; (with_reducible refine cZm (HHo.out _) ?_); rintro e w5 ⟨rfl, hb5⟩; have HT5 := lH ((Tch.of_below [] hb5).of_drew); have HC5 := lH (HC.out w5 HT5.out); clear hb5)
     go_wp2_with fail
     refine hK.out _ _ ?_ (fun hHeld => ?_)
     ·(first | exact HC0.out | exact HC5.out)
     clear hK K
     try simp only [Act.put, List.setIfInBounds_toArray, List.set_cons_zero, List.set_cons_succ]
     refine tkH 4 ?_
     refine tkO 5 ?_
     refine tkO 6 ?_
     refine tkO 7 ?_
     refine tkO 8 ?_
     refine tkO 9 ?_
     refine tkO 10 ?_
     refine tkO 11 ?_
     refine tkO 12 ?_
     refine tkO 13 ?_
     refine tkO 14 ?_
     refine tkO 15 ?_
     refine tkO 16 ?_
     refine tkO 17 ?_
     refine tkO 18 ?_
     refine tkH 19 ?_
     refine wpAnyH_done (by kernel_rfl) ?_ _
     go_wp2
     go_roundw
     case rel => exact ⟨i + 1, none, rfl, by go_num, hin, HSn, lH (HT6.out.trans HT5.out)⟩
     case measure => simp [intOf]; omega
    | true =>
     have HSn : Hid (bstK l (ads, ah, al) (i + 1) = some i) := lH (by rw [HSj.out]; rfl)
     refine wp_region_held_drew (S := (fun W => (W.cell? ⟨eb, 0, none⟩ = some (Value.bool xs) ∧ W.cell? ⟨eb, 1, none⟩ = some (Value.int .u64 (xh : Int)) ∧ W.cell? ⟨eb, 2, none⟩ = some (Value.int .u64 (xl : Int)) ∧ W.cell? ⟨eb, 3, none⟩ = some (Value.int .i64 xn)) ∧ (W.cell? ⟨ab, 0, none⟩ = some (Value.bool ads) ∧ W.cell? ⟨ab, 1, none⟩ = some (Value.int .u64 (ah : Int)) ∧ W.cell? ⟨ab, 2, none⟩ = some (Value.int .u64 (al : Int))))) (by kernel_rfl) ?_ (fun hHeld => ?_)
     ·(first | exact HC0.out | exact HC5.out)
     refine tkH 0 ?_
     refine tkH 1 ?_
     refine tkH 2 ?_
     refine wpAnyH_ready (rs := [3]) (by kernel_rfl) (by simp) ?_
     refine AllReadyH.cons (o := { dst := some 19, op := Go.Op.call { callee := Go.Callee.value (Go.Operand.func 69), args := #[Go.Operand.tmp 17, Go.Operand.tmp 18], argTypes := #[30, 28] }, type := 4, pos := "entries.go:13", after := #[{ on := 1, ground := Go.Ground.data }, { on := 2, ground := Go.Ground.data }], guard := none }) rfl (fun K hK => ?_) AllReadyH.nil
     go_simp
     (go_at_call 69; (with_reducible refine cZm (HHo.out _) ?_); rintro e w5 ⟨rfl, hb5⟩; have HT5 := lH ((Tch.of_below [] hb5).of_drew); have HC5 := lH (HC.out w5 HT5.out); clear hb5)
     go_wp2_with fail
     refine hK.out _ _ ?_ (fun hHeld => ?_)
     ·(first | exact HC0.out | exact HC5.out)
     clear hK K
     try simp only [Act.put, List.setIfInBounds_toArray, List.set_cons_zero, List.set_cons_succ]
     refine tkH 4 ?_
     refine tkH 5 ?_
     refine tkH 6 ?_
     refine tkH 7 ?_
     refine tkO 8 ?_
     refine tkO 9 ?_
     refine tkO 10 ?_
     refine tkO 11 ?_
     refine tkO 12 ?_
     refine tkO 13 ?_
     refine tkO 14 ?_
     refine tkO 15 ?_
     refine tkO 16 ?_
     refine tkO 17 ?_
     refine tkH 18 ?_
     refine tkH 19 ?_
     refine wpAnyH_done (by kernel_rfl) ?_ _
     go_wp2
     go_roundw
     case rel => exact ⟨i + 1, some i, rfl, by go_num, hin, HSn, lH (HT6.out.trans HT5.out)⟩
     case measure => simp [intOf]; omega
   | some b =>
    rw [hb.out] at HSi HSp'
    simp only at HSp'
    obtain ⟨y, hy, hbi, -, -, -⟩ := HSp'
    have hbn : b < n := by omega
    have bI : (b : Int) < (n : Int) := by omega
    have b0 : (0 : Int) ≤ (b : Int) := by omega
    have bl : ¬ (b : Int) < 0 := by omega
    have dl : decide ((b : Int) < 0) = false := decide_eq_false bl
    have hby : bitsE l b = y.1.2 := by unfold bitsE; rw [hy]; rfl
    obtain ⟨⟨⟨ys, yh, yl⟩, yn⟩, yhp⟩ := y
    have HTb := lH (fun W (hW : Tch W6 W []) => (en_cells (HRow.out W (HT0.out.trans (HT6.out.trans hW))) hy).2.2.2.1)
    obtain ⟨q, hq⟩ : ∃ q, decide (yn < xn) = q := ⟨_, rfl⟩
    have hq' : decide (xn > yn) = q := hq
    have HC := lH (fun W (hW : Tch W6 W []) => show ((W.cell? ⟨eb, 0, none⟩ = some (Value.bool xs) ∧ W.cell? ⟨eb, 1, none⟩ = some (Value.int .u64 (xh : Int)) ∧ W.cell? ⟨eb, 2, none⟩ = some (Value.int .u64 (xl : Int)) ∧ W.cell? ⟨eb, 3, none⟩ = some (Value.int .i64 xn)) ∧ (W.cell? ⟨ab, 0, none⟩ = some (Value.bool ads) ∧ W.cell? ⟨ab, 1, none⟩ = some (Value.int .u64 (ah : Int)) ∧ W.cell? ⟨ab, 2, none⟩ = some (Value.int .u64 (al : Int))) ∧ W.cell? ⟨g, b * 9 + 3, none⟩ = some (Value.int .i64 yn)) from ⟨⟨((HE.out W hW).cell 0).trans rfl, ((HE.out W hW).cell 1).trans rfl, ((HE.out W hW).cell 2).trans rfl, ((HE.out W hW).cell 3).trans rfl⟩, (HX.out W (HT6.out.trans hW)).c3, HTb.out W hW⟩)
    have HC0 := lH (HC.out _ (Tch.refl W6 []).drew)
    have HSi' := HSi.out
    simp only [hby, hq] at HSi'
    have HSj := lH HSi'
    have HQ := lH (And.intro hq hq')
    simp only [bstV]
    clear HSi HSi' hy hby hq hq'
    go_wp2_with fail
    rw [HW6.out.1, HW6.out.2]
    clear t0 t1 t2 t3 t4 t5 t6 t7 t8
    cases hd with
    | false =>
     have HSn : Hid (bstK l (ads, ah, al) (i + 1) = some b) := lH (by rw [HSj.out]; rfl)
     refine wp_region_held_drew (S := (fun W => (W.cell? ⟨eb, 0, none⟩ = some (Value.bool xs) ∧ W.cell? ⟨eb, 1, none⟩ = some (Value.int .u64 (xh : Int)) ∧ W.cell? ⟨eb, 2, none⟩ = some (Value.int .u64 (xl : Int)) ∧ W.cell? ⟨eb, 3, none⟩ = some (Value.int .i64 xn)) ∧ (W.cell? ⟨ab, 0, none⟩ = some (Value.bool ads) ∧ W.cell? ⟨ab, 1, none⟩ = some (Value.int .u64 (ah : Int)) ∧ W.cell? ⟨ab, 2, none⟩ = some (Value.int .u64 (al : Int))) ∧ W.cell? ⟨g, b * 9 + 3, none⟩ = some (Value.int .i64 yn))) (by kernel_rfl) ?_ (fun hHeld => ?_)
     ·(first | exact HC0.out | exact HC5.out)
     refine tkH 0 ?_
     refine tkH 1 ?_
     refine tkH 2 ?_
     refine wpAnyH_ready (rs := [3]) (by kernel_rfl) (by simp) ?_
     refine AllReadyH.cons (o := { dst := some 19, op := Go.Op.call { callee := Go.Callee.value (Go.Operand.func 69), args := #[Go.Operand.tmp 17, Go.Operand.tmp 18], argTypes := #[30, 28] }, type := 4, pos := "entries.go:13", after := #[{ on := 1, ground := Go.Ground.data }, { on := 2, ground := Go.Ground.data }], guard := none }) rfl (fun K hK => ?_) AllReadyH.nil
     go_simp
     (go_at_call 69; (with_reducible refine cZm (HHo.out _) ?_); rintro e w5 ⟨rfl, hb5⟩; have HT5 := lH ((Tch.of_below [] hb5).of_drew); have HC5 := lH (HC.out w5 HT5.out); clear hb5)
     go_wp2_with fail
     refine hK.out _ _ ?_ (fun hHeld => ?_)
     ·(first | exact HC0.out | exact HC5.out)
     clear hK K
     try simp only [Act.put, List.setIfInBounds_toArray, List.set_cons_zero, List.set_cons_succ]
     refine tkH 4 ?_
     refine tkO 5 ?_
     refine tkO 6 ?_
     refine tkO 7 ?_
     refine tkO 8 ?_
     refine tkO 9 ?_
     refine tkO 10 ?_
     refine tkO 11 ?_
     refine tkO 12 ?_
     refine tkO 13 ?_
     refine tkO 14 ?_
     refine tkO 15 ?_
     refine tkO 16 ?_
     refine tkO 17 ?_
     refine tkO 18 ?_
     refine tkH 19 ?_
     refine wpAnyH_done (by kernel_rfl) ?_ _
     go_wp2
     go_roundw
     case rel => exact ⟨i + 1, some b, rfl, by go_num, hin, HSn, lH (HT6.out.trans HT5.out)⟩
     case measure => simp [intOf]; omega
    | true =>
     have hq1 := HQ.out.1
     have hq2 := HQ.out.2
     cases q with
     | false =>
      have HSn : Hid (bstK l (ads, ah, al) (i + 1) = some b) := lH (by rw [HSj.out]; rfl)
      refine wp_region_held_drew (S := (fun W => (W.cell? ⟨eb, 0, none⟩ = some (Value.bool xs) ∧ W.cell? ⟨eb, 1, none⟩ = some (Value.int .u64 (xh : Int)) ∧ W.cell? ⟨eb, 2, none⟩ = some (Value.int .u64 (xl : Int)) ∧ W.cell? ⟨eb, 3, none⟩ = some (Value.int .i64 xn)) ∧ (W.cell? ⟨ab, 0, none⟩ = some (Value.bool ads) ∧ W.cell? ⟨ab, 1, none⟩ = some (Value.int .u64 (ah : Int)) ∧ W.cell? ⟨ab, 2, none⟩ = some (Value.int .u64 (al : Int))) ∧ W.cell? ⟨g, b * 9 + 3, none⟩ = some (Value.int .i64 yn))) (by kernel_rfl) ?_ (fun hHeld => ?_)
      ·(first | exact HC0.out | exact HC5.out)
      refine tkH 0 ?_
      refine tkH 1 ?_
      refine tkH 2 ?_
      refine wpAnyH_ready (rs := [3]) (by kernel_rfl) (by simp) ?_
      refine AllReadyH.cons (o := { dst := some 19, op := Go.Op.call { callee := Go.Callee.value (Go.Operand.func 69), args := #[Go.Operand.tmp 17, Go.Operand.tmp 18], argTypes := #[30, 28] }, type := 4, pos := "entries.go:13", after := #[{ on := 1, ground := Go.Ground.data }, { on := 2, ground := Go.Ground.data }], guard := none }) rfl (fun K hK => ?_) AllReadyH.nil
      go_simp
      (go_at_call 69; (with_reducible refine cZm (HHo.out _) ?_); rintro e w5 ⟨rfl, hb5⟩; have HT5 := lH ((Tch.of_below [] hb5).of_drew); have HC5 := lH (HC.out w5 HT5.out); clear hb5)
      go_wp2_with fail
      refine hK.out _ _ ?_ (fun hHeld => ?_)
      ·(first | exact HC0.out | exact HC5.out)
      clear hK K
      try simp only [Act.put, List.setIfInBounds_toArray, List.set_cons_zero, List.set_cons_succ]
      refine tkH 4 ?_
      refine tkH 5 ?_
      refine tkH 6 ?_
      refine tkH 7 ?_
      refine tkH 8 ?_
      refine tkH 9 ?_
      refine tkH 10 ?_
      refine tkH 11 ?_
      refine tkH 12 ?_
      refine tkH 13 ?_
      refine tkH 14 ?_
      refine tkH 15 ?_
      refine tkH 16 ?_
      refine tkH 17 ?_
      refine tkH 18 ?_
      refine tkH 19 ?_
      refine wpAnyH_done (by kernel_rfl) ?_ _
      clear hq1 hq2
      go_wp2
      go_roundw
      case rel => exact ⟨i + 1, some b, rfl, by go_num, hin, HSn, lH (HT6.out.trans HT5.out)⟩
      case measure => simp [intOf]; omega
     | true =>
      have HSn : Hid (bstK l (ads, ah, al) (i + 1) = some i) := lH (by rw [HSj.out]; rfl)
      refine wp_region_held_drew (S := (fun W => (W.cell? ⟨eb, 0, none⟩ = some (Value.bool xs) ∧ W.cell? ⟨eb, 1, none⟩ = some (Value.int .u64 (xh : Int)) ∧ W.cell? ⟨eb, 2, none⟩ = some (Value.int .u64 (xl : Int)) ∧ W.cell? ⟨eb, 3, none⟩ = some (Value.int .i64 xn)) ∧ (W.cell? ⟨ab, 0, none⟩ = some (Value.bool ads) ∧ W.cell? ⟨ab, 1, none⟩ = some (Value.int .u64 (ah : Int)) ∧ W.cell? ⟨ab, 2, none⟩ = some (Value.int .u64 (al : Int))) ∧ W.cell? ⟨g, b * 9 + 3, none⟩ = some (Value.int .i64 yn))) (by kernel_rfl) ?_ (fun hHeld => ?_)
      ·(first | exact HC0.out | exact HC5.out)
      refine tkH 0 ?_
      refine tkH 1 ?_
      refine tkH 2 ?_
      refine wpAnyH_ready (rs := [3]) (by kernel_rfl) (by simp) ?_
      refine AllReadyH.cons (o := { dst := some 19, op := Go.Op.call { callee := Go.Callee.value (Go.Operand.func 69), args := #[Go.Operand.tmp 17, Go.Operand.tmp 18], argTypes := #[30, 28] }, type := 4, pos := "entries.go:13", after := #[{ on := 1, ground := Go.Ground.data }, { on := 2, ground := Go.Ground.data }], guard := none }) rfl (fun K hK => ?_) AllReadyH.nil
      go_simp
      (go_at_call 69; (with_reducible refine cZm (HHo.out _) ?_); rintro e w5 ⟨rfl, hb5⟩; have HT5 := lH ((Tch.of_below [] hb5).of_drew); have HC5 := lH (HC.out w5 HT5.out); clear hb5)
      go_wp2_with fail
      refine hK.out _ _ ?_ (fun hHeld => ?_)
      ·(first | exact HC0.out | exact HC5.out)
      clear hK K
      try simp only [Act.put, List.setIfInBounds_toArray, List.set_cons_zero, List.set_cons_succ]
      refine tkH 4 ?_
      refine tkH 5 ?_
      refine tkH 6 ?_
      refine tkH 7 ?_
      refine tkH 8 ?_
      refine tkH 9 ?_
      refine tkH 10 ?_
      refine tkH 11 ?_
      refine tkH 12 ?_
      refine tkH 13 ?_
      refine tkH 14 ?_
      refine tkH 15 ?_
      refine tkH 16 ?_
      refine tkH 17 ?_
      refine tkH 18 ?_
      refine tkH 19 ?_
      refine wpAnyH_done (by kernel_rfl) ?_ _
      clear hq1 hq2
      go_wp2
      go_roundw
      case rel => exact ⟨i + 1, some i, rfl, by go_num, hin, HSn, lH (HT6.out.trans HT5.out)⟩
      case measure => simp [intOf]; omega
  ·obtain rfl : i = n := by omega
   have iI : ¬ (i : Int) < (i : Int) := by omega
   have HRi := lH (HR.out wr hT.out)
   have HTw := lH (HT0.out.trans hT.out)
   have HSz' := lH HSz.out
   cases o with
   | none =>
    have HO : Hid (o9 = none) := lH (by rw [HLk.out, HN.out, hb.out])
    simp only [bstV]
    go_wp2_with (refine wpList_sta rfl 43 (.tmp 4) (.tmp 40) rfl rb 0 #[.int .i64 0, .bool false, .int .u64 0, .int .u64 0, .bool false] rfl rfl 43 _ HRi.out 5 hpSz rfl (show 0 + 5 ≤ 5 from by decide) (by simp [Value.oneCell']) ?_; intro w6 hs6; have HS6 := lH hs6; clear hs6)
    obtain ⟨z0, z1, z2, z3, z4⟩ := (sta_whole HS6.out rfl).h5
    exact bodyPost_ret (v := .tuple #[.agg #[.int .i64 0, .bool false, .int .u64 0, .int .u64 0, .bool false], .bool false]) (by simp [results, Tryz.results29, go_sem, z0, z1, z2, z3, z4]) rfl ⟨by rw [HO.out]; rfl, HTw.out.trans_fre HS6.out.tch (by simp; have := HSz'.out; omega)⟩
   | some b =>
    have HSp' := HSp.out i (by rw [HN.out]; omega)
    rw [hb.out] at HSp'
    simp only at HSp'
    obtain ⟨y, hy, hbi, -, -, -⟩ := HSp'
    have bI : (b : Int) < (i : Int) := by omega
    have b0 : (0 : Int) ≤ (b : Int) := by omega
    have bl : ¬ (b : Int) < 0 := by omega
    have HO : Hid (o9 = some y.2) := lH (by rw [HLk.out, HN.out, hb.out]; simp only; rw [hy]; rfl)
    have ho2 := HRow.out wr HTw.out
    obtain ⟨g, rfl⟩ := slice_some ho2 (by omega)
    obtain ⟨t0, t1, t2, t3, t4, t5, t6, t7, t8⟩ := en_cells ho2 hy
    obtain ⟨yp, ⟨hp, ⟨hs, hh, hl⟩, hw⟩⟩ := y
    simp only [bstV]
    clear ho2 hy hbi hi
    go_wp2_with (refine wpList_sta rfl 43 (.tmp 4) (.tmp 45) rfl rb 0 #[.int .i64 hp, .bool hs, .int .u64 (hh : Int), .int .u64 (hl : Int), .bool hw] rfl rfl 43 _ HRi.out 5 hpSz rfl (show 0 + 5 ≤ 5 from by decide) (by simp [Value.oneCell']) ?_; intro w6 hs6; have HS6 := lH hs6; clear hs6)
    obtain ⟨z0, z1, z2, z3, z4⟩ := (sta_whole HS6.out rfl).h5
    exact bodyPost_ret (v := .tuple #[.agg #[.int .i64 hp, .bool hs, .int .u64 (hh : Int), .int .u64 (hl : Int), .bool hw], .bool true]) (by simp [results, Tryz.results29, go_sem, z0, z1, z2, z3, z4]) rfl ⟨by rw [HO.out]; rfl, HTw.out.trans_fre HS6.out.tch (by simp; have := HSz'.out; omega)⟩
end Go.Proofs.YtgfkmgbcajdcdaaGreatDoor

namespace Go.Proofs.YtgfkmgbcajdcdaaGreatDoor
open Go.RowKit

end Go.Proofs.YtgfkmgbcajdcdaaGreatDoor

namespace Go.Proofs.YtgfkmgbcajdcdaaGreatDoor
open Go.ChangeShapes Go.WideShapes Go.ChangeAt Go.RowKit

theorem own : ownKnob Tryz.prog.godebug = none := by kernel_rfl
theorem laidOut : laidOutB Tryz.prog = true := by kernel_rfl

section
variable {H : Type} {P : Program} {enc : TypeId × Value → H} {W : World}
end
end Go.Proofs.YtgfkmgbcajdcdaaGreatDoor
