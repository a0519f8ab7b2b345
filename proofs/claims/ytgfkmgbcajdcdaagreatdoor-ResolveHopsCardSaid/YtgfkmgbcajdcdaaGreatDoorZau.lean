/-
  Several texts in one: RbG, RbH, RbI.
-/
import Derived.Test.YtgfkmgbcajdcdaaGreatDoorZat
import Derived.Test.YtgfkmgbcajdcdaaGreatDoorZad
import Derived.Test.YtgfkmgbcajdcdaaGreatDoorZaa
set_option linter.unusedVariables false
set_option maxRecDepth 100000
set_option maxHeartbeats 16000000
namespace Go.Proofs.YtgfkmgbcajdcdaaGreatDoor
open Go.RowKit

theorem wpList_apx (tS tE : TypeId) (zv : Value) (sz by_ : Nat) (hu : Tryz.prog.underlying tS = some (.slice tE)) (hinf : (Tryz.prog.info? tE).map (fun i => (i.zero, i.size, i.bytes)) = some (some zv, sz, by_)) (hzs : zv.cells.size = sz) (hsz : 0 < sz) (hby : by_ ≤ 1000)
  (w : World) {ops : Array Oper} {rest : List Oper} {o : Oper} {a : Act} {Q : Exit → Act → World → Prop} (hgd : o.guard = none) (s x : Operand)
  (ho : o.op = .call { callee := .builtin .append, args := #[s, x], argTypes := #[tS, tS] })
  (base : Nat) (v : Value) (n : Nat) (xs : List Value) (hs : a.eval s = v) (hown : w.ownsRow base tE sz v n xs)
  (ad : Addr) (m c : Nat) (e : List Value) (hx : a.eval x = .slice (some ad) m c) (hl : e.length = m * sz) (hc : ∀ j u, e[j]? = some u → w.cell? (ad.add j) = some u) (h1 : ∀ u ∈ e, u.oneCell' = true)
  (hn : n + m ≤ 1000000) (hbase : base ≤ w.heap.size)
  (h : ∀ v' w', w'.ownsRow base tE sz v' (n + m) (xs ++ e) → w.grownBy w' v.ownBlock → (v'.ownBlock = v.ownBlock ∨ v'.ownBlock = some w.heap.size) → wpList Tryz.prog ops Q rest (a.put o.dst v') w') :
  wpList Tryz.prog ops Q (o :: rest) a w := by
 obtain ⟨i0, hi, hz0, hz1, hz2⟩ := info_parts hinf
 have hb : (n + m) * by_ ≤ 1000000 * 1000 := Nat.mul_le_mul hn hby
 refine wpList_append_own_at w hgd s x tS ho base tE i0 zv sz by_ hu hi hz0 hz1 hz2 hzs hsz v n xs hs hown ad m c e hx hl hc h1 (by unfold maxLen; omega) (by omega) hbase ?_
 intro v' w' h1 h2 h3 h4
 exact h v' w' h1 h2 h4
theorem own_take {w : World} {g n c sz k : Nat} {t : TypeId} {xs : List Value} (h : w.ownsRow 0 t sz (.slice (some ⟨g, 0, none⟩) n c) n xs) (hk : k ≤ n) : w.ownsRow 0 t sz (.slice (some ⟨g, 0, none⟩) k c) k (xs.take (k * sz)) := by
 have hl := h.1
 have hm : k * sz ≤ n * sz := Nat.mul_le_mul_right _ hk
 rcases h.2 with ⟨e, -⟩ | ⟨g', cap, cur, e, h1, h2, h3, h4, h5, h6⟩
 ·cases e
 ·injection e with e1 e2 e3
  injection e1 with e1
  injection e1 with e1
  subst e1 e3
  exact ⟨by rw [List.length_take, hl, Nat.min_eq_left hm], .inr ⟨g, c, cur, rfl, h1, h2, by omega, h4, h5, by rw [← h6, List.take_take, Nat.min_eq_left hm]⟩⟩
theorem flatk_take {α : Type} {f : α → List Value} {sz : Nat} (hf : ∀ x, (f x).length = sz) : ∀ (l : List α) (k : Nat), (l.flatMap f).take (k * sz) = (l.take k).flatMap f
 | [], k => by simp
 | x :: r, 0 => by simp
 | x :: r, k + 1 => by
  rw [List.flatMap_cons, List.take_succ_cons, List.flatMap_cons, ← flatk_take hf r k, List.take_append, List.take_of_length_le (l := f x) (by rw [hf, Nat.succ_mul]; omega), hf, show (k + 1) * sz - sz = k * sz by rw [Nat.succ_mul]; omega]
theorem flatk_drop {α : Type} {f : α → List Value} {sz : Nat} (hf : ∀ x, (f x).length = sz) : ∀ (l : List α) (k : Nat), (l.flatMap f).drop (k * sz) = (l.drop k).flatMap f
 | [], k => by simp
 | x :: r, 0 => by simp
 | x :: r, k + 1 => by
  have e : (f x).drop ((k + 1) * sz) = [] := List.drop_of_length_le (by rw [hf, Nat.succ_mul]; omega)
  rw [List.flatMap_cons, List.drop_succ_cons, ← flatk_drop hf r k, List.drop_append, e, List.nil_append, hf, show (k + 1) * sz - sz = k * sz by rw [Nat.succ_mul]; omega]
theorem td_rest {w : World} {g n c k : Nat} {L : List TdI} (h : w.ownsRow 0 113 11 (.slice (some ⟨g, 0, none⟩) n c) n (L.flatMap tdC)) (hn : L.length = n) (hk : k ≤ n) : ∃ A : Addr, (if c = k then (some ⟨g, 0, none⟩ : Option Addr) else some ⟨g, k * 11, none⟩) = some A ∧ (∀ W, Tch w W [] → ∀ j u, ((L.drop k).flatMap tdC)[j]? = some u → W.cell? (A.add j) = some u) ∧ ((L.drop k).flatMap tdC).length = (n - k) * 11 := by
 obtain ⟨A', c', e, hnc, -⟩ := own_sl h
 injection e with e1 e2 e3
 subst e3
 have hlen : ((L.drop k).flatMap tdC).length = (n - k) * 11 := by rw [flatk_len td_eleven, List.length_drop, hn]
 by_cases hck : c = k
 ·refine ⟨_, if_pos hck, fun W hT j u hj => ?_, hlen⟩
  have := (List.getElem?_eq_some_iff.1 hj).1
  omega
 ·refine ⟨_, if_neg hck, fun W hT j u hj => ?_, hlen⟩
  rw [← flatk_drop td_eleven, List.getElem?_drop] at hj
  rw [show (⟨g, k * 11, none⟩ : Addr).add j = ⟨g, k * 11 + j, none⟩ by unfold Addr.add; split <;> simp_all]
  exact own_cellN (own_tch h hT (by simp)) hj
theorem withoutD (t : Nat) (S : List Nat) (L : List TdI) (hL : L.length ≤ 1000) (i : Nat) (hi : i < L.length) (w : World) (h : RbD w t S L) :
  Calls Tryz.prog 131 #[.pointer (some ⟨t, 0, none⟩), .int .i64 (i : Int)] w fun e w' => e = .returned (.tuple #[]) ∧ ∃ S', RbD w' t S' (L.eraseIdx i) ∧ Goes w w' S S' := by
 have HH := lH h
 obtain ⟨A, c, c0, hrow, htl, hfz⟩ := h.head
 obtain ⟨g, rfl⟩ := slice_some hrow (by omega)
 obtain ⟨n, hn⟩ : ∃ n, L.length = n := ⟨_, rfl⟩
 rw [hn] at c0 hrow hi hL
 obtain ⟨A1, hA1, hcells, hlen⟩ := td_rest (k := i + 1) hrow hn (by omega)
 have hrow1 := own_take hrow (k := i) (by omega)
 rw [flatk_take td_eleven] at hrow1
 have HRow1 := lH hrow1
 have HCells := lH hcells
 have HLen := lH hlen
 obtain ⟨d, hd⟩ : ∃ d, n - (i + 1) = d := ⟨_, rfl⟩
 rw [hd] at HLen
 have HNil : Hid (w.ownsRow w.heap.size 113 11 (.slice none 0 0) 0 []) := lH ⟨rfl, .inl ⟨rfl, rfl⟩⟩
 have HSz : Hid (0 + i ≤ 1000000 ∧ 0 + i + d ≤ 1000000) := lH (by omega)
 have HEr : Hid ([] ++ (L.take i).flatMap tdC ++ (L.drop (i + 1)).flatMap tdC = (L.eraseIdx i).flatMap tdC ∧ (L.eraseIdx i).length = 0 + i + d) := lH (by
  rw [List.eraseIdx_eq_take_drop_succ, List.flatMap_append, List.length_append, List.length_take, List.length_drop, hn]
  exact ⟨rfl, by omega⟩)
 have HNum : Hid (∀ u ∈ L.eraseIdx i, NumT u) := lH (fun u hu => h.num u (List.mem_of_mem_eraseIdx hu))
 have HTl := lH htl
 have j1 : IntKind.i64.wrap ((i : Int) + 1) = (i : Int) + 1 := by rw [IntKind.wrap_i64]; omega
 have hnc' : n ≤ c := by
  obtain ⟨_, _, e, h9, _⟩ := own_sl hrow
  injection e with e1 e2 e3
  omega
 have hic : i ≤ c := by omega
 have hib : (0 : Int) ≤ (i : Int) + 1 ∧ (i : Int) + 1 ≤ (n : Int) := by omega
 clear hrow hrow1 hcells hlen h hn
 go_enter Tryz.func131, Tryz.ntmps131
 go_wp2_with (first
  | (at_builtin; (refine wpList_apm 54 113 (.agg #[.bool false, .int .u64 0, .int .u64 0, .int .i64 0, .int .i64 0, .int .i64 0, .bool false, .int .u64 0, .int .u64 0, .int .i64 0, .bool false]) 11 88 Tryz.underlying54 infoTd rfl (by decide) (by decide) _ rfl (.tmp 5) (.tmp 11) rfl w.heap.size (.slice none 0 0) 0 [] rfl HNil.out 0 (.slice (some ⟨g, 0, none⟩) i c) i ((L.take i).flatMap tdC) rfl HRow1.out (flat_one td_one _) HSz.out.1 (Nat.le_refl _) ?_; intro v5 w5 hown hg hv; have hT5 : Tch w w5 [] := Tch.of_grown' hg (fun g e => by cases e); have c5 := (hT5.cell (p := ⟨t, 0, none⟩) HTl.out (by simp)).trans c0; have HC5 := lH (HCells.out w5 hT5); have HO5 := lH hown; have HT5 := lH hT5; clear hown hg hv hT5 c0))
  | (at_builtin; (refine wpList_apx 54 113 (.agg #[.bool false, .int .u64 0, .int .u64 0, .int .i64 0, .int .i64 0, .int .i64 0, .bool false, .int .u64 0, .int .u64 0, .int .i64 0, .bool false]) 11 88 Tryz.underlying54 infoTd rfl (by decide) (by decide) _ rfl (.tmp 14) (.tmp 21) rfl w.heap.size v5 (0 + i) _ rfl HO5.out A1 d (c - (i + 1)) _ rfl HLen.out HC5.out (flat_one td_one _) HSz.out.2 HT5.out.size ?_; intro v7 w7 hown hg hv; obtain ⟨A7, c7, e7, -, -⟩ := own_sl hown; subst e7; have hT7 : Tch w w7 [] := HT5.out.trans_fre (Tch.of_grown' (S := obI v5) hg (fun k e => by rw [obI_some e]; simp)) (fun s hs => .inr (own_geI HO5.out s hs).1); obtain ⟨⟨u7, k7⟩, f7, S', hD7, hG7⟩ := RbD.set_ HH.out hT7 (A := A7) (c := c7) (M := L.eraseIdx i) (by rw [HEr.out.2, ← HEr.out.1]; exact hown) HNum.out; rw [HEr.out.2, Nat.zero_add] at hD7 hG7; have HD7 := lH hD7; have HG7 := lH hG7; clear hown hg hv hT7 hD7 hG7)))
 go_end0
 exact ⟨rfl, S', HD7.out, HG7.out⟩
theorem dropRD (t : Nat) (S : List Nat) (L : List TdI) (hL : L.length ≤ 1000) (p : PfI) (x : PaI) (w : World) (h : RbD w t S L) :
  Calls Tryz.prog 86 #[.pointer (some ⟨t, 0, none⟩), pfR p, paR x] w fun e w' => e = .returned (.int .i64 (dropR L p x).2) ∧ ∃ S', RbD w' t S' (dropR L p x).1 ∧ Goes w w' S S' := by
 have HH := lH h
 have HWay := lH (fun W (hT : Tch w W []) => wayD t S L hL p x W (h.tch hT (by simp)))
 have HWt := lH (fun i (hi : i < L.length) W (hD : RbD W t S L) => withoutD t S L hL i hi W hD)
 have hle : wayI L p x ≤ L.length := fndI_le _ _
 have HT : Hid (∀ (o o' : Obj), Tch w ((w.alloc o).alloc o') []) := lH (fun o o' => ((Tch.refl w []).alloc _).alloc _)
 have HE0 : Hid (wayI L p x = 0 → dropR L p x = (L, 142)) := lH (fun e => by unfold dropR; rw [if_pos e])
 have HE1 : Hid (∀ k, wayI L p x = k + 1 → dropR L p x = (L.eraseIdx k, 0)) := lH (fun k e => by unfold dropR; rw [if_neg (by omega), e, Nat.add_sub_cancel])
 obtain ⟨⟨⟨ps, ph, pl⟩, pb⟩, hp⟩ : ∃ q : PfI, q = p := ⟨p, rfl⟩
 obtain ⟨⟨pr, me, ⟨vs, vh, vl⟩, po, aw⟩, hx⟩ : ∃ q : PaI, q = x := ⟨x, rfl⟩
 subst hp hx
 obtain ⟨z, hz⟩ : ∃ z : Int, ((wayI L ((ps, ph, pl), pb) (pr, me, (vs, vh, vl), po, aw) : Nat) : Int) - 1 = z := ⟨_, rfl⟩
 rw [hz] at HWay
 have HZ := lH hz
 have HLe := lH hle
 clear h hz hle
 go_enter Tryz.func86, Tryz.ntmps86
 go_wp2_with fail
 refine cZm (HWay.out _ (HT.out _ _)) ?_
 rintro e w5 ⟨rfl, hT5⟩
 have HT5 := lH ((HT.out _ _).trans hT5)
 clear hT5
 by_cases hz0 : z < 0
 ·have HE := lH (HE0.out (by have := HZ.out; omega))
  go_wp2
  go_ret
  rw [HE.out]
  exact ⟨rfl, S, HH.out.tch HT5.out (by simp), Goes.of_tch (HT5.out.mono (by simp))⟩
 ·obtain ⟨k, rfl⟩ : ∃ k : Nat, z = (k : Int) := ⟨z.toNat, by omega⟩
  have hk : wayI L ((ps, ph, pl), pb) (pr, me, (vs, vh, vl), po, aw) = k + 1 := by have := HZ.out; omega
  have HE := lH (HE1.out k hk)
  have HW2 := lH (HWt.out k (by have := HLe.out; omega) w5 (HH.out.tch HT5.out (by simp)))
  clear hk
  go_wp2_with fail
  refine cZm HW2.out ?_
  rintro e w7 ⟨rfl, S', hD, hG⟩
  have HD := lH hD
  have HG : Hid (Goes w w7 S S') := lH ⟨(HT5.out.mono (by simp)).trans hG.tch, fun s hs => by
   rcases hG.fre s hs with h1 | h1
   ·exact .inl h1
   ·exact .inr (Nat.le_trans HT5.out.size h1)⟩
  clear hD hG
  go_wp2
  go_ret
  rw [HE.out]
  exact ⟨rfl, S', HD.out, HG.out⟩
end Go.Proofs.YtgfkmgbcajdcdaaGreatDoor

namespace Go.Proofs.YtgfkmgbcajdcdaaGreatDoor
open Go.RowKit

def pathK (L : List TdI) (p : PfI) (k : Nat) : List PaI := ((L.take k).filter fun t => decide (t.1 = p)).map (·.2)
theorem pathK_yes {L : List TdI} {p : PfI} {k : Nat} {u : TdI} (hu : L[k]? = some u) (h : decide (u.1 = p) = true) : pathK L p (k + 1) = pathK L p k ++ [u.2] := by
 unfold pathK
 rw [List.take_add_one, hu, List.filter_append, List.map_append]
 simp [of_decide_eq_true h]
theorem pathK_no {L : List TdI} {p : PfI} {k : Nat} {u : TdI} (hu : L[k]? = some u) (h : decide (u.1 = p) = false) : pathK L p (k + 1) = pathK L p k := by
 unfold pathK
 rw [List.take_add_one, hu, List.filter_append, List.map_append]
 simp [of_decide_eq_false h]
theorem pathK_le (L : List TdI) (p : PfI) (k : Nat) : (pathK L p k).length ≤ L.length := by
 unfold pathK
 rw [List.length_map]
 exact Nat.le_trans (List.length_filter_le _ _) (by simp; omega)
theorem pathK_all (L : List TdI) (p : PfI) : pathK L p L.length = pathsI L p := by unfold pathK pathsI; rw [List.take_length]
theorem pathsI_le (L : List TdI) (p : PfI) : (pathsI L p).length ≤ L.length := by rw [← pathK_all]; exact pathK_le _ _ _
theorem pathsD (t : Nat) (S : List Nat) (L : List TdI) (hL : L.length ≤ 1000) (p : PfI) (w : World) (h : RbD w t S L) :
  Calls Tryz.prog 54 #[.pointer (some ⟨t, 0, none⟩), pfR p] w fun e w' => ∃ A c, e = .returned (.slice A (pathsI L p).length c) ∧ w'.ownsRow w.heap.size 49 7 (.slice A (pathsI L p).length c) (pathsI L p).length ((pathsI L p).flatMap paC) ∧ Tch w w' [] := by
 obtain ⟨⟨ps, ph, pl⟩, pb⟩ := p
 obtain ⟨A, cA, c0, hrow, htl, -⟩ := h.head
 obtain ⟨n, hn⟩ : ∃ n, L.length = n := ⟨_, rfl⟩
 rw [hn] at c0 hrow hL
 have HN := lH hn
 have HR := lH hrow
 have HC0 := lH (And.intro c0 htl)
 obtain ⟨xb, hxb⟩ : ∃ xb, w.heap.size = xb := ⟨_, rfl⟩
 have HXb := lH hxb
 obtain ⟨yb, hyb⟩ : ∃ yb, xb + 1 = yb := ⟨_, rfl⟩
 have HYb := lH hyb
 have HB1 : Hid (Blk (w.alloc (.cells #[.bool ps, .int .u64 (ph : Int), .int .u64 (pl : Int), .int .i64 pb] 30)) xb 30 #[.bool ps, .int .u64 (ph : Int), .int .u64 (pl : Int), .int .i64 pb]) := lH (hxb ▸ Blk.new w _ _)
 clear h c0 hrow htl hxb hyb hn
 go_enter Tryz.func54, Tryz.ntmps54
 go_wp2
 rw [HXb.out]
 go_loopw [5, 6] (fun ov kv wr => ∃ (k f : Nat) (A1 : Option Addr) (cc : Nat), ov = .slice A1 f cc ∧ kv = .int .i64 (k : Int) ∧ k ≤ n ∧ f ≤ n ∧ Hid ((pathK L ((ps, ph, pl), pb) k).length = f) ∧ Hid (wr.ownsRow yb 49 7 (.slice A1 f cc) f ((pathK L ((ps, ph, pl), pb) k).flatMap paC)) ∧ Hid (Tch w wr []) ∧ Hid (Blk wr xb 30 #[.bool ps, .int .u64 (ph : Int), .int .u64 (pl : Int), .int .i64 pb])) (fun _ kv _ => n - (intOf kv).toNat)
 case atStart => exact ⟨0, 0, none, 0, rfl, rfl, Nat.zero_le _, Nat.zero_le _, lH rfl, lH ⟨rfl, .inl ⟨rfl, rfl⟩⟩, lH ((Tch.refl w []).alloc _), HB1⟩
 case round =>
  obtain ⟨k, f, A1, cc, rfl, rfl, hk, hf, hF, hO, hT, hX⟩ := hrel
  have c0 := (hT.out.cell (p := ⟨t, 0, none⟩) HC0.out.2 (by simp)).trans HC0.out.1
  have k1 : IntKind.i64.wrap ((k : Int) + 1) = (k : Int) + 1 := by rw [IntKind.wrap_i64]; omega
  by_cases hkn : k < n
  ·have kI : (k : Int) < (n : Int) := by omega
   have k0 : (0 : Int) ≤ (k : Int) := by omega
   obtain ⟨u, hu⟩ : ∃ u, L[k]? = some u := ⟨_, List.getElem?_eq_getElem (by rw [HN.out]; exact hkn)⟩
   have d3 := own_tch HR.out hT.out (by simp)
   obtain ⟨g, rfl⟩ := slice_some d3 (by omega)
   obtain ⟨b, hb⟩ : ∃ b, decide (u.1 = ((ps, ph, pl), pb)) = b := ⟨_, rfl⟩
   have HQ := eqA_eql 30 _ _ (eq_pfR u.1 ((ps, ph, pl), pb) hb)
   have HBb := lH hb
   obtain ⟨u0, u1, u2, u3, u4, u5, u6, u7, u8, u9, u10⟩ := td_cells d3 hu
   obtain ⟨⟨⟨us, uh, ul⟩, ub⟩, upr, ume, ⟨uvs, uvh, uvl⟩, upo, uaw⟩ := u
   have HQ : ∀ W, (binOp .eql 30 (.agg #[.bool us, .int .u64 (uh : Int), .int .u64 (ul : Int), .int .i64 ub]) (.agg #[.bool ps, .int .u64 (ph : Int), .int .u64 (pl : Int), .int .i64 pb])).run Tryz.prog W = .ok (.bool b) W := HQ
   have Hu := lH hu
   obtain ⟨v0, v1, v2, v3⟩ := hX.out.c4
   have HCl : Hid (wr.cell? ⟨t, 0, none⟩ = some (Value.slice (some ⟨g, 0, none⟩) n cA) ∧ wr.cell? ⟨g, k * 11, none⟩ = some (Value.bool us) ∧ wr.cell? ⟨g, k * 11 + 1, none⟩ = some (Value.int .u64 (uh : Int)) ∧ wr.cell? ⟨g, k * 11 + 2, none⟩ = some (Value.int .u64 (ul : Int)) ∧ wr.cell? ⟨g, k * 11 + 3, none⟩ = some (Value.int .i64 ub) ∧ wr.cell? ⟨xb, 0, none⟩ = some (Value.bool ps) ∧ wr.cell? ⟨xb, 1, none⟩ = some (Value.int .u64 (ph : Int)) ∧ wr.cell? ⟨xb, 2, none⟩ = some (Value.int .u64 (pl : Int)) ∧ wr.cell? ⟨xb, 3, none⟩ = some (Value.int .i64 pb)) := lH ⟨c0, u0, u1, u2, u3, v0, v1, v2, v3⟩
   have HP := lH (And.intro u4 (And.intro u5 (And.intro u6 (And.intro u7 (And.intro u8 (And.intro u9 u10))))))
   clear d3 hu hb u0 u1 u2 u3 u4 u5 u6 u7 u8 u9 u10 v0 v1 v2 v3
   go_wp2
   refine wp_region_held_drew (S := (fun W => W.cell? ⟨t, 0, none⟩ = some (Value.slice (some ⟨g, 0, none⟩) n cA) ∧ W.cell? ⟨g, k * 11, none⟩ = some (Value.bool us) ∧ W.cell? ⟨g, k * 11 + 1, none⟩ = some (Value.int .u64 (uh : Int)) ∧ W.cell? ⟨g, k * 11 + 2, none⟩ = some (Value.int .u64 (ul : Int)) ∧ W.cell? ⟨g, k * 11 + 3, none⟩ = some (Value.int .i64 ub) ∧ W.cell? ⟨xb, 0, none⟩ = some (Value.bool ps) ∧ W.cell? ⟨xb, 1, none⟩ = some (Value.int .u64 (ph : Int)) ∧ W.cell? ⟨xb, 2, none⟩ = some (Value.int .u64 (pl : Int)) ∧ W.cell? ⟨xb, 3, none⟩ = some (Value.int .i64 pb))) (by kernel_rfl) ?_ (fun hHeld => ?_)
   ·(exact HCl.out)
   refine tkH 0 ?_
   refine tkH 1 ?_
   refine tkH 2 ?_
   refine tkH 3 ?_
   refine tkH 4 ?_
   refine tkH 5 ?_
   refine tkH 6 ?_
   refine tkH 7 ?_
   refine tkH 8 ?_
   refine tkH 9 ?_
   refine wpAnyH_done (by kernel_rfl) ?_ _
   obtain ⟨w4, hw4⟩ : ∃ w4, wr.drew = w4 := ⟨_, rfl⟩
   have HO4 := lH hO.out.drew
   have HT4 := lH hT.out.drew
   have HX4 : Hid (Blk wr.drew xb 30 #[.bool ps, .int .u64 (ph : Int), .int .u64 (pl : Int), .int .i64 pb]) := lH hX.out
   have HC4 : Hid (wr.drew.cell? ⟨t, 0, none⟩ = some (Value.slice (some ⟨g, 0, none⟩) n cA) ∧ wr.drew.cell? ⟨g, k * 11 + 4, none⟩ = some (Value.int .i64 upr) ∧ wr.drew.cell? ⟨g, k * 11 + 5, none⟩ = some (Value.int .i64 ume) ∧ wr.drew.cell? ⟨g, k * 11 + 6, none⟩ = some (Value.bool uvs) ∧ wr.drew.cell? ⟨g, k * 11 + 7, none⟩ = some (Value.int .u64 (uvh : Int)) ∧ wr.drew.cell? ⟨g, k * 11 + 8, none⟩ = some (Value.int .u64 (uvl : Int)) ∧ wr.drew.cell? ⟨g, k * 11 + 9, none⟩ = some (Value.int .i64 upo) ∧ wr.drew.cell? ⟨g, k * 11 + 10, none⟩ = some (Value.bool uaw)) := lH ⟨HCl.out.1, HP.out⟩
   rw [hw4] at HO4 HT4 HX4 HC4 ⊢
   clear hw4 HQ HP HCl c0
   cases b with
   | false =>
    have HFl : Hid (pathK L ((ps, ph, pl), pb) (k + 1) = pathK L ((ps, ph, pl), pb) k) := lH (pathK_no Hu.out HBb.out)
    go_wp2
    go_roundw
    case rel => exact ⟨k + 1, f, A1, cc, rfl, by go_num, hkn, hf, by rw [HFl.out]; exact hF, by rw [HFl.out]; exact HO4, HT4, HX4⟩
    case measure => simp [intOf]; omega
   | true =>
    have HFl : Hid (pathK L ((ps, ph, pl), pb) (k + 1) = pathK L ((ps, ph, pl), pb) k ++ [(upr, ume, (uvs, uvh, uvl), upo, uaw)]) := lH (pathK_yes Hu.out HBb.out)
    have hfm : f + 1 ≤ n := by have h1 := pathK_le L ((ps, ph, pl), pb) (k + 1); rw [HFl.out, List.length_append, List.length_singleton, hF.out, HN.out] at h1; exact h1
    obtain ⟨z0, z4, z5, z6, z7, z8, z9, z10⟩ := HC4.out
    have HO5 : Hid ((w4.alloc (.cells #[.int .i64 upr, .int .i64 ume, .bool uvs, .int .u64 (uvh : Int), .int .u64 (uvl : Int), .int .i64 upo, .bool uaw] 49)).ownsRow yb 49 7 (.slice A1 f cc) f ((pathK L ((ps, ph, pl), pb) k).flatMap paC)) := lH (HO4.out.alloc _)
    have HSr := lH (src_new w4 49 [.int .i64 upr, .int .i64 ume, .bool uvs, .int .u64 (uvh : Int), .int .u64 (uvl : Int), .int .i64 upo, .bool uaw])
    have HSz5 : Hid (yb ≤ (w4.alloc (.cells #[.int .i64 upr, .int .i64 ume, .bool uvs, .int .u64 (uvh : Int), .int .u64 (uvl : Int), .int .i64 upo, .bool uaw] 49)).heap.size) := lH (by have h1 := HX4.out.lt; have h2 := HYb.out; rw [zA]; omega)
    have HX5 := lH (HX4.out.alloc (.cells #[.int .i64 upr, .int .i64 ume, .bool uvs, .int .u64 (uvh : Int), .int .u64 (uvl : Int), .int .i64 upo, .bool uaw] 49))
    have HT5 := lH (HT4.out.alloc (.cells #[.int .i64 upr, .int .i64 ume, .bool uvs, .int .u64 (uvh : Int), .int .u64 (uvl : Int), .int .i64 upo, .bool uaw] 49))
    have HXn : Hid (∀ s ∈ obI (.slice A1 f cc), s ≠ xb) := lH (fun s hs => by have h1 := (own_geI HO5.out s hs).1; have h2 := HYb.out; omega)
    have HSzf : Hid (f ≤ 1000000) := lH (by omega)
    go_wp2_with (at_builtin; (refine wpList_apc 118 49 (.agg #[.int .i64 0, .int .i64 0, .bool false, .int .u64 0, .int .u64 0, .int .i64 0, .bool false]) 7 56 Tryz.underlying118 infoPa rfl (by decide) (by decide) _ rfl (.tmp 26) (.tmp 35) rfl yb (.slice A1 f cc) f ((pathK L ((ps, ph, pl), pb) k).flatMap paC) rfl HO5.out ⟨w4.heap.size, 0, none⟩ 1 [.int .i64 upr, .int .i64 ume, .bool uvs, .int .u64 (uvh : Int), .int .u64 (uvl : Int), .int .i64 upo, .bool uaw] rfl rfl (fun j u hj => HSr.out j u hj) (by simp [Value.oneCell']) HSzf.out HSz5.out ?_; intro v7 w7 hown hg hv; obtain ⟨A7, c7, e7, -, -⟩ := own_sl hown; subst e7; have hT57 := Tch.of_grown' (S := obI (.slice A1 f cc)) hg (fun k e => by rw [obI_some e]; simp); have HO7 := lH hown; have HT7 := lH (HT5.out.trans_fre hT57 (fun s hs => .inr (by have := (own_geI HO5.out s hs).1; have := HXb.out; have := HYb.out; omega))); have HX7 := lH (hT57.blk HX5.out (fun hm => HXn.out _ hm rfl)); clear hown hg hv hT57))
    go_roundw
    case rel => exact ⟨k + 1, f + 1, A7, c7, rfl, by go_num, hkn, hfm, lH (by rw [HFl.out, List.length_append, hF.out]; rfl), lH (by rw [HFl.out, List.flatMap_append]; exact HO7.out), HT7, HX7⟩
    case measure => simp [intOf]; omega
  ·obtain rfl : k = n := by omega
   have kI : ¬ (k : Int) < (k : Int) := by omega
   have HAll : Hid (pathK L ((ps, ph, pl), pb) k = pathsI L ((ps, ph, pl), pb)) := lH (by rw [← pathK_all, HN.out])
   have HO9 := lH hO.out
   rw [HAll.out] at hF HO9
   have HF9 := lH hF.out
   have HT9 := lH hT.out
   clear hkn hk hF hO hT hX
   go_wp2
   go_ret
   exact ⟨A1, cc, by rw [HF9.out]; rfl, by rw [HF9.out, HXb.out]; exact own_mono HO9.out (by have := HYb.out; omega), HT9.out⟩
theorem Blk.c7 {w : World} {g : Nat} {t : TypeId} {a b c d e f i : Value} (h : Blk w g t #[a, b, c, d, e, f, i]) : w.cell? ⟨g, 0, none⟩ = some a ∧ w.cell? ⟨g, 1, none⟩ = some b ∧ w.cell? ⟨g, 2, none⟩ = some c ∧ w.cell? ⟨g, 3, none⟩ = some d ∧ w.cell? ⟨g, 4, none⟩ = some e ∧ w.cell? ⟨g, 5, none⟩ = some f ∧ w.cell? ⟨g, 6, none⟩ = some i :=
 ⟨by rw [h.cell]; rfl, by rw [h.cell]; rfl, by rw [h.cell]; rfl, by rw [h.cell]; rfl, by rw [h.cell]; rfl, by rw [h.cell]; rfl, by rw [h.cell]; rfl⟩
end Go.Proofs.YtgfkmgbcajdcdaaGreatDoor

namespace Go.Proofs.YtgfkmgbcajdcdaaGreatDoor
open Go.RowKit

def fluK (L : List TdI) (pr : Int) (k : Nat) : List TdI := (L.take k).filter fun t => !decide (t.2.1 = pr)
theorem fluK_yes {L : List TdI} {pr : Int} {k : Nat} {u : TdI} (hu : L[k]? = some u) (h : ¬ u.2.1 = pr) : fluK L pr (k + 1) = fluK L pr k ++ [u] := by
 unfold fluK
 rw [List.take_add_one, hu, List.filter_append]
 simp [h]
theorem fluK_no {L : List TdI} {pr : Int} {k : Nat} {u : TdI} (hu : L[k]? = some u) (h : u.2.1 = pr) : fluK L pr (k + 1) = fluK L pr k := by
 unfold fluK
 rw [List.take_add_one, hu, List.filter_append]
 simp [h]
theorem fluK_le (L : List TdI) (pr : Int) (k : Nat) : (fluK L pr k).length ≤ L.length := Nat.le_trans (List.length_filter_le _ _) (by simp; omega)
theorem fluK_all (L : List TdI) (pr : Int) : fluK L pr L.length = L.filter fun t => !decide (t.2.1 = pr) := by unfold fluK; rw [List.take_length]
theorem flushD (t : Nat) (S : List Nat) (L : List TdI) (hL : L.length ≤ 1000) (pr : Int) (w : World) (h : RbD w t S L) :
  Calls Tryz.prog 87 #[.pointer (some ⟨t, 0, none⟩), .int .i64 pr] w fun e w' => e = .returned (.int .i64 (flushR L pr).2) ∧ ∃ S', RbD w' t S' (flushR L pr).1 ∧ Goes w w' S S' := by
 have HH := lH h
 obtain ⟨A, cA, c0, hrow, htl, -⟩ := h.head
 obtain ⟨n, hn⟩ : ∃ n, L.length = n := ⟨_, rfl⟩
 rw [hn] at c0 hrow hL
 have HN := lH hn
 have HR := lH hrow
 have HC0 := lH (And.intro c0 htl)
 obtain ⟨xb, hxb⟩ : ∃ xb, w.heap.size = xb := ⟨_, rfl⟩
 have HXb := lH hxb
 clear h c0 hrow htl hxb hn
 go_enter Tryz.func87, Tryz.ntmps87
 go_wp2
 go_loopw [5, 6] (fun ov kv wr => ∃ (k f : Nat) (A1 : Option Addr) (cc : Nat), ov = .slice A1 f cc ∧ kv = .int .i64 (k : Int) ∧ k ≤ n ∧ f ≤ n ∧ Hid ((fluK L pr k).length = f) ∧ Hid (wr.ownsRow xb 113 11 (.slice A1 f cc) f ((fluK L pr k).flatMap tdC)) ∧ Hid (Tch w wr [])) (fun _ kv _ => n - (intOf kv).toNat)
 case atStart => exact ⟨0, 0, none, 0, rfl, rfl, Nat.zero_le _, Nat.zero_le _, lH rfl, lH ⟨rfl, .inl ⟨rfl, rfl⟩⟩, lH (Tch.refl w [])⟩
 case round =>
  obtain ⟨k, f, A1, cc, rfl, rfl, hk, hf, hF, hO, hT⟩ := hrel
  have c0 := (hT.out.cell (p := ⟨t, 0, none⟩) HC0.out.2 (by simp)).trans HC0.out.1
  have k1 : IntKind.i64.wrap ((k : Int) + 1) = (k : Int) + 1 := by rw [IntKind.wrap_i64]; omega
  by_cases hkn : k < n
  ·have kI : (k : Int) < (n : Int) := by omega
   have k0 : (0 : Int) ≤ (k : Int) := by omega
   obtain ⟨u, hu⟩ : ∃ u, L[k]? = some u := ⟨_, List.getElem?_eq_getElem (by rw [HN.out]; exact hkn)⟩
   have d3 := own_tch HR.out hT.out (by simp)
   obtain ⟨g, rfl⟩ := slice_some d3 (by omega)
   obtain ⟨u0, u1, u2, u3, u4, u5, u6, u7, u8, u9, u10⟩ := td_cells d3 hu
   obtain ⟨⟨⟨us, uh, ul⟩, ub⟩, upr, ume, ⟨uvs, uvh, uvl⟩, upo, uaw⟩ := u
   have Hu := lH hu
   clear d3 hu
   by_cases hp : upr = pr
   ·have bp : (upr != pr) = false := by simpa using hp
    have HFl : Hid (fluK L pr (k + 1) = fluK L pr k) := lH (fluK_no Hu.out hp)
    clear hp
    go_wp2
    go_roundw
    case rel => exact ⟨k + 1, f, A1, cc, rfl, by go_num, hkn, hf, by rw [HFl.out]; exact hF, by rw [HFl.out]; exact hO, hT⟩
    case measure => simp [intOf]; omega
   ·have bp : (upr != pr) = true := by simpa using hp
    have HFl : Hid (fluK L pr (k + 1) = fluK L pr k ++ [(((us, uh, ul), ub), upr, ume, (uvs, uvh, uvl), upo, uaw)]) := lH (fluK_yes Hu.out hp)
    have hfm : f + 1 ≤ n := by have h1 := fluK_le L pr (k + 1); rw [HFl.out, List.length_append, List.length_singleton, hF.out, HN.out] at h1; exact h1
    have HO5 : Hid ((wr.alloc (.cells #[.bool us, .int .u64 (uh : Int), .int .u64 (ul : Int), .int .i64 ub, .int .i64 upr, .int .i64 ume, .bool uvs, .int .u64 (uvh : Int), .int .u64 (uvl : Int), .int .i64 upo, .bool uaw] 113)).ownsRow xb 113 11 (.slice A1 f cc) f ((fluK L pr k).flatMap tdC)) := lH (hO.out.alloc _)
    have HSr := lH (src_new wr 113 [.bool us, .int .u64 (uh : Int), .int .u64 (ul : Int), .int .i64 ub, .int .i64 upr, .int .i64 ume, .bool uvs, .int .u64 (uvh : Int), .int .u64 (uvl : Int), .int .i64 upo, .bool uaw])
    have HSz5 : Hid (xb ≤ (wr.alloc (.cells #[.bool us, .int .u64 (uh : Int), .int .u64 (ul : Int), .int .i64 ub, .int .i64 upr, .int .i64 ume, .bool uvs, .int .u64 (uvh : Int), .int .u64 (uvl : Int), .int .i64 upo, .bool uaw] 113)).heap.size) := lH (by have h1 := hT.out.size; have h2 := HXb.out; rw [zA]; omega)
    have HT5 := lH (hT.out.alloc (.cells #[.bool us, .int .u64 (uh : Int), .int .u64 (ul : Int), .int .i64 ub, .int .i64 upr, .int .i64 ume, .bool uvs, .int .u64 (uvh : Int), .int .u64 (uvl : Int), .int .i64 upo, .bool uaw] 113))
    have HSzf : Hid (f ≤ 1000000) := lH (by omega)
    clear hp
    go_wp2_with (at_builtin; (refine wpList_apc 54 113 (.agg #[.bool false, .int .u64 0, .int .u64 0, .int .i64 0, .int .i64 0, .int .i64 0, .bool false, .int .u64 0, .int .u64 0, .int .i64 0, .bool false]) 11 88 Tryz.underlying54 infoTd rfl (by decide) (by decide) _ rfl (.tmp 28) (.tmp 36) rfl xb (.slice A1 f cc) f ((fluK L pr k).flatMap tdC) rfl HO5.out ⟨wr.heap.size, 0, none⟩ 1 [.bool us, .int .u64 (uh : Int), .int .u64 (ul : Int), .int .i64 ub, .int .i64 upr, .int .i64 ume, .bool uvs, .int .u64 (uvh : Int), .int .u64 (uvl : Int), .int .i64 upo, .bool uaw] rfl rfl (fun j u hj => HSr.out j u hj) (by simp [Value.oneCell']) HSzf.out HSz5.out ?_; intro v7 w7 hown hg hv; obtain ⟨A7, c7, e7, -, -⟩ := own_sl hown; subst e7; have HO7 := lH hown; have HT7 := lH (HT5.out.trans_fre (Tch.of_grown' (S := obI (.slice A1 f cc)) hg (fun k e => by rw [obI_some e]; simp)) (fun s hs => .inr (by have := (own_geI HO5.out s hs).1; have := HXb.out; omega))); clear hown hg hv))
    go_roundw
    case rel => exact ⟨k + 1, f + 1, A7, c7, rfl, by go_num, hkn, hfm, lH (by rw [HFl.out, List.length_append, hF.out]; rfl), lH (by rw [HFl.out, List.flatMap_append]; exact HO7.out), HT7⟩
    case measure => simp [intOf]; omega
  ·obtain rfl : k = n := by omega
   have kI : ¬ (k : Int) < (k : Int) := by omega
   have HAll : Hid (fluK L pr k = (flushR L pr).1) := lH (by rw [← HN.out]; exact fluK_all L pr)
   have HO9 := lH hO.out
   rw [HAll.out] at hF HO9
   have HF9 := lH hF.out
   have j1 : IntKind.i64.wrap ((k : Int) - (f : Int)) = (k : Int) - (f : Int) := by rw [IntKind.wrap_i64]; omega
   have HRes : Hid ((flushR L pr).2 = (k : Int) - (f : Int)) := lH (by show (L.length : Int) - ((flushR L pr).1.length : Int) = _; rw [HF9.out, HN.out])
   obtain ⟨⟨u7, k7⟩, f7, S', hD7, hG7⟩ := RbD.set_ HH.out hT.out (A := A1) (c := cc) (M := (flushR L pr).1) (by rw [HF9.out, HXb.out]; exact HO9.out) (fun u hu => HH.out.num u (List.mem_filter.1 hu).1)
   rw [HF9.out] at hD7 hG7
   have HD7 := lH hD7
   have HG7 := lH hG7
   clear hkn hk hF hO hT hD7 hG7
   go_wp2
   go_ret
   exact ⟨by rw [HRes.out]; rfl, S', HD7.out, HG7.out⟩
theorem prefsD (t : Nat) (S : List Nat) (L : List TdI) (hL : L.length ≤ 1000) (w : World) (h : RbD w t S L) :
  Calls Tryz.prog 11 #[.pointer (some ⟨t, 0, none⟩)] w fun e w' => ∃ A c, e = .returned (.slice A (prefsI L).length c) ∧ w'.ownsRow w.heap.size 30 4 (.slice A (prefsI L).length c) (prefsI L).length ((prefsI L).flatMap pfC) ∧ Tch w w' [] := by
 obtain ⟨A, cA, c0, hrow, htl, -⟩ := h.head
 obtain ⟨n, hn⟩ : ∃ n, L.length = n := ⟨_, rfl⟩
 rw [hn] at c0 hrow hL
 have HN := lH hn
 have HR := lH hrow
 have HC0 := lH (And.intro c0 htl)
 obtain ⟨xb, hxb⟩ : ∃ xb, w.heap.size = xb := ⟨_, rfl⟩
 have HXb := lH hxb
 clear h c0 hrow htl hxb hn
 go_enter Tryz.func11, Tryz.ntmps11
 go_wp2
 go_loopw [3, 4] (fun ov kv wr => ∃ (k f : Nat) (A1 : Option Addr) (cc : Nat), ov = .slice A1 f cc ∧ kv = .int .i64 (k : Int) ∧ k ≤ n ∧ f ≤ n ∧ Hid ((prefK L k).length = f) ∧ Hid (wr.ownsRow xb 30 4 (.slice A1 f cc) f ((prefK L k).flatMap pfC)) ∧ Hid (Tch w wr [])) (fun _ kv _ => n - (intOf kv).toNat)
 case atStart => exact ⟨0, 0, none, 0, rfl, rfl, Nat.zero_le _, Nat.zero_le _, lH rfl, lH ⟨rfl, .inl ⟨rfl, rfl⟩⟩, lH (Tch.refl w [])⟩
 case round =>
  obtain ⟨k, f, A1, cc, rfl, rfl, hk, hf, hF, hO, hT⟩ := hrel
  have c0 := (hT.out.cell (p := ⟨t, 0, none⟩) HC0.out.2 (by simp)).trans HC0.out.1
  have k1 : IntKind.i64.wrap ((k : Int) + 1) = (k : Int) + 1 := by rw [IntKind.wrap_i64]; omega
  by_cases hkn : k < n
  ·have kI : (k : Int) < (n : Int) := by omega
   have k0 : (0 : Int) ≤ (k : Int) := by omega
   obtain ⟨u, hu⟩ : ∃ u, L[k]? = some u := ⟨_, List.getElem?_eq_getElem (by rw [HN.out]; exact hkn)⟩
   have d3 := own_tch HR.out hT.out (by simp)
   obtain ⟨g, rfl⟩ := slice_some d3 (by omega)
   obtain ⟨u0, u1, u2, u3, -⟩ := td_cells d3 hu
   obtain ⟨⟨⟨us, uh, ul⟩, ub⟩, ux⟩ := u
   have Hu := lH hu
   have HCu : Hid (wr.cell? ⟨t, 0, none⟩ = some (Value.slice (some ⟨g, 0, none⟩) n cA) ∧ wr.cell? ⟨g, k * 11, none⟩ = some (Value.bool us) ∧ wr.cell? ⟨g, k * 11 + 1, none⟩ = some (Value.int .u64 (uh : Int)) ∧ wr.cell? ⟨g, k * 11 + 2, none⟩ = some (Value.int .u64 (ul : Int)) ∧ wr.cell? ⟨g, k * 11 + 3, none⟩ = some (Value.int .i64 ub)) := lH ⟨c0, u0, u1, u2, u3⟩
   by_cases hk0 : k = 0
   ·have bz : ((k : Int) == 0) = true := by simpa using hk0
    have HNew : Hid (newP? L k = true) := lH (by subst hk0; exact newP_zero Hu.out)
    clear d3 hu u0 u1 u2 u3 hk0
    go_wp2
    refine wp_region_held_drew (S := (fun W => W.cell? ⟨t, 0, none⟩ = some (Value.slice (some ⟨g, 0, none⟩) n cA) ∧ W.cell? ⟨g, k * 11, none⟩ = some (Value.bool us) ∧ W.cell? ⟨g, k * 11 + 1, none⟩ = some (Value.int .u64 (uh : Int)) ∧ W.cell? ⟨g, k * 11 + 2, none⟩ = some (Value.int .u64 (ul : Int)) ∧ W.cell? ⟨g, k * 11 + 3, none⟩ = some (Value.int .i64 ub))) (by kernel_rfl) ?_ (fun hHeld => ?_)
    ·(exact HCu.out)
    refine tkH 0 ?_
    refine tkH 1 ?_
    refine tkH 2 ?_
    refine tkO 3 ?_
    refine tkO 4 ?_
    refine tkO 5 ?_
    refine tkO 6 ?_
    refine tkO 7 ?_
    refine tkO 8 ?_
    refine tkO 9 ?_
    refine tkO 10 ?_
    refine tkO 11 ?_
    refine tkO 12 ?_
    refine tkO 13 ?_
    refine tkO 14 ?_
    refine tkO 15 ?_
    refine tkO 16 ?_
    refine tkO 17 ?_
    refine tkO 18 ?_
    refine tkO 19 ?_
    refine tkO 20 ?_
    refine tkH 21 ?_
    refine wpAnyH_done (by kernel_rfl) ?_ _
    obtain ⟨w4, hw4⟩ : ∃ w4, wr.drew = w4 := ⟨_, rfl⟩
    have HO4 := lH hO.out.drew
    have HT4 := lH hT.out.drew
    have HC4 : Hid (wr.drew.cell? ⟨t, 0, none⟩ = some (Value.slice (some ⟨g, 0, none⟩) n cA) ∧ wr.drew.cell? ⟨g, k * 11, none⟩ = some (Value.bool us) ∧ wr.drew.cell? ⟨g, k * 11 + 1, none⟩ = some (Value.int .u64 (uh : Int)) ∧ wr.drew.cell? ⟨g, k * 11 + 2, none⟩ = some (Value.int .u64 (ul : Int)) ∧ wr.drew.cell? ⟨g, k * 11 + 3, none⟩ = some (Value.int .i64 ub)) := lH HCu.out
    rw [hw4] at HO4 HT4 HC4 ⊢
    clear hw4 c0
    have HFl : Hid (prefK L (k + 1) = prefK L k ++ [((us, uh, ul), ub)]) := lH (by rw [prefK_at Hu.out, HNew.out]; rfl)
    have hfm : f + 1 ≤ n := by have h1 := prefK_le L (k + 1); rw [HFl.out, List.length_append, List.length_singleton, hF.out] at h1; omega
    have HO5 : Hid ((w4.alloc (.cells #[.bool us, .int .u64 (uh : Int), .int .u64 (ul : Int), .int .i64 ub] 30)).ownsRow xb 30 4 (.slice A1 f cc) f ((prefK L k).flatMap pfC)) := lH (HO4.out.alloc _)
    have HSr := lH (src_new w4 30 [.bool us, .int .u64 (uh : Int), .int .u64 (ul : Int), .int .i64 ub])
    have HSz5 : Hid (xb ≤ (w4.alloc (.cells #[.bool us, .int .u64 (uh : Int), .int .u64 (ul : Int), .int .i64 ub] 30)).heap.size) := lH (by have h1 := HT4.out.size; have h2 := HXb.out; rw [zA]; omega)
    have HT5 := lH (HT4.out.alloc (.cells #[.bool us, .int .u64 (uh : Int), .int .u64 (ul : Int), .int .i64 ub] 30))
    have HSzf : Hid (f ≤ 1000000) := lH (by omega)
    obtain ⟨z0, z1, z2, z3, z4⟩ := HC4.out
    go_wp2_with (at_builtin; (refine wpList_apc 40 30 (.agg #[.bool false, .int .u64 0, .int .u64 0, .int .i64 0]) 4 32 Tryz.underlying40 infoPf rfl (by decide) (by decide) _ rfl (.tmp 36) (.tmp 45) rfl xb (.slice A1 f cc) f ((prefK L k).flatMap pfC) rfl HO5.out ⟨w4.heap.size, 0, none⟩ 1 [.bool us, .int .u64 (uh : Int), .int .u64 (ul : Int), .int .i64 ub] rfl rfl (fun j u hj => HSr.out j u hj) (by simp [Value.oneCell']) HSzf.out HSz5.out ?_; intro v7 w7 hown hg hv; obtain ⟨A7, c7, e7, -, -⟩ := own_sl hown; subst e7; have HO7 := lH hown; have HT7 := lH (HT5.out.trans_fre (Tch.of_grown' (S := obI (.slice A1 f cc)) hg (fun k e => by rw [obI_some e]; simp)) (fun s hs => .inr (by have := (own_geI HO5.out s hs).1; have := HXb.out; omega))); clear hown hg hv))
    go_roundw
    case rel => exact ⟨k + 1, f + 1, A7, c7, rfl, by go_num, hkn, hfm, lH (by rw [HFl.out, List.length_append, hF.out]; rfl), lH (by rw [HFl.out, List.flatMap_append]; exact HO7.out), HT7⟩
    case measure => simp [intOf]; omega
   ·have bz : ((k : Int) == 0) = false := by simpa using hk0
    obtain ⟨j, hkj⟩ : ∃ j, j + 1 = k := ⟨k - 1, by omega⟩
    obtain ⟨v, hv⟩ : ∃ v, L[j]? = some v := ⟨_, List.getElem?_eq_getElem (by rw [HN.out]; omega)⟩
    obtain ⟨v0, v1, v2, v3, -⟩ := td_cells d3 hv
    obtain ⟨b, hb⟩ : ∃ b, decide ((((us, uh, ul), ub) : PfI) = v.1) = b := ⟨_, rfl⟩
    have HNw : Hid (newP? L k = !b) := lH (by rw [← hkj, newP_succ (by rw [hkj]; exact Hu.out) hv, ← hb]; simp only [eq_comm])
    obtain ⟨⟨⟨vs, vh, vl⟩, vb⟩, vx⟩ := v
    have HQ : ∀ W, (binOp .neq 30 (.agg #[.bool us, .int .u64 (uh : Int), .int .u64 (ul : Int), .int .i64 ub]) (.agg #[.bool vs, .int .u64 (vh : Int), .int .u64 (vl : Int), .int .i64 vb])).run Tryz.prog W = .ok (.bool (!b)) W := eq_neq 30 _ _ (eq_pfR ((us, uh, ul), ub) ((vs, vh, vl), vb) hb)
    have j1 : IntKind.i64.wrap ((k : Int) - 1) = (j : Int) := by rw [IntKind.wrap_i64]; omega
    have jI : (0 : Int) ≤ (j : Int) ∧ (j : Int) < (n : Int) := by omega
    have j0 : (0 : Int) ≤ (j : Int) := jI.1
    have j2 : (j : Int) < (n : Int) := jI.2
    have HCv : Hid ((wr.cell? ⟨t, 0, none⟩ = some (Value.slice (some ⟨g, 0, none⟩) n cA) ∧ wr.cell? ⟨g, k * 11, none⟩ = some (Value.bool us) ∧ wr.cell? ⟨g, k * 11 + 1, none⟩ = some (Value.int .u64 (uh : Int)) ∧ wr.cell? ⟨g, k * 11 + 2, none⟩ = some (Value.int .u64 (ul : Int)) ∧ wr.cell? ⟨g, k * 11 + 3, none⟩ = some (Value.int .i64 ub)) ∧ wr.cell? ⟨g, j * 11, none⟩ = some (Value.bool vs) ∧ wr.cell? ⟨g, j * 11 + 1, none⟩ = some (Value.int .u64 (vh : Int)) ∧ wr.cell? ⟨g, j * 11 + 2, none⟩ = some (Value.int .u64 (vl : Int)) ∧ wr.cell? ⟨g, j * 11 + 3, none⟩ = some (Value.int .i64 vb)) := lH ⟨HCu.out, v0, v1, v2, v3⟩
    clear d3 hu hv hb u0 u1 u2 u3 v0 v1 v2 v3 jI hkj hk0
    go_wp2
    refine wp_region_held_drew (S := (fun W => (W.cell? ⟨t, 0, none⟩ = some (Value.slice (some ⟨g, 0, none⟩) n cA) ∧ W.cell? ⟨g, k * 11, none⟩ = some (Value.bool us) ∧ W.cell? ⟨g, k * 11 + 1, none⟩ = some (Value.int .u64 (uh : Int)) ∧ W.cell? ⟨g, k * 11 + 2, none⟩ = some (Value.int .u64 (ul : Int)) ∧ W.cell? ⟨g, k * 11 + 3, none⟩ = some (Value.int .i64 ub)) ∧ W.cell? ⟨g, j * 11, none⟩ = some (Value.bool vs) ∧ W.cell? ⟨g, j * 11 + 1, none⟩ = some (Value.int .u64 (vh : Int)) ∧ W.cell? ⟨g, j * 11 + 2, none⟩ = some (Value.int .u64 (vl : Int)) ∧ W.cell? ⟨g, j * 11 + 3, none⟩ = some (Value.int .i64 vb))) (by kernel_rfl) ?_ (fun hHeld => ?_)
    ·(exact HCv.out)
    refine tkH 0 ?_
    refine tkH 1 ?_
    refine tkH 2 ?_
    refine tkH 3 ?_
    refine tkH 4 ?_
    refine tkH 5 ?_
    refine tkH 6 ?_
    refine tkH 7 ?_
    refine tkH 8 ?_
    refine tkH 9 ?_
    refine tkH 10 ?_
    refine tkH 11 ?_
    refine tkH 12 ?_
    refine tkH 13 ?_
    refine tkH 14 ?_
    refine tkH 15 ?_
    refine tkH 16 ?_
    refine tkH 17 ?_
    refine tkH 18 ?_
    refine tkH 19 ?_
    refine tkH 20 ?_
    refine tkH 21 ?_
    refine wpAnyH_done (by kernel_rfl) ?_ _
    clear HCv HQ
    obtain ⟨w4, hw4⟩ : ∃ w4, wr.drew = w4 := ⟨_, rfl⟩
    have HO4 := lH hO.out.drew
    have HT4 := lH hT.out.drew
    have HC4 : Hid (wr.drew.cell? ⟨t, 0, none⟩ = some (Value.slice (some ⟨g, 0, none⟩) n cA) ∧ wr.drew.cell? ⟨g, k * 11, none⟩ = some (Value.bool us) ∧ wr.drew.cell? ⟨g, k * 11 + 1, none⟩ = some (Value.int .u64 (uh : Int)) ∧ wr.drew.cell? ⟨g, k * 11 + 2, none⟩ = some (Value.int .u64 (ul : Int)) ∧ wr.drew.cell? ⟨g, k * 11 + 3, none⟩ = some (Value.int .i64 ub)) := lH HCu.out
    rw [hw4] at HO4 HT4 HC4 ⊢
    clear hw4 c0
    cases b with
    | true =>
     have HFl : Hid (prefK L (k + 1) = prefK L k) := lH (by rw [prefK_at Hu.out, HNw.out]; rfl)
     go_wp2
     go_roundw
     case rel => exact ⟨k + 1, f, A1, cc, rfl, by go_num, hkn, hf, by rw [HFl.out]; exact hF, by rw [HFl.out]; exact HO4, HT4⟩
     case measure => simp [intOf]; omega
    | false =>
     have HNew : Hid (newP? L k = true) := lH (by rw [HNw.out]; rfl)
     have HFl : Hid (prefK L (k + 1) = prefK L k ++ [((us, uh, ul), ub)]) := lH (by rw [prefK_at Hu.out, HNew.out]; rfl)
     have hfm : f + 1 ≤ n := by have h1 := prefK_le L (k + 1); rw [HFl.out, List.length_append, List.length_singleton, hF.out] at h1; omega
     have HO5 : Hid ((w4.alloc (.cells #[.bool us, .int .u64 (uh : Int), .int .u64 (ul : Int), .int .i64 ub] 30)).ownsRow xb 30 4 (.slice A1 f cc) f ((prefK L k).flatMap pfC)) := lH (HO4.out.alloc _)
     have HSr := lH (src_new w4 30 [.bool us, .int .u64 (uh : Int), .int .u64 (ul : Int), .int .i64 ub])
     have HSz5 : Hid (xb ≤ (w4.alloc (.cells #[.bool us, .int .u64 (uh : Int), .int .u64 (ul : Int), .int .i64 ub] 30)).heap.size) := lH (by have h1 := HT4.out.size; have h2 := HXb.out; rw [zA]; omega)
     have HT5 := lH (HT4.out.alloc (.cells #[.bool us, .int .u64 (uh : Int), .int .u64 (ul : Int), .int .i64 ub] 30))
     have HSzf : Hid (f ≤ 1000000) := lH (by omega)
     obtain ⟨z0, z1, z2, z3, z4⟩ := HC4.out
     go_wp2_with (at_builtin; (refine wpList_apc 40 30 (.agg #[.bool false, .int .u64 0, .int .u64 0, .int .i64 0]) 4 32 Tryz.underlying40 infoPf rfl (by decide) (by decide) _ rfl (.tmp 36) (.tmp 45) rfl xb (.slice A1 f cc) f ((prefK L k).flatMap pfC) rfl HO5.out ⟨w4.heap.size, 0, none⟩ 1 [.bool us, .int .u64 (uh : Int), .int .u64 (ul : Int), .int .i64 ub] rfl rfl (fun j u hj => HSr.out j u hj) (by simp [Value.oneCell']) HSzf.out HSz5.out ?_; intro v7 w7 hown hg hv; obtain ⟨A7, c7, e7, -, -⟩ := own_sl hown; subst e7; have HO7 := lH hown; have HT7 := lH (HT5.out.trans_fre (Tch.of_grown' (S := obI (.slice A1 f cc)) hg (fun k e => by rw [obI_some e]; simp)) (fun s hs => .inr (by have := (own_geI HO5.out s hs).1; have := HXb.out; omega))); clear hown hg hv))
     go_roundw
     case rel => exact ⟨k + 1, f + 1, A7, c7, rfl, by go_num, hkn, hfm, lH (by rw [HFl.out, List.length_append, hF.out]; rfl), lH (by rw [HFl.out, List.flatMap_append]; exact HO7.out), HT7⟩
     case measure => simp [intOf]; omega
  ·obtain rfl : k = n := by omega
   have kI : ¬ (k : Int) < (k : Int) := by omega
   have HAll : Hid (prefK L k = prefsI L) := lH (by rw [← HN.out]; rfl)
   have HO9 := lH hO.out
   rw [HAll.out] at hF HO9
   have HF9 := lH hF.out
   have HT9 := lH hT.out
   clear hkn hk hF hO hT
   go_wp2
   go_ret
   exact ⟨A1, cc, by rw [HF9.out]; rfl, by rw [HF9.out, HXb.out]; exact HO9.out, HT9.out⟩
end Go.Proofs.YtgfkmgbcajdcdaaGreatDoor
