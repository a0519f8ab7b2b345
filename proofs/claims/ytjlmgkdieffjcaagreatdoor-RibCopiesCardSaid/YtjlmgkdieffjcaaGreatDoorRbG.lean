/-
  The document's own rib (layer 15): without, Drop.
-/
import Derived.Test.YtjlmgkdieffjcaaGreatDoorRbF
import Derived.Test.YtjlmgkdieffjcaaGreatDoorRbQ
namespace Go.Proofs.YtjlmgkdieffjcaaGreatDoor
open Go.RowKit
set_option linter.unusedVariables false

/-- 'append' of some elements, wherever they are read, onto a row of the call's own. -/
theorem wpList_apx (tS tE : TypeId) (zv : Value) (sz by_ : Nat) (hu : Tryz.prog.underlying tS = some (.slice tE)) (hinf : (Tryz.prog.info? tE).map (fun i => (i.zero, i.size, i.bytes)) = some (some zv, sz, by_)) (hzs : zv.cells.size = sz) (hsz : 0 < sz) (hby : by_ ≤ 1000)
    (w : World) {ops : Array Oper} {rest : List Oper} {o : Oper} {a : Act} {Q : Exit → Act → World → Prop} (hgd : o.guard = none) (s x : Operand)
    (ho : o.op = .call { callee := .builtin .append, args := #[s, x], argTypes := #[tS, tS] })
    (base : Nat) (v : Value) (n : Nat) (xs : List Value) (hs : a.eval s = v) (hown : w.ownsRow base tE sz v n xs)
    (ad : Addr) (m c : Nat) (e : List Value) (hx : a.eval x = .slice (some ad) m c) (hl : e.length = m * sz) (hc : ∀ j u, e[j]? = some u → w.cell? (ad.add j) = some u) (h1 : ∀ u ∈ e, u.oneCell' = true)
    (hn : n + m ≤ 1000000) (hbase : base ≤ w.heap.size)
    (h : ∀ v' w', w'.ownsRow base tE sz v' (n + m) (xs ++ e) → w.grownBy w' v.ownBlock → (v'.ownBlock = v.ownBlock ∨ v'.ownBlock = some w.heap.size) → wpList Tryz.prog ops Q rest (a.put o.dst v') w') :
    wpList Tryz.prog ops Q (o :: rest) a w := by
  obtain ⟨i0, hi, hz0, hz1, hz2⟩ := info_parts hinf
  have hb : (n + m) * by_ ≤ 1000000 * 1000 := Nat.mul_le_mul hn hby
  refine wpList_append_own_at w hgd s x tS ho base tE i0 zv sz by_ hu hi hz0 hz1 hz2 hzs hsz v n xs hs hown ad m c e hx hl hc h1 (by unfold maxLen; omega) (by omega) hbase ?_
  intro v' w' h1 h2 h3 h4
  exact h v' w' h1 h2 h4
theorem own_take {w : World} {g n c sz k : Nat} {t : TypeId} {xs : List Value} (h : w.ownsRow 0 t sz (.slice (some ⟨g, 0, none⟩) n c) n xs) (hk : k ≤ n) : w.ownsRow 0 t sz (.slice (some ⟨g, 0, none⟩) k c) k (xs.take (k * sz)) := by
  have hl := h.1
  have hm : k * sz ≤ n * sz := Nat.mul_le_mul_right _ hk
  rcases h.2 with ⟨e, -⟩ | ⟨g', cap, cur, e, h1, h2, h3, h4, h5, h6⟩
  · cases e
  · injection e with e1 e2 e3
    injection e1 with e1
    injection e1 with e1
    subst e1 e3
    exact ⟨by rw [List.length_take, hl, Nat.min_eq_left hm], .inr ⟨g, c, cur, rfl, h1, h2, by omega, h4, h5, by rw [← h6, List.take_take, Nat.min_eq_left hm]⟩⟩
theorem flatk_take {α : Type} {f : α → List Value} {sz : Nat} (hf : ∀ x, (f x).length = sz) : ∀ (l : List α) (k : Nat), (l.flatMap f).take (k * sz) = (l.take k).flatMap f
  | [], k => by simp
  | x :: r, 0 => by simp
  | x :: r, k + 1 => by
    rw [List.flatMap_cons, List.take_succ_cons, List.flatMap_cons, ← flatk_take hf r k, List.take_append, List.take_of_length_le (l := f x) (by rw [hf, Nat.succ_mul]; omega), hf, show (k + 1) * sz - sz = k * sz by rw [Nat.succ_mul]; omega]
theorem flatk_drop {α : Type} {f : α → List Value} {sz : Nat} (hf : ∀ x, (f x).length = sz) : ∀ (l : List α) (k : Nat), (l.flatMap f).drop (k * sz) = (l.drop k).flatMap f
  | [], k => by simp
  | x :: r, 0 => by simp
  | x :: r, k + 1 => by
    have e : (f x).drop ((k + 1) * sz) = [] := List.drop_of_length_le (by rw [hf, Nat.succ_mul]; omega)
    rw [List.flatMap_cons, List.drop_succ_cons, ← flatk_drop hf r k, List.drop_append, e, List.nil_append, hf, show (k + 1) * sz - sz = k * sz by rw [Nat.succ_mul]; omega]
/-- The rest of a row of what is told, behind the first k. -/
theorem td_rest {w : World} {g n c k : Nat} {L : List TdI} (h : w.ownsRow 0 86 11 (.slice (some ⟨g, 0, none⟩) n c) n (L.flatMap tdC)) (hn : L.length = n) (hk : k ≤ n) : ∃ A : Addr, (if c = k then (some ⟨g, 0, none⟩ : Option Addr) else some ⟨g, k * 11, none⟩) = some A ∧ (∀ W, Tch w W [] → ∀ j u, ((L.drop k).flatMap tdC)[j]? = some u → W.cell? (A.add j) = some u) ∧ ((L.drop k).flatMap tdC).length = (n - k) * 11 := by
  obtain ⟨A', c', e, hnc, -⟩ := own_sl h
  injection e with e1 e2 e3
  subst e3
  have hlen : ((L.drop k).flatMap tdC).length = (n - k) * 11 := by rw [flatk_len td_eleven, List.length_drop, hn]
  by_cases hck : c = k
  · refine ⟨_, if_pos hck, fun W hT j u hj => ?_, hlen⟩
    have := (List.getElem?_eq_some_iff.1 hj).1
    omega
  · refine ⟨_, if_neg hck, fun W hT j u hj => ?_, hlen⟩
    rw [← flatk_drop td_eleven, List.getElem?_drop] at hj
    rw [show (⟨g, k * 11, none⟩ : Addr).add j = ⟨g, k * 11 + j, none⟩ by unfold Addr.add; split <;> simp_all]
    exact own_cellN (own_tch h hT (by simp)) hj
set_option maxRecDepth 100000 in
set_option maxHeartbeats 4000000 in
theorem withoutD (t : Nat) (S : List Nat) (L : List TdI) (hL : L.length ≤ 1000) (i : Nat) (hi : i < L.length) (w : World) (h : RbD w t S L) :
    Calls Tryz.prog 51 #[.pointer (some ⟨t, 0, none⟩), .int .i64 (i : Int)] w fun e w' => e = .returned (.tuple #[]) ∧ ∃ S', RbD w' t S' (L.eraseIdx i) ∧ Goes w w' S S' := by
  have HH := Lib.hid h
  obtain ⟨A, c, c0, hrow, htl, hfz⟩ := h.head
  obtain ⟨g, rfl⟩ := slice_some hrow (by omega)
  obtain ⟨n, hn⟩ : ∃ n, L.length = n := ⟨_, rfl⟩
  rw [hn] at c0 hrow hi hL
  obtain ⟨A1, hA1, hcells, hlen⟩ := td_rest (k := i + 1) hrow hn (by omega)
  have hrow1 := own_take hrow (k := i) (by omega)
  rw [flatk_take td_eleven] at hrow1
  have HRow1 := Lib.hid hrow1
  have HCells := Lib.hid hcells
  have HLen := Lib.hid hlen
  obtain ⟨d, hd⟩ : ∃ d, n - (i + 1) = d := ⟨_, rfl⟩
  rw [hd] at HLen
  have HNil : Hid (w.ownsRow w.heap.size 86 11 (.slice none 0 0) 0 []) := Lib.hid ⟨rfl, .inl ⟨rfl, rfl⟩⟩
  have HSz : Hid (0 + i ≤ 1000000 ∧ 0 + i + d ≤ 1000000) := Lib.hid (by omega)
  have HEr : Hid ([] ++ (L.take i).flatMap tdC ++ (L.drop (i + 1)).flatMap tdC = (L.eraseIdx i).flatMap tdC ∧ (L.eraseIdx i).length = 0 + i + d) := Lib.hid (by
    rw [List.eraseIdx_eq_take_drop_succ, List.flatMap_append, List.length_append, List.length_take, List.length_drop, hn]
    exact ⟨rfl, by omega⟩)
  have HNum : Hid (∀ u ∈ L.eraseIdx i, NumT u) := Lib.hid (fun u hu => h.num u (List.mem_of_mem_eraseIdx hu))
  have HTl := Lib.hid htl
  have j1 : IntKind.i64.wrap ((i : Int) + 1) = (i : Int) + 1 := by rw [IntKind.wrap_i64]; omega
  have hnc' : n ≤ c := by
    obtain ⟨_, _, e, h9, _⟩ := own_sl hrow
    injection e with e1 e2 e3
    omega
  have hic : i ≤ c := by omega
  have hib : (0 : Int) ≤ (i : Int) + 1 ∧ (i : Int) + 1 ≤ (n : Int) := by omega
  clear hrow hrow1 hcells hlen h hn
  go_enter Tryz.func51, Tryz.ntmps51
  go_wp2_with (first
    | (at_builtin; (refine wpList_apm 62 86 (.agg #[.bool false, .int .u64 0, .int .u64 0, .int .i64 0, .int .i64 0, .int .i64 0, .bool false, .int .u64 0, .int .u64 0, .int .i64 0, .bool false]) 11 88 Tryz.underlying62 infoTd rfl (by decide) (by decide) _ rfl (.tmp 5) (.tmp 11) rfl w.heap.size (.slice none 0 0) 0 [] rfl HNil.out 0 (.slice (some ⟨g, 0, none⟩) i c) i ((L.take i).flatMap tdC) rfl HRow1.out (flat_one td_one _) HSz.out.1 (Nat.le_refl _) ?_; intro v5 w5 hown hg hv; have hT5 : Tch w w5 [] := Tch.of_grown' hg (fun g e => by cases e); have c5 := (hT5.cell (p := ⟨t, 0, none⟩) HTl.out (by simp)).trans c0; have HC5 := Lib.hid (HCells.out w5 hT5); have HO5 := Lib.hid hown; have HT5 := Lib.hid hT5; clear hown hg hv hT5 c0))
    | (at_builtin; (refine wpList_apx 62 86 (.agg #[.bool false, .int .u64 0, .int .u64 0, .int .i64 0, .int .i64 0, .int .i64 0, .bool false, .int .u64 0, .int .u64 0, .int .i64 0, .bool false]) 11 88 Tryz.underlying62 infoTd rfl (by decide) (by decide) _ rfl (.tmp 14) (.tmp 21) rfl w.heap.size v5 (0 + i) _ rfl HO5.out A1 d (c - (i + 1)) _ rfl HLen.out HC5.out (flat_one td_one _) HSz.out.2 HT5.out.size ?_; intro v7 w7 hown hg hv; obtain ⟨A7, c7, e7, -, -⟩ := own_sl hown; subst e7; have hT7 : Tch w w7 [] := HT5.out.trans_fre (Tch.of_grown' (S := obI v5) hg (fun k e => by rw [obI_some e]; simp)) (fun s hs => .inr (own_geI HO5.out s hs).1); obtain ⟨⟨u7, k7⟩, f7, S', hD7, hG7⟩ := RbD.set_ HH.out hT7 (A := A7) (c := c7) (M := L.eraseIdx i) (by rw [HEr.out.2, ← HEr.out.1]; exact hown) HNum.out; rw [HEr.out.2, Nat.zero_add] at hD7 hG7; have HD7 := Lib.hid hD7; have HG7 := Lib.hid hG7; clear hown hg hv hT7 hD7 hG7)))
  go_end0
  exact ⟨rfl, S', HD7.out, HG7.out⟩
set_option maxRecDepth 100000 in
set_option maxHeartbeats 2000000 in
theorem dropRD (t : Nat) (S : List Nat) (L : List TdI) (hL : L.length ≤ 1000) (p : PfI) (x : PaI) (w : World) (h : RbD w t S L) :
    Calls Tryz.prog 26 #[.pointer (some ⟨t, 0, none⟩), pfR p, paR x] w fun e w' => e = .returned (.int .i64 (dropR L p x).2) ∧ ∃ S', RbD w' t S' (dropR L p x).1 ∧ Goes w w' S S' := by
  have HH := Lib.hid h
  have HWay := Lib.hid (fun W (hT : Tch w W []) => wayD t S L hL p x W (h.tch hT (by simp)))
  have HWt := Lib.hid (fun i (hi : i < L.length) W (hD : RbD W t S L) => withoutD t S L hL i hi W hD)
  have hle : wayI L p x ≤ L.length := fndI_le _ _
  have HT : Hid (∀ (o o' : Obj), Tch w ((w.alloc o).alloc o') []) := Lib.hid (fun o o' => ((Tch.refl w []).alloc _).alloc _)
  have HE0 : Hid (wayI L p x = 0 → dropR L p x = (L, 142)) := Lib.hid (fun e => by unfold dropR; rw [if_pos e])
  have HE1 : Hid (∀ k, wayI L p x = k + 1 → dropR L p x = (L.eraseIdx k, 0)) := Lib.hid (fun k e => by unfold dropR; rw [if_neg (by omega), e, Nat.add_sub_cancel])
  obtain ⟨⟨⟨ps, ph, pl⟩, pb⟩, hp⟩ : ∃ q : PfI, q = p := ⟨p, rfl⟩
  obtain ⟨⟨pr, me, ⟨vs, vh, vl⟩, po, aw⟩, hx⟩ : ∃ q : PaI, q = x := ⟨x, rfl⟩
  subst hp hx
  obtain ⟨z, hz⟩ : ∃ z : Int, ((wayI L ((ps, ph, pl), pb) (pr, me, (vs, vh, vl), po, aw) : Nat) : Int) - 1 = z := ⟨_, rfl⟩
  rw [hz] at HWay
  have HZ := Lib.hid hz
  have HLe := Lib.hid hle
  clear h hz hle
  go_enter Tryz.func26, Tryz.ntmps26
  go_wp2_with fail
  refine Calls.mono (HWay.out _ (HT.out _ _)) ?_
  rintro e w5 ⟨rfl, hT5⟩
  have HT5 := Lib.hid ((HT.out _ _).trans hT5)
  clear hT5
  by_cases hz0 : z < 0
  · have HE := Lib.hid (HE0.out (by have := HZ.out; omega))
    go_wp2
    go_ret
    rw [HE.out]
    exact ⟨rfl, S, HH.out.tch HT5.out (by simp), Goes.of_tch (HT5.out.mono (by simp))⟩
  · obtain ⟨k, rfl⟩ : ∃ k : Nat, z = (k : Int) := ⟨z.toNat, by omega⟩
    have hk : wayI L ((ps, ph, pl), pb) (pr, me, (vs, vh, vl), po, aw) = k + 1 := by have := HZ.out; omega
    have HE := Lib.hid (HE1.out k hk)
    have HW2 := Lib.hid (HWt.out k (by have := HLe.out; omega) w5 (HH.out.tch HT5.out (by simp)))
    clear hk
    go_wp2_with fail
    refine Calls.mono HW2.out ?_
    rintro e w7 ⟨rfl, S', hD, hG⟩
    have HD := Lib.hid hD
    have HG : Hid (Goes w w7 S S') := Lib.hid ⟨(HT5.out.mono (by simp)).trans hG.tch, fun s hs => by
      rcases hG.fre s hs with h1 | h1
      · exact .inl h1
      · exact .inr (Nat.le_trans HT5.out.size h1)⟩
    clear hD hG
    go_wp2
    go_ret
    rw [HE.out]
    exact ⟨rfl, S', HD.out, HG.out⟩
end Go.Proofs.YtjlmgkdieffjcaaGreatDoor
