/-
  Several texts in one: RpR, RpT, RbS, RbT.
-/
import Derived.Test.YtgfkmgbcajdcdaaGreatDoorKag
import Derived.Test.YtgfkmgbcajdcdaaGreatDoorKao
import Derived.Test.YtgfkmgbcajdcdaaGreatDoorKak
import Derived.Test.YtgfkmgbcajdcdaaGreatDoorKat
namespace Go.Proofs.YtgfkmgbcajdcdaaGreatDoor
open Go.RowKit
set_option linter.unusedVariables false

/-- One element of a row stored anew. -/
theorem sta_set {w w' : World} {g n c i : Nat} {X : List PaI} {y : PaI} {cur : Array Value} (h : w.ownsRow 0 49 7 (.slice (some ⟨g, 0, none⟩) n c) n (X.flatMap paC)) (hl : X.length = n) (hi : i < n)
    (hB : Blk w g 49 cur) (hs : Sta w w' g (i * 7) 49 cur (paC y).toArray) : w'.ownsRow 0 49 7 (.slice (some ⟨g, 0, none⟩) n c) n ((X.set i y).flatMap paC) := by
  obtain ⟨cu, hb, h1, h2, h3, h4⟩ := own_openN h
  obtain rfl : cu = cur := by have := hb.symm.trans hB; injection this with e; injection e
  obtain ⟨c2, b2, s2, o2, k2⟩ := hs.blk
  have h7 : (paC y).toArray.size = 7 := by rw [List.size_toArray]; exact pa_seven y
  rw [h7] at o2 k2
  refine ⟨by rw [flatk_len pa_seven, List.length_set, hl], .inr ⟨g, c, c2, rfl, Nat.zero_le _, b2, h1, h2, by rw [s2]; exact h3, ?_⟩⟩
  refine List.ext_getElem? fun p => ?_
  by_cases hp : p < n * 7
  · rw [List.getElem?_take_of_lt hp, Array.getElem?_toList]
    have hq : p / 7 < n := by omega
    have hr : p % 7 < 7 := Nat.mod_lt _ (by decide)
    have hpe : p / 7 * 7 + p % 7 = p := by omega
    by_cases hqi : p / 7 = i
    · have hx : (X.set i y)[p / 7]? = some y := by rw [hqi, List.getElem?_set_self (by omega)]
      have e := flatk_at pa_seven hx hr
      rw [hpe] at e
      rw [e]
      have := k2 (p % 7) hr
      rw [show i * 7 + p % 7 = p by omega] at this
      rw [this, List.getElem?_toArray]
    · rw [o2 p (by omega)]
      have e1 : cu[p]? = (X.flatMap paC)[p]? := by rw [← h4, List.getElem?_take_of_lt hp, Array.getElem?_toList]
      obtain ⟨z, hz⟩ : ∃ z, X[p / 7]? = some z := ⟨_, List.getElem?_eq_getElem (by omega)⟩
      have hx : (X.set i y)[p / 7]? = some z := by rw [List.getElem?_set_ne (by omega)]; exact hz
      have e2 := flatk_at pa_seven hz hr
      have e3 := flatk_at pa_seven hx hr
      rw [hpe] at e2 e3
      rw [e1, e2, e3]
  · rw [List.getElem?_eq_none (by rw [List.length_take]; omega), List.getElem?_eq_none (by rw [flatk_len pa_seven, List.length_set, hl]; omega)]
theorem take_filter_no {l : List PaI} {K : PaI → Bool} {j : Nat} {y : PaI} (h : l[j]? = some y) (hk : K y = false) : (l.take (j + 1)).filter K = (l.take j).filter K := by
  rw [List.take_add_one, h, List.filter_append]; simp [hk]
theorem take_filter_yes {l : List PaI} {K : PaI → Bool} {j : Nat} {y : PaI} (h : l[j]? = some y) (hk : K y = true) : (l.take (j + 1)).filter K = (l.take j).filter K ++ [y] := by
  rw [List.take_add_one, h, List.filter_append]; simp [hk]
set_option maxRecDepth 100000 in
set_option maxHeartbeats 4000000 in
theorem delfn_any (pr0 : Int) (xb : Nat) (A : Option Addr) (n c : Nat) (l : List PaI) (hl : l.length = n) (hn : n ≤ 1000) (w : World) (h : w.ownsRow 0 49 7 (.slice A n c) n (l.flatMap paC)) (hB : w.cell? ⟨xb, 0, none⟩ = some (.int .i64 pr0)) (hx : xb ∉ obI (.slice A n c)) :
    Calls Tryz.prog 167 #[.slice A n c, .func (.func 168) #[] #[.pointer (some ⟨xb, 0, none⟩)]] w fun e w' =>
      e = .returned (.slice A (l.filter fun y => !decide (y.1 = pr0)).length c) ∧ w'.ownsRow 0 49 7 (.slice A (l.filter fun y => !decide (y.1 = pr0)).length c) (l.filter fun y => !decide (y.1 = pr0)).length ((l.filter fun y => !decide (y.1 = pr0)).flatMap paC) ∧ Tch w w' (obI (.slice A n c)) := by
  have HI := Lib.hid (idx_pro pr0 xb A n c l hl hn w h hB)
  have hbl := World.block_lt_of_cell? w _ hB
  have HF := Lib.hid (fun (y : PaI) W (hT : Tch w W (obI (.slice A n c))) => flush1_any pr0 xb y W ((hT.cell (p := ⟨xb, 0, none⟩) hbl hx).trans hB))
  obtain ⟨K, hK⟩ : ∃ K : PaI → Bool, (fun y : PaI => !decide (y.1 = pr0)) = K := ⟨_, rfl⟩
  have HKe : Hid (∀ y : PaI, decide (y.1 = pr0) = !(K y)) := Lib.hid (fun y => by rw [← hK]; simp)
  rw [hK]
  obtain ⟨f, hf⟩ : ∃ f, fndI (fun y : PaI => decide (y.1 = pr0)) l = f := ⟨_, rfl⟩
  rw [hf] at HI
  have HL := Lib.hid hl
  have HO := Lib.hid h
  have HN := Lib.hid hn
  clear hK hB hbl hx
  cases f with
  | zero =>
    have HE : Hid (l.filter K = l) := Lib.hid (List.filter_eq_self.2 fun y hy => by
      obtain ⟨j, hj⟩ := List.getElem?_of_mem hy
      have h1 := fndI_zero.1 hf j y hj
      have h2 := HKe.out y
      simp only [h1] at h2
      cases hk : K y with
      | true => rfl
      | false => rw [hk] at h2; simp at h2)
    rw [HE.out, HL.out]
    clear hf h hl hn
    go_enter Tryz.func167, Tryz.ntmps167
    go_wp2_with fail
    refine Calls.mono HI.out ?_
    rintro e w1 ⟨rfl, hT⟩
    have HT := Lib.hid hT
    clear hT
    go_wp2
    go_ret
    exact ⟨rfl, own_tch HO.out HT.out (by simp), HT.out.mono (by simp)⟩
  | succ k0 =>
    obtain ⟨⟨y0, hy0, hp0⟩, hbe⟩ := fndI_succ.1 hf
    have hk0 : k0 < n := by rw [← hl]; exact (List.getElem?_eq_some_iff.1 hy0).1
    obtain ⟨g, rfl⟩ := slice_some h (by omega)
    have hnc : n ≤ c := by obtain ⟨cur, -, h1, -⟩ := own_openN h; exact h1
    have ht0 : (l.take (k0 + 1)).filter K = l.take k0 := by
      rw [take_filter_no hy0 (by have := HKe.out y0; simp only [hp0] at this; cases hk : K y0 with
        | true => rw [hk] at this; simp at this
        | false => rfl)]
      refine List.filter_eq_self.2 fun y hy => ?_
      obtain ⟨j, hj⟩ := List.getElem?_of_mem hy
      have hjl : j < k0 := by have := (List.getElem?_eq_some_iff.1 hj).1; rw [List.length_take] at this; omega
      rw [List.getElem?_take_of_lt hjl] at hj
      have h1 := hbe j y hjl hj
      have h2 := HKe.out y
      simp only [h1] at h2
      cases hk : K y with
      | true => rfl
      | false => rw [hk] at h2; simp at h2
    have HT0 := Lib.hid ht0
    have hob : obI (.slice (some ⟨g, 0, none⟩) n c) = [g] := rfl
    rw [hob] at HF ⊢
    have e0 : (((k0 + 1 : Nat) : Int) - 1 == -1) = false := by simp
    have e1 : ((k0 + 1 : Nat) : Int) - 1 = (k0 : Int) := by omega
    have hw0 : IntKind.i64.wrap ((k0 : Int) + 1) = (k0 : Int) + 1 := by rw [IntKind.wrap_i64]; omega
    rw [e1] at HI
    have e2 : ((k0 : Int) == -1) = false := by simp
    have HK0 : Hid (k0 < n) := Lib.hid hk0
    clear hf h hl hy0 hp0 hbe ht0 hob e0 e1
    go_enter Tryz.func167, Tryz.ntmps167
    go_wp2_with fail
    refine Calls.mono HI.out ?_
    rintro e w1 ⟨rfl, hT⟩
    have HT1 := Lib.hid hT
    have HO1 := Lib.hid (own_tch HO.out hT (by simp))
    clear hT
    go_wp2
    go_loopw [5, 6] (fun iv jv wr => ∃ (i j : Nat) (X : List PaI), iv = .int .i64 (i : Int) ∧ jv = .int .i64 (j : Int) ∧ i < j ∧ j ≤ n ∧ Hid (X.length = n) ∧ Hid (((l.take j).filter K).length = i) ∧ Hid (X.take i = (l.take j).filter K) ∧ Hid (X.drop j = l.drop j) ∧ Hid (wr.ownsRow 0 49 7 (.slice (some ⟨g, 0, none⟩) n c) n (X.flatMap paC)) ∧ Hid (Tch w wr [g])) (fun _ jv _ => n - (intOf jv).toNat)
    case atStart => exact ⟨k0, k0 + 1, l, rfl, by go_num, by omega, by omega, HL, Lib.hid (by rw [HT0.out, List.length_take, HL.out]; omega), Lib.hid HT0.out.symm, Lib.hid rfl, HO1, Lib.hid (HT1.out.mono (by simp))⟩
    case round =>
      obtain ⟨i, j, X, rfl, rfl, hij, hjn, hXl, hFl, hXt, hXd, hO, hT⟩ := hrel
      have j1 : IntKind.i64.wrap ((j : Int) + 1) = (j : Int) + 1 := by rw [IntKind.wrap_i64]; omega
      have i1 : IntKind.i64.wrap ((i : Int) + 1) = (i : Int) + 1 := by rw [IntKind.wrap_i64]; omega
      clear hw0 e2 hk0
      by_cases hjl : j < n
      · have jI : (j : Int) < (n : Int) := by omega
        have j0 : (0 : Int) ≤ (j : Int) := by omega
        have i0 : (0 : Int) ≤ (i : Int) := by omega
        have iI : (i : Int) < (n : Int) := by omega
        obtain ⟨y, hy⟩ : ∃ y, l[j]? = some y := ⟨_, List.getElem?_eq_getElem (by rw [HL.out]; exact hjl)⟩
        have hyX : X[j]? = some y := by
          have e1 : (X.drop j)[0]? = (l.drop j)[0]? := by rw [hXd.out]
          rw [List.getElem?_drop, List.getElem?_drop, Nat.add_zero] at e1
          rw [e1]; exact hy
        obtain ⟨y0, y1, y2, y3, y4, y5, y6⟩ := pa_cells hO.out hyX
        have Hy := Lib.hid hy
        have HyX := Lib.hid hyX
        obtain ⟨b, hb⟩ : ∃ b, K y = b := ⟨_, rfl⟩
        have HC : Hid (∀ W, Tch w W [g] → Calls Tryz.prog 168 _ W fun e w' => e = .returned (.bool (!b)) ∧ Tch W w' []) := Lib.hid (fun W hW => by rw [← hb, ← HKe.out y]; exact HF.out y W hW)
        have HBb := Lib.hid hb
        obtain ⟨pr, me, ⟨vs, vh, vl⟩, po, aw⟩ := y
        obtain ⟨vb, hvb⟩ : ∃ vb, wr.heap.size = vb := ⟨_, rfl⟩
        obtain ⟨W2, hW2⟩ : ∃ W, wr.alloc (.cells #[.int .i64 pr, .int .i64 me, .bool vs, .int .u64 (vh : Int), .int .u64 (vl : Int), .int .i64 po, .bool aw] 49) = W := ⟨_, rfl⟩
        have HV2 : Hid (Blk W2 vb 49 #[.int .i64 pr, .int .i64 me, .bool vs, .int .u64 (vh : Int), .int .u64 (vl : Int), .int .i64 po, .bool aw]) := Lib.hid (hW2 ▸ hvb ▸ Blk.new wr _ _)
        have hT2 : Tch wr W2 [] := hW2 ▸ (Tch.refl wr []).alloc _
        have HT2 := Lib.hid (hT.out.trans_fre hT2 (by simp))
        have HO2 := Lib.hid (own_tch hO.out hT2 (by simp))
        have HWs := Lib.hid (And.intro hW2 hvb)
        clear hy hyX hb hT2 hW2 hvb
        go_wp2_with fail
        rw [HWs.out.1, HWs.out.2]
        refine Calls.mono (HC.out W2 HT2.out) ?_
        rintro e w5 ⟨rfl, hT5⟩
        have HV5 := Lib.hid (hT5.blk HV2.out (by simp))
        have HO5 := Lib.hid (own_tch HO2.out hT5 (by simp))
        have HT5 := Lib.hid (HT2.out.trans_fre hT5 (by simp))
        clear hT5 y0 y1 y2 y3 y4 y5 y6
        obtain ⟨y0, y1, y2, y3, y4, y5, y6⟩ := HV5.out.p7
        cases b with
        | false =>
          have HFn := Lib.hid (take_filter_no Hy.out HBb.out)
          go_wp2
          go_roundw
          case rel => exact ⟨i, j + 1, X, rfl, by go_num, by omega, hjl, hXl, Lib.hid (by rw [HFn.out]; exact hFl.out), Lib.hid (by rw [HFn.out]; exact hXt.out), Lib.hid (by rw [← List.drop_drop, hXd.out, List.drop_drop]), HO5, HT5⟩
          case measure => simp [intOf]; omega
        | true =>
          have HFn := Lib.hid (take_filter_yes Hy.out HBb.out)
          obtain ⟨cur, hcur, hb1, hb2, hb3, hb4⟩ := own_openN HO5.out
          have HCu := Lib.hid hcur
          have HFit : Hid (i * 7 + 7 ≤ cur.size) := Lib.hid (by rw [hb3]; omega)
          clear hcur hb1 hb2 hb3 hb4
          go_wp2_with (refine wpList_sta rfl 49 (.tmp 33) (.tmp 32) rfl g (i * 7) #[.int .i64 pr, .int .i64 me, .bool vs, .int .u64 (vh : Int), .int .u64 (vl : Int), .int .i64 po, .bool aw] rfl rfl 49 cur HCu.out 7 paSz rfl HFit.out (by simp [Value.oneCell']) ?_; intro w6 hs6; have HS6 := Lib.hid hs6; clear hs6)
          have HO6 := Lib.hid (sta_set (y := (pr, me, (vs, vh, vl), po, aw)) HO5.out hXl.out (by omega) HCu.out HS6.out)
          go_roundw
          case rel => exact ⟨i + 1, j + 1, X.set i (pr, me, (vs, vh, vl), po, aw), by go_num, by go_num, by omega, hjl, Lib.hid (by rw [List.length_set]; exact hXl.out), Lib.hid (by rw [HFn.out, List.length_append, hFl.out]; rfl), Lib.hid (by
            rw [HFn.out, ← hXt.out, List.take_add_one, List.getElem?_set_self (by rw [hXl.out]; omega), List.take_set_of_le (Nat.le_refl _)]; rfl), Lib.hid (by rw [List.drop_set_of_lt (by omega), ← List.drop_drop, hXd.out, List.drop_drop]), HO6, Lib.hid (HT5.out.trans_fre HS6.out.tch (by simp))⟩
          case measure => simp [intOf]; omega
      · obtain rfl : j = n := by omega
        have jI : ¬ (j : Int) < (j : Int) := by omega
        have hFe : (l.take j).filter K = l.filter K := by rw [List.take_of_length_le (by rw [HL.out]; exact Nat.le_refl _)]
        rw [hFe] at hFl hXt
        obtain ⟨cur, hcur, hb1, hb2, hb3, hb4⟩ := own_openN hO.out
        obtain ⟨zs, hzl, -, hclr0⟩ := run_clear_k wr 118 49 0 _ Tryz.underlying118 zeroPa paZ rfl (by simp [Value.oneCell']) g (i * 7) (j - i) (c - i) 49 cur hcur (by simp; rw [hb3]; omega)
        have hclr : ∀ ty, (Builtin.clear_ #[118] ty #[.slice (some ⟨g, i * 7, none⟩) (j - i) (c - i)]).run Tryz.prog wr = .ok (.tuple #[]) (wr.setRow g (cur.toList.take (i * 7) ++ zs ++ cur.toList.drop (i * 7 + zs.length)).toArray) := fun ty => hclr0
        simp at hzl
        obtain ⟨cur2, hcur2⟩ : ∃ cur2, (cur.toList.take (i * 7) ++ zs ++ cur.toList.drop (i * 7 + zs.length)).toArray = cur2 := ⟨_, rfl⟩
        rw [hcur2] at hclr
        have hcl : cur.toList.length = c * 7 := by rw [Array.length_toList]; exact hb3
        have HFin : Hid ((wr.setRow g cur2).ownsRow 0 49 7 (.slice (some ⟨g, 0, none⟩) i c) i ((l.filter K).flatMap paC) ∧ Tch w (wr.setRow g cur2) [g]) := Lib.hid (by
          refine ⟨⟨by rw [flatk_len pa_seven, hFl.out], .inr ⟨g, c, _, rfl, Nat.zero_le _, setRow_blk hcur, by omega, hb2, ?_, ?_⟩⟩, hT.out.trans_fre (setRow_tch wr g _) (by simp)⟩
          · rw [← hcur2]
            simp only [List.size_toArray, List.length_append, List.length_take, List.length_drop, hcl, hzl]
            omega
          · rw [← hcur2, List.toList_toArray, List.append_assoc, List.take_left' (by rw [List.length_take, hcl]; omega), take_cut hb4 (by omega), ← hXt.out]
            rw [← List.take_append_drop i X, List.flatMap_append, List.take_left' (by rw [flatk_len pa_seven, List.length_take, hXl.out]; omega)]
            rw [List.take_append_drop])
        have hic : i ≤ c := by omega
        have hci : ¬ c = i := by omega
        have hib : (0 : Int) ≤ (i : Int) ∧ (i : Int) ≤ (j : Int) := by omega
        have hib2 : (i : Int) ≤ (c : Int) := by omega
        have HFl := Lib.hid hFl.out
        clear hclr0 hcur2 hjl hb1 hb2 hb3 hb4 hcl hzl hcur hFe
        go_wp2
        go_ret
        exact ⟨by rw [HFl.out]; rfl, by rw [HFl.out]; exact HFin.out.1, HFin.out.2⟩
end Go.Proofs.YtgfkmgbcajdcdaaGreatDoor

namespace Go.Proofs.YtgfkmgbcajdcdaaGreatDoor
open Go.RowKit
set_option linter.unusedVariables false

/-- What stands once the Proto's paths to some prefixes are gone. -/
def flK (L : List TdI) (ps : List PfI) (pr : Int) : List TdI := L.filter fun t => !(decide (t.1 ∈ ps) && decide (t.2.1 = pr))
theorem flK_nil (L : List TdI) (pr : Int) : flK L [] pr = L := by unfold flK; exact List.filter_eq_self.2 fun t _ => by simp
theorem flK_snoc (L : List TdI) (ps : List PfI) (p : PfI) (pr : Int) : flK L (ps ++ [p]) pr = (flK L ps pr).filter fun t => !(decide (t.1 = p) && decide (t.2.1 = pr)) := by
  unfold flK
  rw [List.filter_filter]
  refine List.filter_congr fun t _ => ?_
  by_cases h1 : t.1 ∈ ps <;> by_cases h2 : t.1 = p <;> by_cases h3 : t.2.1 = pr <;> simp [h1, h2, h3]
theorem flK_all {L : List TdI} {ps : List PfI} (h : ∀ t ∈ L, t.1 ∈ ps) (pr : Int) : flK L ps pr = (flushR L pr).1 := by
  unfold flK flushR
  refine List.filter_congr fun t ht => ?_
  simp [h t ht]
theorem flK_has {L : List TdI} {ps : List PfI} {p : PfI} {pr : Int} (hn : p ∉ ps) : pathsI (flK L ps pr) p = pathsI L p := by
  unfold flK
  rw [flush_row L _ (fun _ => true) p (fun t ht => by rw [ht]; simp [hn])]
  exact List.filter_eq_self.2 fun _ _ => rfl
theorem inv_len {L : List TdI} (h : InvB L) : L.length ≤ 360 := by
  have h1 := len_sum (prefsI L) L (prefsI_nodup h.inv) (fun u hu => (prefsI_mem h.inv).2 ⟨u, hu, rfl⟩)
  have h9 := h.ninety
  have h4 : ∀ K : List PfI, (K.map fun p => (pathsI L p).length).sum ≤ 4 * K.length := fun K => by
    induction K with
    | nil => simp
    | cons p K ih => rw [List.map_cons, List.sum_cons, List.length_cons]; have := h.four p; omega
  have := h4 (prefsI L)
  omega
set_option maxRecDepth 100000 in
set_option maxHeartbeats 4000000 in
theorem flushP (t : Nat) (S : List Nat) (L : List TdI) (pr : Int) (hi : I64 pr) (w : World) (h : RbP w t S L) :
    Calls Tryz.prog 127 #[.pointer (some ⟨t, 0, none⟩), .int .i64 pr] w fun e w' => e = .returned (.int .i64 (flushR L pr).2) ∧ ∃ S', RbP w' t S' (flushR L pr).1 ∧ Goes w w' S S' := by
  have HP := Lib.hid h
  have hI := h.inv
  have HI := Lib.hid hI
  have hlen := inv_len hI
  have hok : ∀ u ∈ L, PfOk u.1 ∧ PaOk u.2 := by obtain ⟨m0, M0, hr⟩ := h; exact hr.ok
  have HOk := Lib.hid hok
  have HSl := Lib.hid h.lt
  obtain ⟨l, hl⟩ : ∃ l, prefsI L = l := ⟨_, rfl⟩
  obtain ⟨n, hn⟩ : ∃ n, l.length = n := ⟨_, rfl⟩
  have hn90 : n ≤ 90 := by rw [← hn, ← hl]; exact hI.ninety
  have HMem : Hid (∀ u ∈ L, u.1 ∈ l) := Lib.hid (fun u hu => hl ▸ (prefsI_mem hI.inv).2 ⟨u, hu, rfl⟩)
  have HNod : Hid (l.Nodup) := Lib.hid (hl ▸ prefsI_nodup hI.inv)
  have HPos : Hid (∀ p ∈ l, 0 < (pathsI L p).length) := Lib.hid (fun p hp => by
    rw [← hl] at hp
    exact Nat.pos_of_ne_zero fun h0 => (paths_nil hI.inv).1 h0 hp)
  have HPr := Lib.hid (fun W (hR : RbP W t S L) => prefsP t S L W hR)
  have HCn := Lib.hid (fun W S' L' (hR : RbP W t S' L') => countP t S' L' W hR)
  rw [hl, hn] at HPr
  have HN := Lib.hid hn
  obtain ⟨xb, hxb⟩ : ∃ xb, w.heap.size = xb := ⟨_, rfl⟩
  obtain ⟨W0, hW0⟩ : ∃ W, w.alloc (.cells #[.int .i64 pr] 3) = W := ⟨_, rfl⟩
  have hT0 : Tch w W0 [] := hW0 ▸ (Tch.refl w []).alloc _
  have HX0 : Hid (Blk W0 xb 3 #[.int .i64 pr]) := Lib.hid (hW0 ▸ hxb ▸ Blk.new w _ _)
  have HXn : Hid (xb ∉ S) := Lib.hid (fun hm => by have := h.lt _ hm; omega)
  have HT0 := Lib.hid hT0
  have HR0 := Lib.hid (h.tch hT0 (by simp))
  have HWs := Lib.hid (And.intro hW0 hxb)
  have HSx : Hid (∀ s ∈ S, s < xb) := Lib.hid (fun s hs => hxb ▸ h.lt s hs)
  clear h hI hok hl hn hxb hW0 hT0
  go_enter Tryz.func127, Tryz.ntmps127
  go_wp2_with fail
  rw [HWs.out.1, HWs.out.2]
  refine Calls.mono (HCn.out W0 S L HR0.out) ?_
  rintro e w1 ⟨rfl, hR1, hT1⟩
  have HR1 := Lib.hid hR1
  have HT1 := Lib.hid hT1
  clear hR1 hT1
  go_wp2_with fail
  refine Calls.mono (HPr.out w1 HR1.out) ?_
  rintro e w2 ⟨Al, cl, rfl, hol, hR2, hT2⟩
  have HR2 := Lib.hid hR2
  have HX2 := Lib.hid (hT2.blk (HT1.out.blk HX0.out HXn.out) HXn.out)
  have HOl := Lib.hid hol
  have HOn : Hid (∀ s ∈ obI (.slice Al n cl), s ∉ S) := Lib.hid (fun s hs hm => by
    have h1 := (own_geI hol s hs).1
    have h2 := HSx.out s hm
    have h3 := HX0.out.lt
    have h4 := HT1.out.size
    omega)
  have HT02 : Hid (Tch w w2 S) := Lib.hid (((HT0.out.mono (T := S) (by simp)).trans HT1.out).trans hT2)
  have HX2l : Hid (xb < w2.heap.size) := Lib.hid HX2.out.lt
  clear hol hR2 hT2
  go_wp2
  go_loopw [13] (fun kv wr => ∃ (k : Nat) (S' : List Nat), kv = .int .i64 (k : Int) ∧ k ≤ n ∧ Hid (RbP wr t S' (flK L (l.take k) pr)) ∧ Hid (Goes w2 wr S S')) (fun kv _ => n - (intOf kv).toNat)
  case atStart => exact ⟨0, S, rfl, Nat.zero_le _, by rw [List.take_zero, flK_nil]; exact HR2, Lib.hid (Goes.of_tch (Tch.refl _ _))⟩
  case round =>
    obtain ⟨k, S', rfl, hk, hR, hG⟩ := hrel
    have k1 : IntKind.i64.wrap ((k : Int) + 1) = (k : Int) + 1 := by rw [IntKind.wrap_i64]; omega
    by_cases hkn : k < n
    · have kI : (k : Int) < (n : Int) := by omega
      have k0 : (0 : Int) ≤ (k : Int) := by omega
      obtain ⟨p, hp⟩ : ∃ p, l[k]? = some p := ⟨_, List.getElem?_eq_getElem (by rw [HN.out]; exact hkn)⟩
      have hO := own_tch HOl.out hG.out.tch HOn.out
      obtain ⟨gl, rfl⟩ := slice_some hO (by omega)
      obtain ⟨q0, q1, q2, q3⟩ := pf_cells (own_mono hO (Nat.zero_le _)) hp
      have hX := hG.out.tch.blk HX2.out HXn.out
      have hnp : p ∉ l.take k := fun hm => by
        obtain ⟨j, hj⟩ := List.getElem?_of_mem hm
        have hjk : j < k := by have := (List.getElem?_eq_some_iff.1 hj).1; rw [List.length_take] at this; omega
        rw [List.getElem?_take_of_lt hjk] at hj
        have := (List.getElem?_inj (by rw [HN.out]; omega) HNod.out).1 (hj.trans hp.symm)
        omega
      have hS' : flK L (l.take (k + 1)) pr = (flK L (l.take k) pr).filter fun u => !(decide (u.1 = p) && decide (u.2.1 = pr)) := by
        rw [List.take_add_one, hp]
        exact flK_snoc L _ p pr
      have hpl : 0 < (pathsI (flK L (l.take k) pr) p).length := by rw [flK_has hnp]; exact HPos.out p (List.mem_of_getElem? hp)
      obtain ⟨L1, hL1⟩ : ∃ L1, flK L (l.take k) pr = L1 := ⟨_, rfl⟩
      obtain ⟨L2, hL2⟩ : ∃ L2, flK L (l.take (k + 1)) pr = L2 := ⟨_, rfl⟩
      have hI2 : InvB L2 := hL2 ▸ HI.out.sub List.filter_sublist
      have hok2 : ∀ u ∈ L2, PfOk u.1 ∧ PaOk u.2 := fun u hu => HOk.out u (by rw [← hL2] at hu; exact (List.mem_filter.1 hu).1)
      rw [hL1, hL2] at hS'
      rw [hL1] at hpl
      rw [hL1] at hR
      have HL2 := Lib.hid hL2
      obtain ⟨m, M, hr⟩ := hR.out
      obtain ⟨A, c, he, ho, hlk⟩ := hr.look p
      obtain ⟨g, rfl⟩ := slice_some ho hpl
      have hF1 : pathsI L2 p = (pathsI L1 p).filter fun y => !decide (y.1 = pr) := by rw [hS']; exact flush_row L1 _ _ p (fun u hu => by rw [hu]; simp)
      have hF2 : ∀ q, ¬ q = p → pathsI L2 q = pathsI L1 q := fun q hq => by
        rw [hS', flush_row L1 _ (fun _ => true) q (fun u hu => by rw [hu]; simp [hq])]
        exact List.filter_eq_self.2 fun _ _ => rfl
      have hn4 := hr.inv.four p
      have hgn := hr.near he
      have htm : ¬ t = m := by have h1 := hr.nod; rw [hr.eS] at h1; exact fun e => (List.nodup_cons.1 h1).1 (by simp [e])
      obtain ⟨r, hrl⟩ : ∃ r, pathsI L1 p = r := ⟨_, rfl⟩
      obtain ⟨F, hF⟩ : ∃ F, (r.filter fun y => !decide (y.1 = pr)) = F := ⟨_, rfl⟩
      obtain ⟨rn, hrn⟩ : ∃ rn, r.length = rn := ⟨_, rfl⟩
      obtain ⟨f, hf⟩ : ∃ f, F.length = f := ⟨_, rfl⟩
      have hxg : ¬ xb = g := fun e => by
        have hgS : g ∈ S' := (hr.sub_ p g (by rw [he]; simp [obI, Value.ownBlock])).1
        rcases hG.out.fre g hgS with h1 | h1
        · exact HXn.out (e ▸ h1)
        · have := HX2l.out; omega
      obtain ⟨kb, hkb⟩ : ∃ kb, wr.heap.size = kb := ⟨_, rfl⟩
      obtain ⟨⟨ps, ph, pl⟩, pb⟩ := p
      obtain ⟨W2, hW2⟩ : ∃ W, wr.alloc (.cells #[.bool ps, .int .u64 (ph : Int), .int .u64 (pl : Int), .int .i64 pb] 30) = W := ⟨_, rfl⟩
      have hT2 : Tch wr W2 [] := hW2 ▸ (Tch.refl wr []).alloc _
      have HK2 : Hid (Blk W2 kb 30 #[.bool ps, .int .u64 (ph : Int), .int .u64 (pl : Int), .int .i64 pb]) := Lib.hid (hW2 ▸ hkb ▸ Blk.new wr _ _)
      have HB2 : Hid (Blk W2 t 123 #[.map (some m)]) := Lib.hid (hT2.blk hr.bt (by simp))
      have hT2d := hT2.drew
      have HT2d := Lib.hid hT2d
      have hlk1 : (Instr.lookup 121 (.map (some m)) (.agg #[.bool ps, .int .u64 (ph : Int), .int .u64 (pl : Int), .int .i64 pb]) false).run Tryz.prog W2.drew = .ok (.slice (some ⟨g, 0, none⟩) rn c) W2.drew := by have := hlk _ hT2d; rw [hrl, hrn] at this; exact this
      have HDc := Lib.hid (delfn_any pr xb (some ⟨g, 0, none⟩) rn c r hrn (by rw [hrl, hrn] at hn4; omega) W2.drew (by have := own_tch ho hT2d (by simp); rw [hrl, hrn] at this; exact this) ((hT2d.blk hX (by simp)).cell 0) (by simp [obI, Value.ownBlock]; exact hxg))
      rw [hF, hf] at HDc
      rw [hrl] at hF1
      rw [hF] at hF1
      have HCl : Hid (∀ W, Tch W2.drew W [g, m] → W.cell? ⟨t, 0, none⟩ = some (Value.map (some m)) ∧ W.cell? ⟨kb, 0, none⟩ = some (Value.bool ps) ∧ W.cell? ⟨kb, 1, none⟩ = some (Value.int .u64 (ph : Int)) ∧ W.cell? ⟨kb, 2, none⟩ = some (Value.int .u64 (pl : Int)) ∧ W.cell? ⟨kb, 3, none⟩ = some (Value.int .i64 pb)) := Lib.hid (fun W hT => ⟨(hT.blk (show Blk W2.drew t _ _ from HB2.out.drew) (by simp; exact ⟨hgn.1.symm, htm⟩)).cell 0, (hT.blk (show Blk W2.drew kb _ _ from HK2.out.drew) (by simp; rw [← hkb]; exact ⟨by have := hgn.2.2; omega, by have := hr.mp.lt; omega⟩)).c4⟩)
      have HKc := Lib.hid (fun w3 (hT : Tch W2.drew w3 [g]) => keep_any t m M ((ps, ph, pl), pb) (some ⟨g, 0, none⟩) f c w3 (hT.blk HB2.out.drew (by simpa using hgn.1.symm)) (hr.mp.tch ((hT2d.mono (T := [g]) (by simp)).trans hT) (by simpa using hgn.2.1.symm)))
      have HFin : Hid (∀ w3 w4, Tch W2.drew w3 [g] → w3.ownsRow 0 49 7 (.slice (some ⟨g, 0, none⟩) f c) f (F.flatMap paC) → MpIs (fun p => pfR p) w4 m (if f = 0 then mpDel M ((ps, ph, pl), pb) else mpPut M ((ps, ph, pl), pb) (.slice (some ⟨g, 0, none⟩) f c)) → Tch w3 w4 [m] → ∃ S2, RbP w4 t S2 L2 ∧ Goes wr w4 S' S2) := Lib.hid (fun w3 w4 h1 h2 h3 h4 => hr.kept he ((hT2d.mono (by simp)).trans h1) hF1 hf h2 hF2 hI2 hok2 h3 h4)
      have HWs2 := Lib.hid (And.intro hW2 hkb)
      have HC2 := Lib.hid (HCl.out W2.drew (Tch.refl _ _))
      have HC2' : Hid (W2.cell? ⟨t, 0, none⟩ = some (Value.map (some m)) ∧ W2.cell? ⟨kb, 0, none⟩ = some (Value.bool ps) ∧ W2.cell? ⟨kb, 1, none⟩ = some (Value.int .u64 (ph : Int)) ∧ W2.cell? ⟨kb, 2, none⟩ = some (Value.int .u64 (pl : Int)) ∧ W2.cell? ⟨kb, 3, none⟩ = some (Value.int .i64 pb)) := Lib.hid HC2.out
      clear htm hp hO hX hnp hS' hpl hL1 hL2 hI2 hok2 hr he ho hlk hF1 hF2 hn4 hgn hrl hF hrn hf hxg hkb hW2 hT2 hT2d
      go_wp2_with fail
      rw [HWs2.out.1, HWs2.out.2]
      clear q0 q1 q2 q3
      refine wp_region_held_drew (S := (fun W => W.cell? ⟨t, 0, none⟩ = some (Value.map (some m)) ∧ W.cell? ⟨kb, 0, none⟩ = some (Value.bool ps) ∧ W.cell? ⟨kb, 1, none⟩ = some (Value.int .u64 (ph : Int)) ∧ W.cell? ⟨kb, 2, none⟩ = some (Value.int .u64 (pl : Int)) ∧ W.cell? ⟨kb, 3, none⟩ = some (Value.int .i64 pb))) (by kernel_rfl) ?_ (fun hHeld => ?_)
      · (first | exact HC2.out | exact HC2'.out | exact HC4.out | exact HC3.out)
      refine wpAnyH_take (i := 0) (oi := { dst := some 17, op := Go.Op.move (Go.Operand.tmp 0), type := 32, pos := "rib.go:65", after := #[], guard := none }) (v := ?_) rfl (by kernel_rfl) (by kernel_rfl) (by kernel_rfl) (fun _ _ _ h => h) (Or.inl ⟨by rfl, ?_⟩) (by assumption) ?_
      rotate_left
      · intro w hSw
        (try dsimp only at hSw)
        go_simp
        try (with_reducible rfl)
      try simp only [Act.put, List.setIfInBounds_toArray, List.set_cons_zero, List.set_cons_succ]
      refine wpAnyH_take (i := 1) (oi := { dst := some 18, op := Go.Op.load 30 (Go.Operand.tmp 7), type := 30, pos := "rib.go:65", after := #[], guard := none }) (v := ?_) rfl (by kernel_rfl) (by kernel_rfl) (by kernel_rfl) (fun _ _ _ h => h) (Or.inl ⟨by rfl, ?_⟩) (by assumption) ?_
      rotate_left
      · intro w hSw
        (try dsimp only at hSw)
        go_simp
        try (with_reducible rfl)
      try simp only [Act.put, List.setIfInBounds_toArray, List.set_cons_zero, List.set_cons_succ]
      refine wpAnyH_take (i := 2) (oi := { dst := some 19, op := Go.Op.move (Go.Operand.tmp 0), type := 32, pos := "rib.go:65", after := #[], guard := none }) (v := ?_) rfl (by kernel_rfl) (by kernel_rfl) (by kernel_rfl) (fun _ _ _ h => h) (Or.inl ⟨by rfl, ?_⟩) (by assumption) ?_
      rotate_left
      · intro w hSw
        (try dsimp only at hSw)
        go_simp
        try (with_reducible rfl)
      try simp only [Act.put, List.setIfInBounds_toArray, List.set_cons_zero, List.set_cons_succ]
      refine wpAnyH_take (i := 3) (oi := { dst := some 20, op := Go.Op.nilCheck (Go.Operand.tmp 19), type := 0, pos := "rib.go:65", after := #[{ on := 2, ground := Go.Ground.data }], guard := none }) (v := ?_) rfl (by kernel_rfl) (by kernel_rfl) (by kernel_rfl) (fun _ _ _ h => h) (Or.inl ⟨by rfl, ?_⟩) (by assumption) ?_
      rotate_left
      · intro w hSw
        (try dsimp only at hSw)
        go_simp
        try (with_reducible rfl)
      try simp only [Act.put, List.setIfInBounds_toArray, List.set_cons_zero, List.set_cons_succ]
      refine wpAnyH_take (i := 4) (oi := { dst := some 21, op := Go.Op.fieldAddr 123 (Go.Operand.tmp 20) 0, type := 0, pos := "rib.go:65", after := #[{ on := 3, ground := Go.Ground.data }], guard := none }) (v := ?_) rfl (by kernel_rfl) (by kernel_rfl) (by kernel_rfl) (fun _ _ _ h => h) (Or.inl ⟨by rfl, ?_⟩) (by assumption) ?_
      rotate_left
      · intro w hSw
        (try dsimp only at hSw)
        go_simp
        try (with_reducible rfl)
      try simp only [Act.put, List.setIfInBounds_toArray, List.set_cons_zero, List.set_cons_succ]
      refine wpAnyH_take (i := 5) (oi := { dst := some 22, op := Go.Op.load 121 (Go.Operand.tmp 21), type := 121, pos := "rib.go:65", after := #[{ on := 4, ground := Go.Ground.data }], guard := none }) (v := ?_) rfl (by kernel_rfl) (by kernel_rfl) (by kernel_rfl) (fun _ _ _ h => h) (Or.inl ⟨by rfl, ?_⟩) (by assumption) ?_
      rotate_left
      · intro w hSw
        (try dsimp only at hSw)
        go_simp
        try (with_reducible rfl)
      try simp only [Act.put, List.setIfInBounds_toArray, List.set_cons_zero, List.set_cons_succ]
      refine wpAnyH_take (i := 6) (oi := { dst := some 23, op := Go.Op.load 30 (Go.Operand.tmp 7), type := 30, pos := "rib.go:65", after := #[], guard := none }) (v := ?_) rfl (by kernel_rfl) (by kernel_rfl) (by kernel_rfl) (fun _ _ _ h => h) (Or.inl ⟨by rfl, ?_⟩) (by assumption) ?_
      rotate_left
      · intro w hSw
        (try dsimp only at hSw)
        go_simp
        try (with_reducible rfl)
      try simp only [Act.put, List.setIfInBounds_toArray, List.set_cons_zero, List.set_cons_succ]
      refine wpAnyH_take (i := 8) (oi := { dst := some 25, op := Go.Op.makeFunc (Go.Fn.func 168) #[] #[Go.Operand.tmp 3], type := 114, pos := "rib.go:65", after := #[], guard := none }) (v := ?_) rfl (by kernel_rfl) (by kernel_rfl) (by kernel_rfl) (fun _ _ _ h => h) (Or.inl ⟨by rfl, ?_⟩) (by assumption) ?_
      rotate_left
      · intro w hSw
        (try dsimp only at hSw)
        go_simp
        try (with_reducible rfl)
      try simp only [Act.put, List.setIfInBounds_toArray, List.set_cons_zero, List.set_cons_succ]
      refine wpAnyH_ready (rs := [7]) (by kernel_rfl) (by simp) ?_
      refine AllReadyH.cons (o := { dst := some 24, op := Go.Op.lookup 121 (Go.Operand.tmp 22) (Go.Operand.tmp 23) false, type := 118, pos := "rib.go:65", after := #[{ on := 5, ground := Go.Ground.data }, { on := 6, ground := Go.Ground.data }], guard := none }) rfl (fun K hK => ?_) AllReadyH.nil
      go_simp
      refine hK.out _ _ ?_ (fun hHeld => ?_)
      · (first | exact HC2.out | exact HC2'.out | exact HC4.out | exact HC3.out)
      clear hK K
      try simp only [Act.put, List.setIfInBounds_toArray, List.set_cons_zero, List.set_cons_succ]
      refine wpAnyH_ready (rs := [9]) (by kernel_rfl) (by simp) ?_
      refine AllReadyH.cons (o := { dst := some 26, op := Go.Op.call { callee := Go.Callee.value (Go.Operand.func 167), args := #[Go.Operand.tmp 24, Go.Operand.tmp 25], argTypes := #[118, 114] }, type := 118, pos := "rib.go:65", after := #[{ on := 7, ground := Go.Ground.data }, { on := 8, ground := Go.Ground.data }], guard := none }) rfl (fun K hK => ?_) AllReadyH.nil
      go_simp
      (go_at_call 167; (with_reducible refine Calls.mono HDc.out ?_); rintro e w3 ⟨rfl, ho3, hT3⟩; have HO3 := Lib.hid ho3; have HT3 := Lib.hid (show Tch W2.drew w3 [g] from hT3); have HC3 := Lib.hid (HCl.out w3 (HT3.out.mono (by simp))); have HKd := Lib.hid (HKc.out w3 HT3.out); clear ho3 hT3)
      go_wp2_with fail
      refine hK.out _ _ ?_ (fun hHeld => ?_)
      · (first | exact HC2.out | exact HC2'.out | exact HC4.out | exact HC3.out)
      clear hK K
      try simp only [Act.put, List.setIfInBounds_toArray, List.set_cons_zero, List.set_cons_succ]
      refine wpAnyH_ready (rs := [10]) (by kernel_rfl) (by simp) ?_
      refine AllReadyH.cons (o := { dst := some 27, op := Go.Op.call { callee := Go.Callee.value (Go.Operand.func 166), args := #[Go.Operand.tmp 17, Go.Operand.tmp 18, Go.Operand.tmp 26], argTypes := #[32, 30, 118] }, type := 0, pos := "rib.go:65", after := #[{ on := 0, ground := Go.Ground.data }, { on := 1, ground := Go.Ground.data }, { on := 9, ground := Go.Ground.data }, { on := 9, ground := Go.Ground.chain }], guard := none }) rfl (fun K hK => ?_) AllReadyH.nil
      go_simp
      (go_at_call 166; (with_reducible refine Calls.mono HKd.out ?_); rintro e w4 ⟨rfl, hM4, hT4⟩; have HC4 := Lib.hid (HCl.out w4 ((HT3.out.mono (by simp)).trans (hT4.mono (by simp)))); have HF4 := Lib.hid (HFin.out w3 w4 HT3.out HO3.out hM4 hT4); clear hM4 hT4)
      go_wp2_with fail
      refine hK.out _ _ ?_ (fun hHeld => ?_)
      · (first | exact HC2.out | exact HC2'.out | exact HC4.out | exact HC3.out)
      clear hK K
      try simp only [Act.put, List.setIfInBounds_toArray, List.set_cons_zero, List.set_cons_succ]
      refine wpAnyH_done (by kernel_rfl) ?_ _
      obtain ⟨S2, hR2, hG2⟩ := HF4.out
      rw [← HL2.out] at hR2
      have HR2' := Lib.hid hR2
      have HG2' := Lib.hid (hG.out.trans_ hG2)
      clear hR2 hG2
      go_wp2
      go_roundw
      case rel => exact ⟨k + 1, S2, by go_num, hkn, HR2', HG2'⟩
      case measure => simp [intOf]; omega
    · obtain rfl : k = n := by omega
      have kI : ¬ (k : Int) < (k : Int) := by omega
      have hfl : flK L (l.take k) pr = (flushR L pr).1 := by rw [List.take_of_length_le (by rw [HN.out]; exact Nat.le_refl _)]; exact flK_all HMem.out pr
      have HR9 : Hid (RbP wr t S' (flushR L pr).1) := Lib.hid (hfl ▸ hR.out)
      have hfe : (flushR L pr).2 = (L.length : Int) - ((flushR L pr).1.length : Int) := rfl
      have hle : (flushR L pr).1.length ≤ L.length := List.length_filter_le _ _
      have HC9 := Lib.hid (HCn.out wr S' (flushR L pr).1 HR9.out)
      obtain ⟨L9, hL9⟩ : ∃ L9, (flushR L pr).1 = L9 := ⟨_, rfl⟩
      rw [hL9] at HR9 hfe hle HC9
      have HL9 := Lib.hid hL9
      have HFe := Lib.hid hfe
      have hsub : IntKind.i64.wrap ((L.length : Int) - (L9.length : Int)) = (L.length : Int) - (L9.length : Int) := by rw [IntKind.wrap_i64]; omega
      clear hkn hk hfl hfe hle hL9
      go_wp2_with fail
      refine Calls.mono HC9.out ?_
      rintro e w9 ⟨rfl, hR9, hT9⟩
      have HR10 := Lib.hid hR9
      have HG9 := Lib.hid (((Goes.of_tch HT02.out).trans_ hG.out).trans_ (Goes.of_tch hT9))
      clear hR9 hT9
      go_wp2
      go_ret
      exact ⟨by rw [HFe.out]; rfl, S', by rw [HL9.out]; exact HR10.out, HG9.out⟩
end Go.Proofs.YtgfkmgbcajdcdaaGreatDoor

namespace Go.Proofs.YtgfkmgbcajdcdaaGreatDoor
open Go.RowKit
set_option linter.unusedVariables false

/-- The distances lie as they were laid, beside a rib's own blocks. -/
def EnvN (w : World) (S : List Nat) : Prop := EnvR w ∧ 0 ∉ S
theorem EnvR.n {w W : World} {S : List Nat} (h : EnvR w) (hb : Below w.heap.size w W) (hs : ∀ s ∈ S, w.heap.size ≤ s) : EnvN W S := ⟨h.below hb, h.nin hs⟩
end Go.Proofs.YtgfkmgbcajdcdaaGreatDoor

namespace Go.Proofs.YtgfkmgbcajdcdaaGreatDoor
open Go.RowKit
set_option linter.unusedVariables false

/-- A step: What, Prefix, Path. -/
structure StpR where
  what : Int
  pf : PfI
  pa : PaI
def StpR.ok (x : StpR) : Prop := I64 x.what ∧ PfOk x.pf ∧ PaOk x.pa
def srC (x : StpR) : List Value := [.int .i64 x.what, .bool x.pf.1.1, .int .u64 (x.pf.1.2.1 : Int), .int .u64 (x.pf.1.2.2 : Int), .int .i64 x.pf.2, .int .i64 x.pa.1, .int .i64 x.pa.2.1, .bool x.pa.2.2.1.1, .int .u64 (x.pa.2.2.1.2.1 : Int), .int .u64 (x.pa.2.2.1.2.2 : Int), .int .i64 x.pa.2.2.2.1, .bool x.pa.2.2.2.2]
abbrev srV (x : StpR) : Value := .agg #[.int .i64 x.what, .bool x.pf.1.1, .int .u64 (x.pf.1.2.1 : Int), .int .u64 (x.pf.1.2.2 : Int), .int .i64 x.pf.2, .int .i64 x.pa.1, .int .i64 x.pa.2.1, .bool x.pa.2.2.1.1, .int .u64 (x.pa.2.2.1.2.1 : Int), .int .u64 (x.pa.2.2.1.2.2 : Int), .int .i64 x.pa.2.2.2.1, .bool x.pa.2.2.2.2]
/-- What a step leaves; what it answers. -/
def doR (L : List TdI) (x : StpR) : List TdI × Int × Int :=
  if x.what % 8 = 3 then ((dropR L x.pf x.pa).1, 0, (dropR L x.pf x.pa).2)
  else if x.what % 8 = 4 then ((flushR L x.pa.1).1, (flushR L x.pa.1).2, 0)
  else ((putR L x.pf x.pa).1, 0, (putR L x.pf x.pa).2)
/-- At most four to each prefix. -/
theorem len_four : ∀ (P : List PfI) (L : List TdI), (∀ t ∈ L, t.1 ∈ P) → (∀ p, (pathsI L p).length ≤ 4) → L.length ≤ 4 * P.length
  | [], L, h, _ => by
    cases L with
    | nil => simp
    | cons t r => exact absurd (h t (by simp)) (by simp)
  | p :: P, L, h, h4 => by
    have h1 : L.length = (L.filter fun t => decide (t.1 = p)).length + (L.filter fun t => !decide (t.1 = p)).length := by
      clear h h4
      induction L with
      | nil => rfl
      | cons t r ih => by_cases e : t.1 = p <;> simp [e, ih] <;> omega
    have h2 : (L.filter fun t => decide (t.1 = p)).length ≤ 4 := by have := h4 p; unfold pathsI at this; rw [List.length_map] at this; exact this
    have h3 := len_four P (L.filter fun t => !decide (t.1 = p)) (fun t ht => by
      have h5 := List.mem_filter.1 ht
      rcases List.mem_cons.1 (h t h5.1) with e | e
      · exact absurd h5.2 (by simp [e])
      · exact e) (fun q => by
      refine Nat.le_trans ?_ (h4 q)
      unfold pathsI
      rw [List.length_map, List.length_map]
      exact (List.filter_sublist.filter _).length_le)
    rw [List.length_cons]
    omega
theorem InvB.len {L : List TdI} (h : InvB L) : L.length ≤ 360 := by
  have h1 := len_four (prefsI L) L (fun t ht => (prefsI_mem h.inv).2 ⟨t, ht, rfl⟩) h.four
  have := h.ninety
  omega
theorem and_lowR (n : Int) (k : Nat) (hk : k ≤ 16) : bits .and .i64 n ((2 ^ k - 1 : Nat) : Int) = n % ((2 ^ k : Nat) : Int) := by
  have h0 : 2 ^ k ≤ 2 ^ 16 := Nat.pow_le_pow_right (by decide) hk
  have h00 : 0 < 2 ^ k := Nat.pow_pos (by decide)
  have h7 : (BitVec.ofInt 64 ((2 ^ k - 1 : Nat) : Int)).toNat = 2 ^ k - 1 := by
    rw [BitVec.toNat_ofInt]
    omega
  have key : (BitVec.ofInt 64 n &&& BitVec.ofInt 64 ((2 ^ k - 1 : Nat) : Int)).toNat = (n % ((2 ^ 64 : Nat) : Int)).toNat % 2 ^ k := by
    rw [BitVec.toNat_and, BitVec.toNat_ofInt, h7, Nat.and_two_pow_sub_one_eq_mod]
  show IntKind.i64.wrap ((BitVec.ofInt 64 n &&& BitVec.ofInt 64 ((2 ^ k - 1 : Nat) : Int)).toNat : Nat) = n % ((2 ^ k : Nat) : Int)
  rw [key, IntKind.wrap_i64]
  have hd : ((2 ^ k : Nat) : Int) ∣ ((2 ^ 64 : Nat) : Int) := Int.natCast_dvd_natCast.2 (Nat.pow_dvd_pow 2 (by omega))
  have h1 : (((n % ((2 ^ 64 : Nat) : Int)).toNat % 2 ^ k : Nat) : Int) = n % ((2 ^ k : Nat) : Int) := by
    rw [Int.natCast_emod, Int.toNat_of_nonneg (by omega), Int.emod_emod_of_dvd n hd]
  have h2 := Int.emod_lt_of_pos n (show (0 : Int) < ((2 ^ k : Nat) : Int) by omega)
  have h3 := Int.emod_nonneg n (show ((2 ^ k : Nat) : Int) ≠ 0 by omega)
  rw [h1]
  omega
theorem and7R (n : Int) : bits .and .i64 n 7 = n % 8 := by have := and_lowR n 3 (by decide); simpa using this
end Go.Proofs.YtgfkmgbcajdcdaaGreatDoor
