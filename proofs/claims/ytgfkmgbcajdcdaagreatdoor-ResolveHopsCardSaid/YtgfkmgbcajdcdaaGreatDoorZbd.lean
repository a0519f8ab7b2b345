/-
  Several texts in one: RpT, RbS, RbT, RbPo, RbBy, RbAw, RbIn, RbSt, RbMd.
-/
import Derived.Test.YtgfkmgbcajdcdaaGreatDoorZbc
import Derived.Test.YtgfkmgbcajdcdaaGreatDoorZad
import Derived.Test.YtgfkmgbcajdcdaaGreatDoorZan
import Derived.Test.YtgfkmgbcajdcdaaGreatDoorZak
import Derived.Test.YtgfkmgbcajdcdaaGreatDoorZbb
import Derived.Deep.SlicePairs
import Derived.Deep.Strs
import Derived.Test.YtgfkmgbcajdcdaaGreatDoorZaa
set_option linter.unusedVariables false
set_option maxRecDepth 100000
set_option maxHeartbeats 16000000
namespace Go.Proofs.YtgfkmgbcajdcdaaGreatDoor
open Go.RowKit

def flK (L : List TdI) (ps : List PfI) (pr : Int) : List TdI := L.filter fun t => !(decide (t.1 ∈ ps) && decide (t.2.1 = pr))
theorem flK_nil (L : List TdI) (pr : Int) : flK L [] pr = L := by unfold flK; exact List.filter_eq_self.2 fun t _ => by simp
theorem flK_snoc (L : List TdI) (ps : List PfI) (p : PfI) (pr : Int) : flK L (ps ++ [p]) pr = (flK L ps pr).filter fun t => !(decide (t.1 = p) && decide (t.2.1 = pr)) := by
 unfold flK
 rw [List.filter_filter]
 refine List.filter_congr fun t _ => ?_
 by_cases h1 : t.1 ∈ ps <;> by_cases h2 : t.1 = p <;> by_cases h3 : t.2.1 = pr <;> simp [h1, h2, h3]
theorem flK_all {L : List TdI} {ps : List PfI} (h : ∀ t ∈ L, t.1 ∈ ps) (pr : Int) : flK L ps pr = (flushR L pr).1 := by
 unfold flK flushR
 refine List.filter_congr fun t ht => ?_
 simp [h t ht]
theorem flK_has {L : List TdI} {ps : List PfI} {p : PfI} {pr : Int} (hn : p ∉ ps) : pathsI (flK L ps pr) p = pathsI L p := by
 unfold flK
 rw [flush_row L _ (fun _ => true) p (fun t ht => by rw [ht]; simp [hn])]
 exact List.filter_eq_self.2 fun _ _ => rfl
theorem inv_len {L : List TdI} (h : InvB L) : L.length ≤ 360 := by
 have h1 := len_sum (prefsI L) L (prefsI_nodup h.inv) (fun u hu => (prefsI_mem h.inv).2 ⟨u, hu, rfl⟩)
 have h9 := h.ninety
 have h4 : ∀ K : List PfI, (K.map fun p => (pathsI L p).length).sum ≤ 4 * K.length := fun K => by
  induction K with
  | nil => simp
  | cons p K ih => rw [List.map_cons, List.sum_cons, List.length_cons]; have := h.four p; omega
 have := h4 (prefsI L)
 omega
theorem flushP (t : Nat) (S : List Nat) (L : List TdI) (pr : Int) (hi : I64 pr) (w : World) (h : RbP w t S L) :
  Calls Tryz.prog 127 #[.pointer (some ⟨t, 0, none⟩), .int .i64 pr] w fun e w' => e = .returned (.int .i64 (flushR L pr).2) ∧ ∃ S', RbP w' t S' (flushR L pr).1 ∧ Goes w w' S S' := by
 have HP := lH h
 have hI := h.inv
 have HI := lH hI
 have hlen := inv_len hI
 have hok : ∀ u ∈ L, PfOk u.1 ∧ PaOk u.2 := by obtain ⟨m0, M0, hr⟩ := h; exact hr.ok
 have HOk := lH hok
 have HSl := lH h.lt
 obtain ⟨l, hl⟩ : ∃ l, prefsI L = l := ⟨_, rfl⟩
 obtain ⟨n, hn⟩ : ∃ n, l.length = n := ⟨_, rfl⟩
 have hn90 : n ≤ 90 := by rw [← hn, ← hl]; exact hI.ninety
 have HMem : Hid (∀ u ∈ L, u.1 ∈ l) := lH (fun u hu => hl ▸ (prefsI_mem hI.inv).2 ⟨u, hu, rfl⟩)
 have HNod : Hid (l.Nodup) := lH (hl ▸ prefsI_nodup hI.inv)
 have HPos : Hid (∀ p ∈ l, 0 < (pathsI L p).length) := lH (fun p hp => by
  rw [← hl] at hp
  exact Nat.pos_of_ne_zero fun h0 => (paths_nil hI.inv).1 h0 hp)
 have HPr := lH (fun W (hR : RbP W t S L) => prefsP t S L W hR)
 have HCn := lH (fun W S' L' (hR : RbP W t S' L') => countP t S' L' W hR)
 rw [hl, hn] at HPr
 have HN := lH hn
 obtain ⟨xb, hxb⟩ : ∃ xb, w.heap.size = xb := ⟨_, rfl⟩
 obtain ⟨W0, hW0⟩ : ∃ W, w.alloc (.cells #[.int .i64 pr] 3) = W := ⟨_, rfl⟩
 have hT0 : Tch w W0 [] := hW0 ▸ (Tch.refl w []).alloc _
 have HX0 : Hid (Blk W0 xb 3 #[.int .i64 pr]) := lH (hW0 ▸ hxb ▸ Blk.new w _ _)
 have HXn : Hid (xb ∉ S) := lH (fun hm => by have := h.lt _ hm; omega)
 have HT0 := lH hT0
 have HR0 := lH (h.tch hT0 (by simp))
 have HWs := lH (And.intro hW0 hxb)
 have HSx : Hid (∀ s ∈ S, s < xb) := lH (fun s hs => hxb ▸ h.lt s hs)
 clear h hI hok hl hn hxb hW0 hT0
 go_enter Tryz.func127, Tryz.ntmps127
 go_wp2_with fail
 rw [HWs.out.1, HWs.out.2]
 refine cZm (HCn.out W0 S L HR0.out) ?_
 rintro e w1 ⟨rfl, hR1, hT1⟩
 have HR1 := lH hR1
 have HT1 := lH hT1
 clear hR1 hT1
 go_wp2_with fail
 refine cZm (HPr.out w1 HR1.out) ?_
 rintro e w2 ⟨Al, cl, rfl, hol, hR2, hT2⟩
 have HR2 := lH hR2
 have HX2 := lH (hT2.blk (HT1.out.blk HX0.out HXn.out) HXn.out)
 have HOl := lH hol
 have HOn : Hid (∀ s ∈ obI (.slice Al n cl), s ∉ S) := lH (fun s hs hm => by
  have h1 := (own_geI hol s hs).1
  have h2 := HSx.out s hm
  have h3 := HX0.out.lt
  have h4 := HT1.out.size
  omega)
 have HT02 : Hid (Tch w w2 S) := lH (((HT0.out.mono (T := S) (by simp)).trans HT1.out).trans hT2)
 have HX2l : Hid (xb < w2.heap.size) := lH HX2.out.lt
 clear hol hR2 hT2
 go_wp2
 go_loopw [13] (fun kv wr => ∃ (k : Nat) (S' : List Nat), kv = .int .i64 (k : Int) ∧ k ≤ n ∧ Hid (RbP wr t S' (flK L (l.take k) pr)) ∧ Hid (Goes w2 wr S S')) (fun kv _ => n - (intOf kv).toNat)
 case atStart => exact ⟨0, S, rfl, Nat.zero_le _, by rw [List.take_zero, flK_nil]; exact HR2, lH (Goes.of_tch (Tch.refl _ _))⟩
 case round =>
  obtain ⟨k, S', rfl, hk, hR, hG⟩ := hrel
  have k1 : IntKind.i64.wrap ((k : Int) + 1) = (k : Int) + 1 := by rw [IntKind.wrap_i64]; omega
  by_cases hkn : k < n
  ·have kI : (k : Int) < (n : Int) := by omega
   have k0 : (0 : Int) ≤ (k : Int) := by omega
   obtain ⟨p, hp⟩ : ∃ p, l[k]? = some p := ⟨_, List.getElem?_eq_getElem (by rw [HN.out]; exact hkn)⟩
   have hO := own_tch HOl.out hG.out.tch HOn.out
   obtain ⟨gl, rfl⟩ := slice_some hO (by omega)
   obtain ⟨q0, q1, q2, q3⟩ := pf_cells (own_mono hO (Nat.zero_le _)) hp
   have hX := hG.out.tch.blk HX2.out HXn.out
   have hnp : p ∉ l.take k := fun hm => by
    obtain ⟨j, hj⟩ := List.getElem?_of_mem hm
    have hjk : j < k := by have := (List.getElem?_eq_some_iff.1 hj).1; rw [List.length_take] at this; omega
    rw [List.getElem?_take_of_lt hjk] at hj
    have := (List.getElem?_inj (by rw [HN.out]; omega) HNod.out).1 (hj.trans hp.symm)
    omega
   have hS' : flK L (l.take (k + 1)) pr = (flK L (l.take k) pr).filter fun u => !(decide (u.1 = p) && decide (u.2.1 = pr)) := by
    rw [List.take_add_one, hp]
    exact flK_snoc L _ p pr
   have hpl : 0 < (pathsI (flK L (l.take k) pr) p).length := by rw [flK_has hnp]; exact HPos.out p (List.mem_of_getElem? hp)
   obtain ⟨L1, hL1⟩ : ∃ L1, flK L (l.take k) pr = L1 := ⟨_, rfl⟩
   obtain ⟨L2, hL2⟩ : ∃ L2, flK L (l.take (k + 1)) pr = L2 := ⟨_, rfl⟩
   have hI2 : InvB L2 := hL2 ▸ HI.out.sub List.filter_sublist
   have hok2 : ∀ u ∈ L2, PfOk u.1 ∧ PaOk u.2 := fun u hu => HOk.out u (by rw [← hL2] at hu; exact (List.mem_filter.1 hu).1)
   rw [hL1, hL2] at hS'
   rw [hL1] at hpl
   rw [hL1] at hR
   have HL2 := lH hL2
   obtain ⟨m, M, hr⟩ := hR.out
   obtain ⟨A, c, he, ho, hlk⟩ := hr.look p
   obtain ⟨g, rfl⟩ := slice_some ho hpl
   have hF1 : pathsI L2 p = (pathsI L1 p).filter fun y => !decide (y.1 = pr) := by rw [hS']; exact flush_row L1 _ _ p (fun u hu => by rw [hu]; simp)
   have hF2 : ∀ q, ¬ q = p → pathsI L2 q = pathsI L1 q := fun q hq => by
    rw [hS', flush_row L1 _ (fun _ => true) q (fun u hu => by rw [hu]; simp [hq])]
    exact List.filter_eq_self.2 fun _ _ => rfl
   have hn4 := hr.inv.four p
   have hgn := hr.near he
   have htm : ¬ t = m := by have h1 := hr.nod; rw [hr.eS] at h1; exact fun e => (List.nodup_cons.1 h1).1 (by simp [e])
   obtain ⟨r, hrl⟩ : ∃ r, pathsI L1 p = r := ⟨_, rfl⟩
   obtain ⟨F, hF⟩ : ∃ F, (r.filter fun y => !decide (y.1 = pr)) = F := ⟨_, rfl⟩
   obtain ⟨rn, hrn⟩ : ∃ rn, r.length = rn := ⟨_, rfl⟩
   obtain ⟨f, hf⟩ : ∃ f, F.length = f := ⟨_, rfl⟩
   have hxg : ¬ xb = g := fun e => by
    have hgS : g ∈ S' := (hr.sub_ p g (by rw [he]; simp [obI, Value.ownBlock])).1
    rcases hG.out.fre g hgS with h1 | h1
    ·exact HXn.out (e ▸ h1)
    ·have := HX2l.out; omega
   obtain ⟨kb, hkb⟩ : ∃ kb, wr.heap.size = kb := ⟨_, rfl⟩
   obtain ⟨⟨ps, ph, pl⟩, pb⟩ := p
   obtain ⟨W2, hW2⟩ : ∃ W, wr.alloc (.cells #[.bool ps, .int .u64 (ph : Int), .int .u64 (pl : Int), .int .i64 pb] 30) = W := ⟨_, rfl⟩
   have hT2 : Tch wr W2 [] := hW2 ▸ (Tch.refl wr []).alloc _
   have HK2 : Hid (Blk W2 kb 30 #[.bool ps, .int .u64 (ph : Int), .int .u64 (pl : Int), .int .i64 pb]) := lH (hW2 ▸ hkb ▸ Blk.new wr _ _)
   have HB2 : Hid (Blk W2 t 123 #[.map (some m)]) := lH (hT2.blk hr.bt (by simp))
   have hT2d := hT2.drew
   have HT2d := lH hT2d
   have hlk1 : (Instr.lookup 121 (.map (some m)) (.agg #[.bool ps, .int .u64 (ph : Int), .int .u64 (pl : Int), .int .i64 pb]) false).run Tryz.prog W2.drew = .ok (.slice (some ⟨g, 0, none⟩) rn c) W2.drew := by have := hlk _ hT2d; rw [hrl, hrn] at this; exact this
   have HDc := lH (delfn_any pr xb (some ⟨g, 0, none⟩) rn c r hrn (by rw [hrl, hrn] at hn4; omega) W2.drew (by have := own_tch ho hT2d (by simp); rw [hrl, hrn] at this; exact this) ((hT2d.blk hX (by simp)).cell 0) (by simp [obI, Value.ownBlock]; exact hxg))
   rw [hF, hf] at HDc
   rw [hrl] at hF1
   rw [hF] at hF1
   have HCl : Hid (∀ W, Tch W2.drew W [g, m] → W.cell? ⟨t, 0, none⟩ = some (Value.map (some m)) ∧ W.cell? ⟨kb, 0, none⟩ = some (Value.bool ps) ∧ W.cell? ⟨kb, 1, none⟩ = some (Value.int .u64 (ph : Int)) ∧ W.cell? ⟨kb, 2, none⟩ = some (Value.int .u64 (pl : Int)) ∧ W.cell? ⟨kb, 3, none⟩ = some (Value.int .i64 pb)) := lH (fun W hT => ⟨(hT.blk (show Blk W2.drew t _ _ from HB2.out.drew) (by simp; exact ⟨hgn.1.symm, htm⟩)).cell 0, (hT.blk (show Blk W2.drew kb _ _ from HK2.out.drew) (by simp; rw [← hkb]; exact ⟨by have := hgn.2.2; omega, by have := hr.mp.lt; omega⟩)).c4⟩)
   have HKc := lH (fun w3 (hT : Tch W2.drew w3 [g]) => keep_any t m M ((ps, ph, pl), pb) (some ⟨g, 0, none⟩) f c w3 (hT.blk HB2.out.drew (by simpa using hgn.1.symm)) (hr.mp.tch ((hT2d.mono (T := [g]) (by simp)).trans hT) (by simpa using hgn.2.1.symm)))
   have HFin : Hid (∀ w3 w4, Tch W2.drew w3 [g] → w3.ownsRow 0 49 7 (.slice (some ⟨g, 0, none⟩) f c) f (F.flatMap paC) → MpIs (fun p => pfR p) w4 m (if f = 0 then mpDel M ((ps, ph, pl), pb) else mpPut M ((ps, ph, pl), pb) (.slice (some ⟨g, 0, none⟩) f c)) → Tch w3 w4 [m] → ∃ S2, RbP w4 t S2 L2 ∧ Goes wr w4 S' S2) := lH (fun w3 w4 h1 h2 h3 h4 => hr.kept he ((hT2d.mono (by simp)).trans h1) hF1 hf h2 hF2 hI2 hok2 h3 h4)
   have HWs2 := lH (And.intro hW2 hkb)
   have HC2 := lH (HCl.out W2.drew (Tch.refl _ _))
   have HC2' : Hid (W2.cell? ⟨t, 0, none⟩ = some (Value.map (some m)) ∧ W2.cell? ⟨kb, 0, none⟩ = some (Value.bool ps) ∧ W2.cell? ⟨kb, 1, none⟩ = some (Value.int .u64 (ph : Int)) ∧ W2.cell? ⟨kb, 2, none⟩ = some (Value.int .u64 (pl : Int)) ∧ W2.cell? ⟨kb, 3, none⟩ = some (Value.int .i64 pb)) := lH HC2.out
   clear htm hp hO hX hnp hS' hpl hL1 hL2 hI2 hok2 hr he ho hlk hF1 hF2 hn4 hgn hrl hF hrn hf hxg hkb hW2 hT2 hT2d
   go_wp2_with fail
   rw [HWs2.out.1, HWs2.out.2]
   clear q0 q1 q2 q3
   refine wp_region_held_drew (S := (fun W => W.cell? ⟨t, 0, none⟩ = some (Value.map (some m)) ∧ W.cell? ⟨kb, 0, none⟩ = some (Value.bool ps) ∧ W.cell? ⟨kb, 1, none⟩ = some (Value.int .u64 (ph : Int)) ∧ W.cell? ⟨kb, 2, none⟩ = some (Value.int .u64 (pl : Int)) ∧ W.cell? ⟨kb, 3, none⟩ = some (Value.int .i64 pb))) (by kernel_rfl) ?_ (fun hHeld => ?_)
   ·(first | exact HC2.out | exact HC2'.out | exact HC4.out | exact HC3.out)
   refine tkH 0 ?_
   refine tkH 1 ?_
   refine tkH 2 ?_
   refine tkH 3 ?_
   refine tkH 4 ?_
   refine tkH 5 ?_
   refine tkH 6 ?_
   refine tkH 8 ?_
   refine wpAnyH_ready (rs := [7]) (by kernel_rfl) (by simp) ?_
   refine AllReadyH.cons (o := { dst := some 24, op := Go.Op.lookup 121 (Go.Operand.tmp 22) (Go.Operand.tmp 23) false, type := 118, pos := "rib.go:65", after := #[{ on := 5, ground := Go.Ground.data }, { on := 6, ground := Go.Ground.data }], guard := none }) rfl (fun K hK => ?_) AllReadyH.nil
   go_simp
   refine hK.out _ _ ?_ (fun hHeld => ?_)
   ·(first | exact HC2.out | exact HC2'.out | exact HC4.out | exact HC3.out)
   clear hK K
   try simp only [Act.put, List.setIfInBounds_toArray, List.set_cons_zero, List.set_cons_succ]
   refine wpAnyH_ready (rs := [9]) (by kernel_rfl) (by simp) ?_
   refine AllReadyH.cons (o := { dst := some 26, op := Go.Op.call { callee := Go.Callee.value (Go.Operand.func 167), args := #[Go.Operand.tmp 24, Go.Operand.tmp 25], argTypes := #[118, 114] }, type := 118, pos := "rib.go:65", after := #[{ on := 7, ground := Go.Ground.data }, { on := 8, ground := Go.Ground.data }], guard := none }) rfl (fun K hK => ?_) AllReadyH.nil
   go_simp
   (go_at_call 167; (with_reducible refine cZm HDc.out ?_); rintro e w3 ⟨rfl, ho3, hT3⟩; have HO3 := lH ho3; have HT3 := lH (show Tch W2.drew w3 [g] from hT3); have HC3 := lH (HCl.out w3 (HT3.out.mono (by simp))); have HKd := lH (HKc.out w3 HT3.out); clear ho3 hT3)
   go_wp2_with fail
   refine hK.out _ _ ?_ (fun hHeld => ?_)
   ·(first | exact HC2.out | exact HC2'.out | exact HC4.out | exact HC3.out)
   clear hK K
   try simp only [Act.put, List.setIfInBounds_toArray, List.set_cons_zero, List.set_cons_succ]
   refine wpAnyH_ready (rs := [10]) (by kernel_rfl) (by simp) ?_
   refine AllReadyH.cons (o := { dst := some 27, op := Go.Op.call { callee := Go.Callee.value (Go.Operand.func 166), args := #[Go.Operand.tmp 17, Go.Operand.tmp 18, Go.Operand.tmp 26], argTypes := #[32, 30, 118] }, type := 0, pos := "rib.go:65", after := #[{ on := 0, ground := Go.Ground.data }, { on := 1, ground := Go.Ground.data }, { on := 9, ground := Go.Ground.data }, { on := 9, ground := Go.Ground.chain }], guard := none }) rfl (fun K hK => ?_) AllReadyH.nil
   go_simp
   (go_at_call 166; (with_reducible refine cZm HKd.out ?_); rintro e w4 ⟨rfl, hM4, hT4⟩; have HC4 := lH (HCl.out w4 ((HT3.out.mono (by simp)).trans (hT4.mono (by simp)))); have HF4 := lH (HFin.out w3 w4 HT3.out HO3.out hM4 hT4); clear hM4 hT4)
   go_wp2_with fail
   refine hK.out _ _ ?_ (fun hHeld => ?_)
   ·(first | exact HC2.out | exact HC2'.out | exact HC4.out | exact HC3.out)
   clear hK K
   try simp only [Act.put, List.setIfInBounds_toArray, List.set_cons_zero, List.set_cons_succ]
   refine wpAnyH_done (by kernel_rfl) ?_ _
   obtain ⟨S2, hR2, hG2⟩ := HF4.out
   rw [← HL2.out] at hR2
   have HR2' := lH hR2
   have HG2' := lH (hG.out.trans_ hG2)
   clear hR2 hG2
   go_wp2
   go_roundw
   case rel => exact ⟨k + 1, S2, by go_num, hkn, HR2', HG2'⟩
   case measure => simp [intOf]; omega
  ·obtain rfl : k = n := by omega
   have kI : ¬ (k : Int) < (k : Int) := by omega
   have hfl : flK L (l.take k) pr = (flushR L pr).1 := by rw [List.take_of_length_le (by rw [HN.out]; exact Nat.le_refl _)]; exact flK_all HMem.out pr
   have HR9 : Hid (RbP wr t S' (flushR L pr).1) := lH (hfl ▸ hR.out)
   have hfe : (flushR L pr).2 = (L.length : Int) - ((flushR L pr).1.length : Int) := rfl
   have hle : (flushR L pr).1.length ≤ L.length := List.length_filter_le _ _
   have HC9 := lH (HCn.out wr S' (flushR L pr).1 HR9.out)
   obtain ⟨L9, hL9⟩ : ∃ L9, (flushR L pr).1 = L9 := ⟨_, rfl⟩
   rw [hL9] at HR9 hfe hle HC9
   have HL9 := lH hL9
   have HFe := lH hfe
   have hsub : IntKind.i64.wrap ((L.length : Int) - (L9.length : Int)) = (L.length : Int) - (L9.length : Int) := by rw [IntKind.wrap_i64]; omega
   clear hkn hk hfl hfe hle hL9
   go_wp2_with fail
   refine cZm HC9.out ?_
   rintro e w9 ⟨rfl, hR9, hT9⟩
   have HR10 := lH hR9
   have HG9 := lH (((Goes.of_tch HT02.out).trans_ hG.out).trans_ (Goes.of_tch hT9))
   clear hR9 hT9
   go_wp2
   go_ret
   exact ⟨by rw [HFe.out]; rfl, S', by rw [HL9.out]; exact HR10.out, HG9.out⟩
end Go.Proofs.YtgfkmgbcajdcdaaGreatDoor

namespace Go.Proofs.YtgfkmgbcajdcdaaGreatDoor
open Go.RowKit

def EnvN (w : World) (S : List Nat) : Prop := EnvR w ∧ 0 ∉ S
theorem EnvR.n {w W : World} {S : List Nat} (h : EnvR w) (hb : Below w.heap.size w W) (hs : ∀ s ∈ S, w.heap.size ≤ s) : EnvN W S := ⟨h.below hb, h.nin hs⟩
end Go.Proofs.YtgfkmgbcajdcdaaGreatDoor

namespace Go.Proofs.YtgfkmgbcajdcdaaGreatDoor
open Go.RowKit

structure StpR where
 what : Int
 pf : PfI
 pa : PaI
def StpR.ok (x : StpR) : Prop := I64 x.what ∧ PfOk x.pf ∧ PaOk x.pa
def srC (x : StpR) : List Value := [.int .i64 x.what, .bool x.pf.1.1, .int .u64 (x.pf.1.2.1 : Int), .int .u64 (x.pf.1.2.2 : Int), .int .i64 x.pf.2, .int .i64 x.pa.1, .int .i64 x.pa.2.1, .bool x.pa.2.2.1.1, .int .u64 (x.pa.2.2.1.2.1 : Int), .int .u64 (x.pa.2.2.1.2.2 : Int), .int .i64 x.pa.2.2.2.1, .bool x.pa.2.2.2.2]
abbrev srV (x : StpR) : Value := .agg #[.int .i64 x.what, .bool x.pf.1.1, .int .u64 (x.pf.1.2.1 : Int), .int .u64 (x.pf.1.2.2 : Int), .int .i64 x.pf.2, .int .i64 x.pa.1, .int .i64 x.pa.2.1, .bool x.pa.2.2.1.1, .int .u64 (x.pa.2.2.1.2.1 : Int), .int .u64 (x.pa.2.2.1.2.2 : Int), .int .i64 x.pa.2.2.2.1, .bool x.pa.2.2.2.2]
def doR (L : List TdI) (x : StpR) : List TdI × Int × Int :=
 if x.what % 8 = 3 then ((dropR L x.pf x.pa).1, 0, (dropR L x.pf x.pa).2)
 else if x.what % 8 = 4 then ((flushR L x.pa.1).1, (flushR L x.pa.1).2, 0)
 else ((putR L x.pf x.pa).1, 0, (putR L x.pf x.pa).2)
theorem InvB.do_ {L : List TdI} (h : InvB L) {x : StpR} (hx : x.ok) : InvB (doR L x).1 := by
 unfold doR
 split
 ·exact h.drop _ _
 ·split
  ·exact h.flush _
  ·exact h.put _ _ hx.2.1.1 hx.2.2.2.2.1
theorem len_four : ∀ (P : List PfI) (L : List TdI), (∀ t ∈ L, t.1 ∈ P) → (∀ p, (pathsI L p).length ≤ 4) → L.length ≤ 4 * P.length
 | [], L, h, _ => by
  cases L with
  | nil => simp
  | cons t r => exact absurd (h t (by simp)) (by simp)
 | p :: P, L, h, h4 => by
  have h1 : L.length = (L.filter fun t => decide (t.1 = p)).length + (L.filter fun t => !decide (t.1 = p)).length := by
   clear h h4
   induction L with
   | nil => rfl
   | cons t r ih => by_cases e : t.1 = p <;> simp [e, ih] <;> omega
  have h2 : (L.filter fun t => decide (t.1 = p)).length ≤ 4 := by have := h4 p; unfold pathsI at this; rw [List.length_map] at this; exact this
  have h3 := len_four P (L.filter fun t => !decide (t.1 = p)) (fun t ht => by
   have h5 := List.mem_filter.1 ht
   rcases List.mem_cons.1 (h t h5.1) with e | e
   ·exact absurd h5.2 (by simp [e])
   ·exact e) (fun q => by
   refine Nat.le_trans ?_ (h4 q)
   unfold pathsI
   rw [List.length_map, List.length_map]
   exact (List.filter_sublist.filter _).length_le)
  rw [List.length_cons]
  omega
theorem InvB.len {L : List TdI} (h : InvB L) : L.length ≤ 360 := by
 have h1 := len_four (prefsI L) L (fun t ht => (prefsI_mem h.inv).2 ⟨t, ht, rfl⟩) h.four
 have := h.ninety
 omega
theorem InvB.len3 {L : List TdI} (h : InvB L) : L.length ≤ 1000 := Nat.le_trans h.len (by decide)
theorem and_lowR (n : Int) (k : Nat) (hk : k ≤ 16) : bits .and .i64 n ((2 ^ k - 1 : Nat) : Int) = n % ((2 ^ k : Nat) : Int) := by
 have h0 : 2 ^ k ≤ 2 ^ 16 := Nat.pow_le_pow_right (by decide) hk
 have h00 : 0 < 2 ^ k := Nat.pow_pos (by decide)
 have h7 : (BitVec.ofInt 64 ((2 ^ k - 1 : Nat) : Int)).toNat = 2 ^ k - 1 := by
  rw [BitVec.toNat_ofInt]
  omega
 have key : (BitVec.ofInt 64 n &&& BitVec.ofInt 64 ((2 ^ k - 1 : Nat) : Int)).toNat = (n % ((2 ^ 64 : Nat) : Int)).toNat % 2 ^ k := by
  rw [BitVec.toNat_and, BitVec.toNat_ofInt, h7, Nat.and_two_pow_sub_one_eq_mod]
 show IntKind.i64.wrap ((BitVec.ofInt 64 n &&& BitVec.ofInt 64 ((2 ^ k - 1 : Nat) : Int)).toNat : Nat) = n % ((2 ^ k : Nat) : Int)
 rw [key, IntKind.wrap_i64]
 have hd : ((2 ^ k : Nat) : Int) ∣ ((2 ^ 64 : Nat) : Int) := Int.natCast_dvd_natCast.2 (Nat.pow_dvd_pow 2 (by omega))
 have h1 : (((n % ((2 ^ 64 : Nat) : Int)).toNat % 2 ^ k : Nat) : Int) = n % ((2 ^ k : Nat) : Int) := by
  rw [Int.natCast_emod, Int.toNat_of_nonneg (by omega), Int.emod_emod_of_dvd n hd]
 have h2 := Int.emod_lt_of_pos n (show (0 : Int) < ((2 ^ k : Nat) : Int) by omega)
 have h3 := Int.emod_nonneg n (show ((2 ^ k : Nat) : Int) ≠ 0 by omega)
 rw [h1]
 omega
theorem and7R (n : Int) : bits .and .i64 n 7 = n % 8 := by have := and_lowR n 3 (by decide); simpa using this
end Go.Proofs.YtgfkmgbcajdcdaaGreatDoor

namespace Go.Proofs.YtgfkmgbcajdcdaaGreatDoor
open Go.RowKit

theorem do_any (t : Nat) (S : List Nat) (L : List TdI) (x : StpR) (hx : x.ok) (w : World) (hE : EnvN w S) (h : RbP w t S L) :
  Calls Tryz.prog 84 #[.pointer (some ⟨t, 0, none⟩), srV x] w fun e w' => e = .returned (.tuple #[.int .i64 (doR L x).2.1, .int .i64 (doR L x).2.2]) ∧ ∃ S', RbP w' t S' (doR L x).1 ∧ Goes w w' S S' := by
 obtain ⟨wh, ⟨⟨ps, ph, pl⟩, pb⟩, pr, me, ⟨vs, vh, vl⟩, po, aw⟩ := x
 obtain ⟨o1, o2, o3⟩ := hx
 have o2 : PfOk ((ps, ph, pl), pb) := o2
 have o3 : PaOk (pr, me, (vs, vh, vl), po, aw) := o3
 obtain ⟨xb, hxb⟩ : ∃ xb, w.heap.size = xb := ⟨_, rfl⟩
 obtain ⟨W0, hW0⟩ : ∃ W, w.alloc (.cells #[.int .i64 wh, .bool ps, .int .u64 (ph : Int), .int .u64 (pl : Int), .int .i64 pb, .int .i64 pr, .int .i64 me, .bool vs, .int .u64 (vh : Int), .int .u64 (vl : Int), .int .i64 po, .bool aw] 107) = W := ⟨_, rfl⟩
 have hX : Blk W0 xb 107 #[.int .i64 wh, .bool ps, .int .u64 (ph : Int), .int .u64 (pl : Int), .int .i64 pb, .int .i64 pr, .int .i64 me, .bool vs, .int .u64 (vh : Int), .int .u64 (vl : Int), .int .i64 po, .bool aw] := hW0 ▸ hxb ▸ Blk.new _ _ _
 have x0 := (hX.cell 0).trans (show _ = some (Value.int .i64 wh) by rfl)
 have x1 := (hX.cell 1).trans (show _ = some (Value.bool ps) by rfl)
 have x2 := (hX.cell 2).trans (show _ = some (Value.int .u64 (ph : Int)) by rfl)
 have x3 := (hX.cell 3).trans (show _ = some (Value.int .u64 (pl : Int)) by rfl)
 have x4 := (hX.cell 4).trans (show _ = some (Value.int .i64 pb) by rfl)
 have x5 := (hX.cell 5).trans (show _ = some (Value.int .i64 pr) by rfl)
 have x6 := (hX.cell 6).trans (show _ = some (Value.int .i64 me) by rfl)
 have x7 := (hX.cell 7).trans (show _ = some (Value.bool vs) by rfl)
 have x8 := (hX.cell 8).trans (show _ = some (Value.int .u64 (vh : Int)) by rfl)
 have x9 := (hX.cell 9).trans (show _ = some (Value.int .u64 (vl : Int)) by rfl)
 have x10 := (hX.cell 10).trans (show _ = some (Value.int .i64 po) by rfl)
 have x11 := (hX.cell 11).trans (show _ = some (Value.bool aw) by rfl)
 have hT0 : Tch w W0 [] := hW0 ▸ (Tch.refl w []).alloc _
 have HT0 : Hid (Tch w W0 S) := lH (hT0.mono (by simp))
 have hP0 := h.tch hT0 (by simp)
 have hE0 := hE.1.tch0 hT0
 have HW0 := lH (And.intro hW0 hxb)
 obtain ⟨k, hk⟩ : ∃ k, wh % 8 = k := ⟨_, rfl⟩
 have ha : bits .and .i64 wh 7 = k := by rw [and7R]; exact hk
 have HGo : Hid (∀ W S', Goes W0 W S S' → Goes w W S S') := lH (fun W S' hg => (Goes.of_tch HT0.out).trans_ hg)
 by_cases k3 : k = 3
 ·subst k3
  have HE : Hid (doR L ⟨wh, ((ps, ph, pl), pb), (pr, me, (vs, vh, vl), po, aw)⟩ = ((dropR L ((ps, ph, pl), pb) (pr, me, (vs, vh, vl), po, aw)).1, 0, (dropR L ((ps, ph, pl), pb) (pr, me, (vs, vh, vl), po, aw)).2)) := lH (by unfold doR; rw [if_pos (show wh % 8 = 3 from hk)])
  have HC := lH (dropP t S L ((ps, ph, pl), pb) (pr, me, (vs, vh, vl), po, aw) o2 o3 W0 hP0)
  clear hk hE hE0 hP0 h hT0 hX hW0 hxb o1 o2 o3
  go_enter Tryz.func84, Tryz.ntmps84
  go_wp2_with fail
  rw [HW0.out.1, HW0.out.2]
  refine cZm HC.out ?_
  rintro e w1 ⟨rfl, S', hI, hg⟩
  have HI := lH hI
  have HG := lH (HGo.out _ _ hg)
  clear hI hg x0 x1 x2 x3 x4 x5 x6 x7 x8 x9 x10 x11
  go_wp2
  refine bodyPost_ret (v := .tuple #[.int .i64 (((dropR L ((ps, ph, pl), pb) (pr, me, (vs, vh, vl), po, aw)).1, 0, (dropR L ((ps, ph, pl), pb) (pr, me, (vs, vh, vl), po, aw)).2)).2.1, .int .i64 (((dropR L ((ps, ph, pl), pb) (pr, me, (vs, vh, vl), po, aw)).1, 0, (dropR L ((ps, ph, pl), pb) (pr, me, (vs, vh, vl), po, aw)).2)).2.2]) (by simp [results, Tryz.results84, go_sem]) rfl ⟨by rw [HE.out], S', by rw [HE.out]; exact HI.out, HG.out⟩
 by_cases k4 : k = 4
 ·subst k4
  have HE : Hid (doR L ⟨wh, ((ps, ph, pl), pb), (pr, me, (vs, vh, vl), po, aw)⟩ = ((flushR L pr).1, (flushR L pr).2, 0)) := lH (by unfold doR; rw [if_neg (show ¬ wh % 8 = 3 by omega), if_pos (show wh % 8 = 4 from hk)])
  have HC := lH (flushP t S L pr o3.1 W0 hP0)
  clear hk hE hE0 hP0 h hT0 hX hW0 hxb o1 o2 o3
  go_enter Tryz.func84, Tryz.ntmps84
  go_wp2_with fail
  rw [HW0.out.1, HW0.out.2]
  refine cZm HC.out ?_
  rintro e w1 ⟨rfl, S', hI, hg⟩
  have HI := lH hI
  have HG := lH (HGo.out _ _ hg)
  clear hI hg x0 x1 x2 x3 x4 x5 x6 x7 x8 x9 x10 x11
  go_wp2
  refine bodyPost_ret (v := .tuple #[.int .i64 (((flushR L pr).1, (flushR L pr).2, 0)).2.1, .int .i64 (((flushR L pr).1, (flushR L pr).2, 0)).2.2]) (by simp [results, Tryz.results84, go_sem]) rfl ⟨by rw [HE.out], S', by rw [HE.out]; exact HI.out, HG.out⟩
 ·have b3 : (k == (3 : Int)) = false := by simpa using k3
  have b4 : (k == (4 : Int)) = false := by simpa using k4
  have HE : Hid (doR L ⟨wh, ((ps, ph, pl), pb), (pr, me, (vs, vh, vl), po, aw)⟩ = ((putR L ((ps, ph, pl), pb) (pr, me, (vs, vh, vl), po, aw)).1, 0, (putR L ((ps, ph, pl), pb) (pr, me, (vs, vh, vl), po, aw)).2)) := lH (by unfold doR; rw [if_neg (show ¬ wh % 8 = 3 by omega), if_neg (show ¬ wh % 8 = 4 by omega)])
  have HC := lH (putP t S L ((ps, ph, pl), pb) (pr, me, (vs, vh, vl), po, aw) o2 o3 W0 hE0 hE.2 hP0)
  clear hk k3 k4 hE hE0 hP0 h hT0 hX hW0 hxb o1 o2 o3
  go_enter Tryz.func84, Tryz.ntmps84
  go_wp2_with fail
  rw [HW0.out.1, HW0.out.2]
  refine cZm HC.out ?_
  rintro e w1 ⟨rfl, S', hI, hg⟩
  have HI := lH hI
  have HG := lH (HGo.out _ _ hg)
  clear hI hg x0 x1 x2 x3 x4 x5 x6 x7 x8 x9 x10 x11
  go_wp2
  refine bodyPost_ret (v := .tuple #[.int .i64 (((putR L ((ps, ph, pl), pb) (pr, me, (vs, vh, vl), po, aw)).1, 0, (putR L ((ps, ph, pl), pb) (pr, me, (vs, vh, vl), po, aw)).2)).2.1, .int .i64 (((putR L ((ps, ph, pl), pb) (pr, me, (vs, vh, vl), po, aw)).1, 0, (putR L ((ps, ph, pl), pb) (pr, me, (vs, vh, vl), po, aw)).2)).2.2]) (by simp [results, Tryz.results84, go_sem]) rfl ⟨by rw [HE.out], S', by rw [HE.out]; exact HI.out, HG.out⟩
end Go.Proofs.YtgfkmgbcajdcdaaGreatDoor

namespace Go.Proofs.YtgfkmgbcajdcdaaGreatDoor
open Go.RowKit

structure StdR (w W : World) (p : Nat) (S : List Nat) (L : List TdI) : Prop where
 P : RbP W p S L
 bel : Below w.heap.size w W
 abv : ∀ s ∈ S, w.heap.size ≤ s
section
variable {w W W' : World} {p : Nat} {S S' : List Nat} {L M : List TdI} {g : Nat} {t : TypeId} {cs : Array Value}
theorem StdR.env (h : StdR w W p S L) (hE : EnvR w) : EnvN W S := hE.n h.bel h.abv
theorem StdR.go (h : StdR w W p S L) (hP : RbP W' p S' M) (hg : Goes W W' S S') : StdR w W' p S' M :=
 have k := hg.below h.bel.size h.abv
 ⟨hP, h.bel.trans k.1, k.2⟩
theorem StdR.read (h : StdR w W p S L) (hP : RbP W' p S L) (ht : Tch W W' S) : StdR w W' p S L := h.go hP (Goes.of_tch ht)
theorem StdR.tch0 (h : StdR w W p S L) (ht : Tch W W' []) : StdR w W' p S L := h.read (h.P.tch ht (by simp)) (ht.mono (by simp))
theorem StdR.alloc (h : StdR w W p S L) (o : Obj) : StdR w (W.alloc o) p S L := h.tch0 ((Tch.refl W []).alloc o)
structure OwnR (W : World) (S : List Nat) (g : Nat) (t : TypeId) (cs : Array Value) : Prop where
 blk : Blk W g t cs
 non : g ∉ S
theorem OwnR.go (h : OwnR W S g t cs) (hg : Goes W W' S S') : OwnR W' S' g t cs :=
 ⟨hg.tch.blk h.blk h.non, fun hm => by
  rcases hg.fre g hm with h1 | h1
  ·exact h.non h1
  ·have := h.blk.lt; omega⟩
theorem OwnR.tch0 (h : OwnR W S g t cs) (ht : Tch W W' []) : OwnR W' S g t cs := h.go (Goes.of_tch (ht.mono (by simp)))
theorem OwnR.alloc (h : OwnR W S g t cs) (o : Obj) : OwnR (W.alloc o) S g t cs := ⟨h.blk.alloc o, h.non⟩
theorem OwnR.new (h : RbP W p S L) (t : TypeId) (cs : Array Value) : OwnR (W.alloc (.cells cs t)) S W.heap.size t cs := ⟨Blk.new W t cs, fun hm => by have := h.lt _ hm; omega⟩
end
end Go.Proofs.YtgfkmgbcajdcdaaGreatDoor

namespace Go.Proofs.YtgfkmgbcajdcdaaGreatDoor
open Go.RowKit

structure AwR (w W : World) (p : Nat) (S : List Nat) (L : List TdI) (va vb vc : Nat) : Prop where
 Y : StdR w W p S L
 A : OwnR W S va 49 #[.int .i64 3, .int .i64 5, .bool false, .int .u64 0, .int .u64 168361985, .int .i64 0, .bool false]
 B : OwnR W S vb 49 #[.int .i64 1, .int .i64 7, .bool false, .int .u64 0, .int .u64 168361986, .int .i64 0, .bool false]
 C : OwnR W S vc 49 #[.int .i64 1, .int .i64 7, .bool false, .int .u64 0, .int .u64 168361986, .int .i64 0, .bool false]
section
variable {w W W' : World} {p : Nat} {S S' : List Nat} {L M : List TdI} {va vb vc : Nat}
theorem AwR.go (h : AwR w W p S L va vb vc) (hP : RbP W' p S' M) (hg : Goes W W' S S') : AwR w W' p S' M va vb vc := ⟨h.Y.go hP hg, h.A.go hg, h.B.go hg, h.C.go hg⟩
theorem AwR.read (h : AwR w W p S L va vb vc) (hP : RbP W' p S L) (ht : Tch W W' S) : AwR w W' p S L va vb vc := h.go hP (Goes.of_tch ht)
theorem AwR.tch0 (h : AwR w W p S L va vb vc) (ht : Tch W W' []) : AwR w W' p S L va vb vc := ⟨h.Y.tch0 ht, h.A.tch0 ht, h.B.tch0 ht, h.C.tch0 ht⟩
theorem AwR.below (h : AwR w W p S L va vb vc) (hb : Below W.heap.size W W') : AwR w W' p S L va vb vc := h.tch0 (Tch.of_below [] hb)
theorem AwR.alloc (h : AwR w W p S L va vb vc) (o : Obj) : AwR w (W.alloc o) p S L va vb vc := h.tch0 ((Tch.refl W []).alloc o)
end
end Go.Proofs.YtgfkmgbcajdcdaaGreatDoor

namespace Go.Proofs.YtgfkmgbcajdcdaaGreatDoor
open Go.ChangeShapes Go.WideShapes Go.ChangeAt Go.RowKit

section
variable {H : Type} {enc : TypeId × Value → H} {W : World}
end
theorem n64R {x : Int} (h : (Lit.int .u64 x).wf = true) : ∃ n : Nat, x = n ∧ N64 n := by
 have h1 : 0 ≤ x ∧ x ≤ 18446744073709551615 := by simpa [Lit.wf, IntKind.min, IntKind.max, IntKind.bits, IntKind.signed] using h
 exact ⟨x.toNat, by omega, by unfold N64; omega⟩
end Go.Proofs.YtgfkmgbcajdcdaaGreatDoor

namespace Go.Proofs.YtgfkmgbcajdcdaaGreatDoor
open Go.RowKit Go.ChangeShapes Go.WideShapes Go.ChangeAt

abbrev Stp := StpR
instance : Inhabited Stp := ⟨⟨0, ((false, 0, 0), 0), zeroX⟩⟩
def IsStp (w : World) (a : Option Addr) (l : Nat) (z : List Stp) : Prop :=
 z.length = l ∧ (∀ x ∈ z, x.ok) ∧ (0 < l → ∃ b o, a = some ⟨b, o, none⟩ ∧ b < w.heap.size ∧ ∀ j x, z[j]? = some x → ∀ k v, (srC x)[k]? = some v → w.cell? ⟨b, o + j * 12 + k, none⟩ = some v)
theorem IsStp.below {w w' : World} {a : Option Addr} {l : Nat} {z : List Stp} (h : IsStp w a l z) (hb : Below w.heap.size w w') : IsStp w' a l z := by
 refine ⟨h.1, h.2.1, fun h0 => ?_⟩
 obtain ⟨b, o, e, hlt, hc⟩ := h.2.2 h0
 exact ⟨b, o, e, by have := hb.size; omega, fun j x hx k v hv => (hb.cell (p := ⟨b, o + j * 12 + k, none⟩) hlt).trans (hc j x hx k v hv)⟩
theorem open_step {H : Type} {enc : TypeId × Value → H} {W : World} {base n : Nat} {spare : Nat → Bool} {held : Bool} {cs : List Value} {y : DataW H × List MemPlace} (hl : cs.length = 12) (hf : DataW.trod enc Tryz.prog W base spare held n 107 cs = some y) :
  ∃ q : StpR, cs = srC q ∧ q.ok := by
 match cs, hl with
 | [c0, c1, c2, c3, c4, c5, c6, c7, c8, c9, c10, c11], _ =>
  have e0 : Tryz.prog.cellsOf 28 = 3 := by kernel_rfl
  have e1 : Tryz.prog.cellsOf 3 = 1 := by kernel_rfl
  have e2 : Tryz.prog.cellsOf 4 = 1 := by kernel_rfl
  have e3 : Tryz.prog.cellsOf 26 = 1 := by kernel_rfl
  have e4 : Tryz.prog.cellsOf 30 = 4 := by kernel_rfl
  have e5 : Tryz.prog.cellsOf 49 = 7 := by kernel_rfl
  cases n with
  | zero => simp [DataW.trod] at hf
  | succ n =>
   simp only [DataW.trod, Tryz.underlying107] at hf
   split at hf
   ·obtain ⟨xs, hm, hx⟩ := Option.map_eq_some_iff.1 hf
    simp only [List.mapM_cons, List.mapM_nil, bind, Option.bind_eq_some_iff, pure, Option.some.injEq] at hm
    obtain ⟨y0, g0, r0, ⟨y1, g1, r1, ⟨y2, g2, r2, rfl, rfl⟩, rfl⟩, rfl⟩ := hm
    simp only [e1, e4, e5, List.drop_zero, List.take_succ_cons, List.take_zero, List.drop_succ_cons] at g0 g1 g2
    obtain ⟨x0, t0, q0, w0⟩ := DataW.trod_int Tryz.underlying3 g0
    obtain ⟨p0, p1, m1, hp, _, k0, k1⟩ := trod_struct2 Tryz.underlying30 g1
    simp only [e0, e1, List.drop_zero, List.take_succ_cons, List.take_zero, List.drop_succ_cons] at k0 k1
    obtain ⟨z0, z1, z2, m, hz, _, a0, a1, a2⟩ := Go.Deep.trod_struct3 Tryz.underlying28 k0
    simp only [e2, e3, List.drop_zero, List.take_succ_cons, List.take_zero, List.drop_succ_cons] at a0 a1 a2
    obtain ⟨x1, t1, q1⟩ := DataW.trod_bool Tryz.underlying4 a0
    obtain ⟨x2, t2, q2, w2⟩ := DataW.trod_int Tryz.underlying26 a1
    obtain ⟨x3, t3, q3, w3⟩ := DataW.trod_int Tryz.underlying26 a2
    obtain ⟨x4, t4, q4, w4⟩ := DataW.trod_int Tryz.underlying3 k1
    clear g0 g1 k0 k1 a0 a1 a2 hp hz hx
    cases n with
    | zero => simp [DataW.trod] at g2
    | succ n =>
     simp only [DataW.trod, Tryz.underlying49] at g2
     split at g2
     ·obtain ⟨xs, hm, hx⟩ := Option.map_eq_some_iff.1 g2
      simp only [List.mapM_cons, List.mapM_nil, bind, Option.bind_eq_some_iff, pure, Option.some.injEq] at hm
      obtain ⟨y5, g5, r5, ⟨y6, g6, r6, ⟨y7, g7, r7, ⟨y8, g8, r8, ⟨y9, g9, r9, rfl, rfl⟩, rfl⟩, rfl⟩, rfl⟩, rfl⟩ := hm
      simp only [e0, e1, e2, List.drop_zero, List.take_succ_cons, List.take_zero, List.drop_succ_cons] at g5 g6 g7 g8 g9
      obtain ⟨x5, t5, q5, w5⟩ := DataW.trod_int Tryz.underlying3 g5
      obtain ⟨x6, t6, q6, w6⟩ := DataW.trod_int Tryz.underlying3 g6
      obtain ⟨u0, u1, u2, m', hu, _, l0, l1, l2⟩ := Go.Deep.trod_struct3 Tryz.underlying28 g7
      simp only [e2, e3, List.drop_zero, List.take_succ_cons, List.take_zero, List.drop_succ_cons] at l0 l1 l2
      obtain ⟨x7, t7, q7⟩ := DataW.trod_bool Tryz.underlying4 l0
      obtain ⟨x8, t8, q8, w8⟩ := DataW.trod_int Tryz.underlying26 l1
      obtain ⟨x9, t9, q9, w9⟩ := DataW.trod_int Tryz.underlying26 l2
      obtain ⟨xa, ta, qa, wa⟩ := DataW.trod_int Tryz.underlying3 g8
      obtain ⟨xc, tc, qc⟩ := DataW.trod_bool Tryz.underlying4 g9
      injection t0 with t0 _
      injection t1 with t1 _
      injection t2 with t2 _
      injection t3 with t3 _
      injection t4 with t4 _
      injection t5 with t5 _
      injection t6 with t6 _
      injection t7 with t7 _
      injection t8 with t8 _
      injection t9 with t9 _
      injection ta with ta _
      injection tc with tc _
      subst t0 t1 t2 t3 t4 t5 t6 t7 t8 t9 ta tc
      obtain ⟨n2, rfl, v2⟩ := n64R w2
      obtain ⟨n3, rfl, v3⟩ := n64R w3
      obtain ⟨n8, rfl, v8⟩ := n64R w8
      obtain ⟨n9, rfl, v9⟩ := n64R w9
      exact ⟨⟨x0, ((x1, n2, n3), x4), (x5, x6, (x7, n8, n9), xa, xc)⟩, rfl, w0, ⟨⟨v2, v3⟩, w4⟩, w5, w6, ⟨v8, v9⟩, wa⟩
     ·cases g2
   ·cases hf
theorem isStp_of {H : Type} {enc : TypeId × Value → H} {W : World} {a : Option Addr} {l c : Nat} {d : DataW H} {p : List MemPlace} (h : DataW.Trod enc Tryz.prog W 0 (fun _ => true) true 23 (.slice a l c) d p) : ∃ z, IsStp W a l z := by
 obtain ⟨fuel, hf⟩ := h
 have ce : Tryz.prog.cellsOf 107 = 12 := by kernel_rfl
 rcases Go.Deep.open_slice Tryz.underlying23 hf with ⟨hcs, _⟩ | ⟨ad, len, cap, m, n, D, Pl, hcs, _, hl, hm, hmm, _, hx⟩
 ·simp [Value.cells] at hcs
  obtain ⟨rfl, rfl, rfl⟩ := hcs
  exact ⟨[], rfl, fun x hx => (by cases hx), fun h0 => absurd h0 (by omega)⟩
 ·simp [Value.cells] at hcs
  obtain ⟨rfl, rfl, rfl⟩ := hcs
  simp only [if_true] at hmm
  have each : ∀ i, i < l → ∃ q : Stp, (∀ k v, (srC q)[k]? = some v → W.cell? ((ad.add (i * 12)).add k) = some v) ∧ q.ok := by
   intro i hi
   obtain ⟨cs', h1, h2⟩ := hx i (by omega)
   rw [ce] at h1
   obtain ⟨_, hlen, hcell⟩ := World.cells?_some h1
   obtain ⟨q, hq, hok⟩ := open_step hlen h2
   refine ⟨q, fun k v hv => ?_, hok⟩
   rw [← hq] at hv
   have hk := (List.getElem?_eq_some_iff.1 hv).1
   have := hcell k (by omega)
   rw [this]
   simpa using hv
  obtain ⟨q, hq⟩ := Go.Deep.choose_lt each
  refine ⟨(List.range l).map q, by simp, fun x hx => ?_, fun h0 => ?_⟩
  ·obtain ⟨i, hi, rfl⟩ := List.mem_map.1 hx
   exact (hq i (List.mem_range.1 hi)).2
  ·obtain ⟨b, off, spot⟩ := ad
   have hc := (hq 0 h0).1 0 _ rfl
   have hspot : spot = none := by simpa [Addr.add] using World.cell?_spot hc
   subst hspot
   refine ⟨b, off, rfl, by simpa [Addr.add] using World.block_lt_of_cell? W _ hc, fun j x hjx k v hv => ?_⟩
   rw [List.getElem?_map, Option.map_eq_some_iff] at hjx
   obtain ⟨i, hi, rfl⟩ := hjx
   have hil := (List.getElem?_eq_some_iff.1 hi).1
   have hij : i = j := by rw [List.getElem?_range (by simpa using hil)] at hi; injection hi with hi; exact hi.symm
   subst hij
   have k0 := (hq i (by simpa using hil)).1 k v hv
   have ea : ∀ x : Nat, (⟨b, off, none⟩ : Addr).add x = ⟨b, off + x, none⟩ := fun x => by unfold Addr.add; split <;> simp_all
   have eb : ∀ y x : Nat, (⟨b, y, none⟩ : Addr).add x = ⟨b, y + x, none⟩ := fun y x => by unfold Addr.add; split <;> simp_all
   rw [ea, eb] at k0
   exact k0
end Go.Proofs.YtgfkmgbcajdcdaaGreatDoor

namespace Go.Proofs.YtgfkmgbcajdcdaaGreatDoor
open Go.RowKit

def plR (z : List StpR) (n : Nat) : List TdI := (z.take n).foldl (fun st x => (doR st x).1) []
theorem plR_zero (z : List StpR) : plR z 0 = [] := by simp [plR]
theorem plR_succ {z : List StpR} {n : Nat} {x : StpR} (hx : z[n]? = some x) : plR z (n + 1) = (doR (plR z n) x).1 := by
 unfold plR
 rw [List.take_add_one, hx, List.foldl_append]
 rfl
theorem plR_inv {z : List StpR} (hz : ∀ x ∈ z, x.ok) (n : Nat) : InvB (plR z n) := by
 induction n with
 | zero => rw [plR_zero]; exact InvB.nil
 | succ n ih =>
  cases hx : z[n]? with
  | none =>
   have : z.length ≤ n := List.getElem?_eq_none_iff.1 hx
   have e : plR z (n + 1) = plR z n := by unfold plR; rw [List.take_of_length_le this, List.take_of_length_le (by omega)]
   rw [e]; exact ih
  | some x => rw [plR_succ hx]; exact ih.do_ (hz x (List.mem_of_getElem? hx))
theorem IsStp.cells {w wr : World} {a : Option Addr} {l j : Nat} {z : List Stp} (h : IsStp w a l z) (hb : Below w.heap.size w wr) (hj : j < l) : ∃ g o wh ps ph pl pb pr me vs vh vl po aw, a = some ⟨g, o, none⟩ ∧ z[j]? = some ⟨wh, ((ps, ph, pl), pb), (pr, me, (vs, vh, vl), po, aw)⟩ ∧ StpR.ok ⟨wh, ((ps, ph, pl), pb), (pr, me, (vs, vh, vl), po, aw)⟩ ∧
  wr.cell? ⟨g, o + j * 12, none⟩ = some (.int .i64 wh) ∧ wr.cell? ⟨g, o + j * 12 + 1, none⟩ = some (.bool ps) ∧ wr.cell? ⟨g, o + j * 12 + 2, none⟩ = some (.int .u64 (ph : Int)) ∧ wr.cell? ⟨g, o + j * 12 + 3, none⟩ = some (.int .u64 (pl : Int)) ∧ wr.cell? ⟨g, o + j * 12 + 4, none⟩ = some (.int .i64 pb) ∧ wr.cell? ⟨g, o + j * 12 + 5, none⟩ = some (.int .i64 pr) ∧ wr.cell? ⟨g, o + j * 12 + 6, none⟩ = some (.int .i64 me) ∧ wr.cell? ⟨g, o + j * 12 + 7, none⟩ = some (.bool vs) ∧ wr.cell? ⟨g, o + j * 12 + 8, none⟩ = some (.int .u64 (vh : Int)) ∧ wr.cell? ⟨g, o + j * 12 + 9, none⟩ = some (.int .u64 (vl : Int)) ∧ wr.cell? ⟨g, o + j * 12 + 10, none⟩ = some (.int .i64 po) ∧ wr.cell? ⟨g, o + j * 12 + 11, none⟩ = some (.bool aw) := by
 obtain ⟨b, o, e, hlt, hc⟩ := h.2.2 (by omega)
 have hlz : j < z.length := by rw [h.1]; exact hj
 have hz : z[j]? = some z[j] := List.getElem?_eq_getElem hlz
 have hok := h.2.1 _ (List.mem_of_getElem? hz)
 generalize z[j] = x at hz hok
 obtain ⟨wh, ⟨⟨ps, ph, pl⟩, pb⟩, pr, me, ⟨vs, vh, vl⟩, po, aw⟩ := x
 have k : ∀ k v, (srC ⟨wh, ((ps, ph, pl), pb), (pr, me, (vs, vh, vl), po, aw)⟩)[k]? = some v → wr.cell? ⟨b, o + j * 12 + k, none⟩ = some v := fun k v hv => (hb.cell (p := ⟨b, o + j * 12 + k, none⟩) hlt).trans (hc j _ hz k v hv)
 exact ⟨b, o, wh, ps, ph, pl, pb, pr, me, vs, vh, vl, po, aw, e, hz, hok, k 0 _ rfl, k 1 _ rfl, k 2 _ rfl, k 3 _ rfl, k 4 _ rfl, k 5 _ rfl, k 6 _ rfl, k 7 _ rfl, k 8 _ rfl, k 9 _ rfl, k 10 _ rfl, k 11 _ rfl⟩
theorem made_any (w : World) (a : Option Addr) (l c : Nat) (z : List Stp) (hz : IsStp w a l z) (w0 : World) (hb0 : Below w.heap.size w w0) (hE : EnvR w) :
  Calls Tryz.prog 42 #[.slice a l c] w0 fun e w' => ∃ p S, e = .returned (.pointer (some ⟨p, 0, none⟩)) ∧ StdR w0 w' p S (plR z (min l 60)) := by
 have HNew := lH (newP w0)
 have HZ := lH hz
 have HB0 := lH hb0
 have HEn := lH (hE.below hb0)
 clear hz hb0 hE
 go_enter Tryz.func42, Tryz.ntmps42
 go_wp2_with fail
 refine cZm HNew.out ?_
 rintro e w1 ⟨p, S0, rfl, hP, hb, hs⟩
 have Y0 : Hid (StdR w0 w1 p S0 (plR z 0)) := lH ⟨by rw [plR_zero]; exact hP, hb, hs⟩
 clear hP hb hs
 go_wp2_with fail
 go_loopw [4] (fun iv wr => ∃ (i : Nat) (S : List Nat), iv = .int .i64 (i : Int) ∧ i ≤ l ∧ i ≤ 60 ∧ Hid (StdR w0 wr p S (plR z i))) (fun iv _ => 60 - (intOf iv).toNat)
 case atStart => exact ⟨0, S0, rfl, Nat.zero_le _, Nat.zero_le _, Y0⟩
 case round =>
  obtain ⟨i, S, rfl, hil, hi6, hY⟩ := hrel
  have j1 : IntKind.i64.wrap ((i : Int) + 1) = (i : Int) + 1 := by rw [IntKind.wrap_i64]; omega
  by_cases hlt : i < l
  ·have i1 : (i : Int) < (l : Int) := by omega
   have i0 : (0 : Int) ≤ (i : Int) := by omega
   by_cases h60 : i < 60
   ·have i6 : (i : Int) < 60 := by omega
    obtain ⟨g, o, wh, ps, ph, pl, pb, pr, me, vs, vh, vl, po, aw, rfl, hzi, hok, c0, c1, c2, c3, c4, c5, c6, c7, c8, c9, ca, cb⟩ := HZ.out.cells (HB0.out.trans (hY.out.bel.mono HB0.out.size)) hlt
    have HD : Hid (Calls Tryz.prog 84 #[.pointer (some ⟨p, 0, none⟩), .agg #[.int .i64 wh, .bool ps, .int .u64 (ph : Int), .int .u64 (pl : Int), .int .i64 pb, .int .i64 pr, .int .i64 me, .bool vs, .int .u64 (vh : Int), .int .u64 (vl : Int), .int .i64 po, .bool aw]] wr _) := lH (do_any p S (plR z i) ⟨wh, ((ps, ph, pl), pb), (pr, me, (vs, vh, vl), po, aw)⟩ hok wr (HEn.out.n hY.out.bel hY.out.abv) hY.out.P)
    have HS := lH (plR_succ hzi)
    clear hzi hok
    go_wp2_with fail
    refine cZm HD.out ?_
    rintro e w2 ⟨rfl, S', hP, hg⟩
    rw [← HS.out] at hP
    have Y2 := lH (hY.out.go hP hg)
    clear hP hg c0 c1 c2 c3 c4 c5 c6 c7 c8 c9 ca cb
    go_wp2
    go_roundw
    case rel => exact ⟨i + 1, S', by go_num, hlt, h60, Y2⟩
    case measure => simp [intOf]; omega
   ·have i6 : ¬ (i : Int) < 60 := by omega
    have he : min l 60 = i := by omega
    have HE := lH he
    clear he h60 hil hi6
    go_wp2
    go_ret
    rw [HE.out]
    exact ⟨p, rfl, S, hY.out⟩
  ·have i1 : ¬ (i : Int) < (l : Int) := by omega
   have i1b : decide ((i : Int) < (l : Int)) = false := decide_eq_false i1
   have he : min l 60 = i := by omega
   have HE := lH he
   clear he hlt hil hi6
   go_wp2
   go_ret
   rw [HE.out]
   exact ⟨p, rfl, S, hY.out⟩
end Go.Proofs.YtgfkmgbcajdcdaaGreatDoor
