/-
  Several texts in one: IfY, Adq, IfZ, RxA.
-/
import Derived.Test.YtgfkmgbcajdcdaaGreatDoorZay
import Derived.Test.YtgfkmgbcajdcdaaGreatDoorZax
import Derived.Deep.RegionLaw
import Derived.Test.YtgfkmgbcajdcdaaGreatDoorZad
import Derived.Test.YtgfkmgbcajdcdaaGreatDoorZal
import Derived.Test.YtgfkmgbcajdcdaaGreatDoorZau
import Derived.Test.YtgfkmgbcajdcdaaGreatDoorZaa
set_option linter.unusedVariables false
set_option maxRecDepth 100000
set_option maxHeartbeats 16000000
namespace Go.Proofs.YtgfkmgbcajdcdaaGreatDoor.Ifs
open Go.RowKit

theorem IfD.row {W : World} {t : Nat} {S : List Nat} {st : StI} {port : Int} (h : IfD W t S st) (ht : thereI st port = true) : ∃ (gL cL : Nat) (A : Option Addr) (c n i : Nat) (l : List Loc), W.cell? ⟨t, 1, none⟩ = some (.slice (some ⟨gL, 0, none⟩) n cL) ∧ W.cell? ⟨gL, i, none⟩ = some (.slice A l.length c) ∧
  W.ownsRow 0 202 4 (.slice A l.length c) l.length (l.flatMap lcC) ∧ IntKind.i64.wrap (port - 1) = (i : Int) ∧ i < n ∧ n ≤ 8 ∧ locI st port = l ∧ st.2[i]? = some l ∧ idxI port = i ∧ n = st.1.length ∧ t < W.heap.size ∧ gL < W.heap.size ∧ W.frozen? ⟨gL, i, none⟩ = false := by
 have hlts := h.lt
 obtain ⟨p, l, hp, hl, hle, hmt, hlt, hpe⟩ := locI_at h.inv ht
 have hf := h.few
 obtain ⟨AP, AL, cP, cL, lv, rfl, h2, h3, h4, h5, h6, h7, h8⟩ := h
 obtain ⟨gL, rfl⟩ := slice_some h5 (by omega)
 obtain ⟨A, c, e, ho⟩ := h7 _ l hl
 refine ⟨gL, cL, A, c, st.1.length, idxI port, l, (h3.cell 1).trans rfl, own_cellN h5 e, ho, ?_, hlt, hf, hle, hl, rfl, rfl, h3.lt, own_lt h5 rfl, own_frozen h5 _⟩
 rw [IntKind.wrap_i64]; omega
theorem modify_set {α : Type} {l : List α} {i : Nat} {x : α} (h : l[i]? = some x) (f : α → α) : l.modify i f = l.set i (f x) := by
 apply List.ext_getElem?
 intro j
 rw [List.getElem?_modify, List.getElem?_set]
 by_cases hj : i = j
 ·subst hj
  rw [h]
  have := (List.getElem?_eq_some_iff.1 h).1
  simp [this]
 ·rw [if_neg hj]
  cases l[j]? <;> simp [hj]
theorem inner_end {w w7 : World} {t i gL cL n k : Nat} {S : List Nat} {st : StI} {l' : List Loc} {v7 : Value} (hD : IfD w t S st) (hT : Tch w w7 []) (hi : i < st.1.length) (hinv : InvI (st.1, st.2.set i l'))
  (hg : w7.cell? ⟨t, 1, none⟩ = some (.slice (some ⟨gL, 0, none⟩) n cL)) (hk : l'.length = k) (hown : w7.ownsRow w.heap.size 202 4 v7 k (l'.flatMap lcC)) :
  ∃ A7 c7 S', v7 = .slice A7 k c7 ∧ w7.frozen? ⟨gL, i, none⟩ = false ∧ (∃ u, w7.cell? ⟨gL, i, none⟩ = some u) ∧ IfD (w7.setCell ⟨gL, i, none⟩ (.slice A7 k c7)) t S' (st.1, st.2.set i l') ∧ Goes w (w7.setCell ⟨gL, i, none⟩ (.slice A7 k c7)) S S' := by
 subst hk
 obtain ⟨A7, c7, rfl, -, -⟩ := own_sl hown
 obtain ⟨gL', cL', S', h1, h2, h3, h4, h5⟩ := hD.inner hi hT hown hinv
 rw [hg] at h1
 injection h1 with h1
 injection h1 with h1 h1b h1c
 injection h1 with h1
 injection h1 with h1
 subst h1
 exact ⟨A7, c7, S', rfl, h2, h3, h4, h5⟩
theorem putD_ok (t : Nat) (S : List Nat) (st : StI) (port : Int) (a : AdI) (ha : N64 a.2.1 ∧ N64 a.2.2) (bits : Int) (hth : thereI st port = true) (hok : adOk st port a bits = true) (hf : ¬ 8 ≤ (locI st port).length) (w : World) (h : IfD w t S st) :
  Calls Tryz.prog 92 #[.pointer (some ⟨t, 0, none⟩), .int .i64 port, adV a, .int .i64 bits] w fun e w' => e = .returned (.int .i64 (putI st port a bits).2) ∧ ∃ S', IfD w' t S' (putI st port a bits).1 ∧ Goes w w' S S' := by
 have hE : putI st port a bits = ((st.1, st.2.modify (idxI port) fun l => l ++ [(a, bits)]), 0) := by unfold putI; rw [if_neg (by rw [hth]; simp), if_neg (by rw [hok]; simp), if_neg hf]
 have hinv := h.inv.put port a bits ha
 obtain ⟨p0, l0, -, hl0, -, -, hlt0, -⟩ := locI_at h.inv hth
 rw [hE, modify_set hl0] at hinv ⊢
 have HIx := lH (And.intro hl0 hlt0)
 clear hl0 hlt0
 unfold adOk at hok
 simp only [Bool.and_eq_true, Bool.or_eq_true, decide_eq_true_eq, Bool.not_eq_true', Bool.and_eq_false_iff, decide_eq_false_iff_not] at hok
 obtain ⟨⟨⟨hc, ⟨hb, hb2⟩⟩, hmi⟩, hsx⟩ := hok
 have HInv := lH hinv
 have HS0 := lH h
 have HMi := lH (fun W h => mineD t S st a W h)
 obtain ⟨s, ah, al⟩ := a
 have ha : N64 ah ∧ N64 al := ha
 obtain ⟨c, hcv⟩ : ∃ c, clsV s (ah : Int) (al : Int) = c := ⟨_, rfl⟩
 have hc1 : c = 2 ∨ c = 5 := by rw [← hcv]; exact hc
 have HC := lH (fun W => rclass_at s (ah : Int) (al : Int) (by unfold U6; have := ha.1; unfold N64 at this; omega) (by unfold U6; have := ha.2; unfold N64 at this; omega) hcv W)
 have HWd := lH (fun W => rwidth_at s (ah : Int) (al : Int) (wd s : Int) rfl W)
 obtain ⟨xb, hxb⟩ : ∃ xb, w.heap.size = xb := ⟨_, rfl⟩
 obtain ⟨W0, hW0⟩ : ∃ W, w.alloc (.cells #[.bool s, .int .u64 (ah : Int), .int .u64 (al : Int)] 28) = W := ⟨_, rfl⟩
 have hX : Blk W0 xb 28 #[.bool s, .int .u64 (ah : Int), .int .u64 (al : Int)] := hW0 ▸ hxb ▸ Blk.new _ _ _
 have x0 := (hX.cell 0).trans (show _ = some (Value.bool s) by rfl)
 have x1 := (hX.cell 1).trans (show _ = some (Value.int .u64 (ah : Int)) by rfl)
 have x2 := (hX.cell 2).trans (show _ = some (Value.int .u64 (al : Int)) by rfl)
 have HT0 : Hid (Tch w W0 []) := lH (hW0 ▸ (Tch.refl w []).alloc _)
 have hD0 := h.tch HT0.out (by simp)
 have HD0 := lH hD0
 have HTh := lH (there_any t S st port W0 hD0)
 have HW0 := lH (And.intro hW0 hxb)
 have HX := lH hX
 rw [hth] at HTh
 have HTt := lH hth
 have hb2 : bits ≤ (wd s : Int) := hb2
 rw [show mineI st.2 (s, ah, al) = 0 from hmi] at HMi
 have l8 : ¬ (8 : Int) ≤ ((locI st port).length : Int) := by omega
 have hs : s = false ∨ (s = true ∧ 1280 ≤ mtuI st port) := by cases s with | false => exact .inl rfl | true => exact .inr ⟨rfl, by rcases hsx with h | h; cases h; omega⟩
 have HXb : Hid (w.heap.size ≤ xb) := lH (by omega)
 clear hW0 hxb h hth hX ha hcv hc hD0 hf hsx hmi hinv hE
 have hcc : ∀ c : Int, c = 2 ∨ c = 5 → (c != 2 && c != 5) = false := by rintro c (rfl | rfl) <;> rfl
 have bc := hcc c hc1
 clear hcc
 rcases hc1 with rfl | rfl <;> clear bc
 all_goals
  go_enter Tryz.func92, Tryz.ntmps92
  go_wp2_with fail
  rw [HW0.out.1, HW0.out.2]
  refine cZm HTh.out ?_
  rintro e w' ⟨rfl, rfl⟩
  go_wp2_with fail
  refine cZm (HC.out _) ?_
  rintro e w1 ⟨rfl, hb1⟩
  have hT1 := Tch.of_below [] hb1
  have hB1 := hT1.blk HX.out (by simp)
  have y0 := (hB1.cell 0).trans (show _ = some (Value.bool s) by rfl)
  have y1 := (hB1.cell 1).trans (show _ = some (Value.int .u64 (ah : Int)) by rfl)
  have y2 := (hB1.cell 2).trans (show _ = some (Value.int .u64 (al : Int)) by rfl)
  have HT1 := lH (HT0.out.trans_fre hT1 (by simp))
  have HX1 := lH hB1
  have HD1 := lH (HD0.out.tch hT1 (by simp))
  clear hB1 hb1 hT1 x0 x1 x2
  go_wp2_with fail
  refine cZm (HWd.out _) ?_
  rintro e w2 ⟨rfl, hb2⟩
  have hT2 := Tch.of_below [] hb2
  have hB2 := hT2.blk HX1.out (by simp)
  have z0 := (hB2.cell 0).trans (show _ = some (Value.bool s) by rfl)
  have z1 := (hB2.cell 1).trans (show _ = some (Value.int .u64 (ah : Int)) by rfl)
  have z2 := (hB2.cell 2).trans (show _ = some (Value.int .u64 (al : Int)) by rfl)
  have HT2 := lH (HT1.out.trans_fre hT2 (by simp))
  have HX2 := lH hB2
  have HD2 := lH (HD1.out.tch hT2 (by simp))
  clear hB2 hb2 hT2 y0 y1 y2
  go_wp2_with fail
  refine cZm (HMi.out _ HD2.out) ?_
  rintro e w3 ⟨rfl, hT3⟩
  have hB3 := hT3.blk HX2.out (by simp)
  have v0 := (hB3.cell 0).trans (show _ = some (Value.bool s) by rfl)
  have v1 := (hB3.cell 1).trans (show _ = some (Value.int .u64 (ah : Int)) by rfl)
  have v2 := (hB3.cell 2).trans (show _ = some (Value.int .u64 (al : Int)) by rfl)
  have HX3 := lH hB3
  have HT3 := lH (HT2.out.trans_fre hT3 (by simp))
  have HD3 := lH (HD2.out.tch hT3 (by simp))
  obtain ⟨gP, cP, gL, cL, A, c, n, i, r0, r1, r2, r3, r4, r5, r6⟩ := HD3.out.reads HTt.out
  obtain ⟨gL', cL', A', c', n', i', l, q1, q2, q3, q4, q5, q6, q7, q8, q9, q10, q11, q12, q13⟩ := HD3.out.row HTt.out
  rw [r2] at q1
  injection q1 with q1
  injection q1 with q1a q1b q1c
  injection q1a with q1a
  injection q1a with q1a
  subst q1a q1b q1c
  rw [r4] at q4
  obtain rfl : i = i' := by omega
  rw [r3] at q2
  injection q2 with q2
  injection q2 with q2a q2b q2c
  subst q2a q2c
  clear hB3 hT3 z0 z1 z2 q4
  have i0 : (0 : Int) ≤ (i : Int) := by omega
  have i1 : (i : Int) < (n : Int) := by omega
  rw [q7] at l8 r3
  obtain rfl : l0 = l := by have := HIx.out.1; rw [q9, q8] at this; injection this with this; exact this.symm
  have HIdx := lH q9
  have HIx2 : Hid (i < st.1.length ∧ InvI (st.1, st.2.set i (l0 ++ [((s, ah, al), bits)]))) := lH (by have h1 := HInv.out; rw [q9] at h1; exact ⟨by omega, h1⟩)
  have HLt := lH (And.intro q11 q12)
  obtain ⟨m, hm⟩ : ∃ m, l0.length = m := ⟨_, rfl⟩
  have HM := lH hm
  rw [hm] at l8 r3 q3
  have HO3 := lH q3
  have HFz := lH q13
  clear q3 q5 q6 q7 q8 q9 q10 q11 q12 q13 hm q2b
  have HNil : Hid (w3.ownsRow w3.heap.size 202 4 (.slice none 0 0) 0 []) := lH ⟨rfl, .inl ⟨rfl, rfl⟩⟩
  have HSz : Hid (0 + m ≤ 1000000) := lH (by omega)
  rcases hs with rfl | ⟨rfl, m1⟩
  ·skip
   go_wp2_with (at_builtin; (refine wpList_apm 132 202 (.agg #[.bool false, .int .u64 0, .int .u64 0, .int .i64 0]) 4 32 Tryz.underlying132 infoLc rfl (by decide) (by decide) w3 rfl (.tmp 65) (.tmp 73) rfl w3.heap.size (.slice none 0 0) 0 [] rfl HNil.out 0 (.slice A m c) m (l0.flatMap lcC) rfl HO3.out (lcC_one l0) HSz.out (Nat.le_refl _) ?_; intro v9 w5 hown hg hv; have hT5 : Tch w3 w5 [] := Tch.of_grown' hg (fun g e => by cases e); have hX5 := hT5.blk HX3.out (by simp); have e0 := (hX5.cell 0).trans (show _ = some (Value.bool false) by rfl); have e1 := (hX5.cell 1).trans (show _ = some (Value.int .u64 (ah : Int)) by rfl); have e2 := (hX5.cell 2).trans (show _ = some (Value.int .u64 (al : Int)) by rfl); have e3 := (hT5.cell (p := ⟨t, 1, none⟩) HLt.out.1 (by simp)).trans r2; have HT5 := lH hT5; have HO5 := lH hown; have HX5 := lH hX5; clear hown hg hv hX5 hT5))
   have HO6 : Hid ((w5.drew.alloc (.cells #[.bool false, .int .u64 (ah : Int), .int .u64 (al : Int), .int .i64 bits] 202)).ownsRow w3.heap.size 202 4 v9 (0 + m) ([] ++ l0.flatMap lcC)) := lH (HO5.out.drew.alloc _)
   have e4 : (w5.alloc (.cells #[.bool false, .int .u64 (ah : Int), .int .u64 (al : Int), .int .i64 bits] 202)).cell? ⟨t, 1, none⟩ = some (.slice (some ⟨gL, 0, none⟩) n cL) := Lib.cell?_alloc_some _ e3
   have HSr := lH (src_new w5.drew 202 [.bool false, .int .u64 (ah : Int), .int .u64 (al : Int), .int .i64 bits])
   have HSz5 : Hid (w3.heap.size ≤ (w5.drew.alloc (.cells #[.bool false, .int .u64 (ah : Int), .int .u64 (al : Int), .int .i64 bits] 202)).heap.size) := lH (by have := HT5.out.size; simp; omega)
   go_region_law (refine step_apc 132 202 (.agg #[.bool false, .int .u64 0, .int .u64 0, .int .i64 0]) 4 32 Tryz.underlying132 infoLc rfl (by decide) (by decide) rfl (.tmp 81) (.tmp 85) rfl w3.heap.size v9 (0 + m) ([] ++ l0.flatMap lcC) (by simp [Act.eval]) HO6.out ⟨w5.heap.size, 0, none⟩ 1 [.bool false, .int .u64 (ah : Int), .int .u64 (al : Int), .int .i64 bits] (by simp [Act.eval]) rfl (fun j u hj => HSr.out j u hj) (by simp [Value.oneCell']) HSz.out HSz5.out ?_; intro v7 w7 hown hg hv; have hT37 : Tch w3 w7 [] := HT5.out.drew.trans_ownN (tch_appN hg HO6.out); have g1 := (hT37.cell (p := ⟨t, 1, none⟩) HLt.out.1 (by simp)).trans r2; have hTT := HT3.out.trans_fre hT37 (by simp); have hrw : (l0 ++ [((false, ah, al), bits)]).flatMap lcC = [] ++ l0.flatMap lcC ++ [.bool false, .int .u64 (ah : Int), .int .u64 (al : Int), .int .i64 bits] := (by simp [lcC]); obtain ⟨A7, c7, S', hv7, f7, ⟨u7, k7⟩, hI7, hG7⟩ := inner_end (l' := l0 ++ [((false, ah, al), bits)]) (k := 0 + m + 1) HS0.out hTT HIx2.out.1 HIx2.out.2 g1 (by simp [HM.out]) (by rw [hrw]; exact own_mono hown HT3.out.size); subst hv7; rw [Nat.zero_add] at hI7 hG7; have HI7 := lH hI7; have HG7 := lH hG7; clear hTT hT37 hrw hI7 hG7 hown hg hv)
   all_goals
    go_wp2
    exact bodyPost_ret (v := .int .i64 0) (by simp [results, Tryz.results92, go_sem]) rfl ⟨rfl, S', by rw [HIdx.out]; exact HI7.out, HG7.out⟩
  ·skip
   go_wp2_with (at_builtin; (refine wpList_apm 132 202 (.agg #[.bool false, .int .u64 0, .int .u64 0, .int .i64 0]) 4 32 Tryz.underlying132 infoLc rfl (by decide) (by decide) w3 rfl (.tmp 65) (.tmp 73) rfl w3.heap.size (.slice none 0 0) 0 [] rfl HNil.out 0 (.slice A m c) m (l0.flatMap lcC) rfl HO3.out (lcC_one l0) HSz.out (Nat.le_refl _) ?_; intro v9 w5 hown hg hv; have hT5 : Tch w3 w5 [] := Tch.of_grown' hg (fun g e => by cases e); have hX5 := hT5.blk HX3.out (by simp); have e0 := (hX5.cell 0).trans (show _ = some (Value.bool true) by rfl); have e1 := (hX5.cell 1).trans (show _ = some (Value.int .u64 (ah : Int)) by rfl); have e2 := (hX5.cell 2).trans (show _ = some (Value.int .u64 (al : Int)) by rfl); have e3 := (hT5.cell (p := ⟨t, 1, none⟩) HLt.out.1 (by simp)).trans r2; have HT5 := lH hT5; have HO5 := lH hown; have HX5 := lH hX5; clear hown hg hv hX5 hT5))
   have HO6 : Hid ((w5.drew.alloc (.cells #[.bool true, .int .u64 (ah : Int), .int .u64 (al : Int), .int .i64 bits] 202)).ownsRow w3.heap.size 202 4 v9 (0 + m) ([] ++ l0.flatMap lcC)) := lH (HO5.out.drew.alloc _)
   have e4 : (w5.alloc (.cells #[.bool true, .int .u64 (ah : Int), .int .u64 (al : Int), .int .i64 bits] 202)).cell? ⟨t, 1, none⟩ = some (.slice (some ⟨gL, 0, none⟩) n cL) := Lib.cell?_alloc_some _ e3
   have HSr := lH (src_new w5.drew 202 [.bool true, .int .u64 (ah : Int), .int .u64 (al : Int), .int .i64 bits])
   have HSz5 : Hid (w3.heap.size ≤ (w5.drew.alloc (.cells #[.bool true, .int .u64 (ah : Int), .int .u64 (al : Int), .int .i64 bits] 202)).heap.size) := lH (by have := HT5.out.size; simp; omega)
   go_region_law (refine step_apc 132 202 (.agg #[.bool false, .int .u64 0, .int .u64 0, .int .i64 0]) 4 32 Tryz.underlying132 infoLc rfl (by decide) (by decide) rfl (.tmp 81) (.tmp 85) rfl w3.heap.size v9 (0 + m) ([] ++ l0.flatMap lcC) (by simp [Act.eval]) HO6.out ⟨w5.heap.size, 0, none⟩ 1 [.bool true, .int .u64 (ah : Int), .int .u64 (al : Int), .int .i64 bits] (by simp [Act.eval]) rfl (fun j u hj => HSr.out j u hj) (by simp [Value.oneCell']) HSz.out HSz5.out ?_; intro v7 w7 hown hg hv; have hT37 : Tch w3 w7 [] := HT5.out.drew.trans_ownN (tch_appN hg HO6.out); have g1 := (hT37.cell (p := ⟨t, 1, none⟩) HLt.out.1 (by simp)).trans r2; have hTT := HT3.out.trans_fre hT37 (by simp); have hrw : (l0 ++ [((true, ah, al), bits)]).flatMap lcC = [] ++ l0.flatMap lcC ++ [.bool true, .int .u64 (ah : Int), .int .u64 (al : Int), .int .i64 bits] := (by simp [lcC]); obtain ⟨A7, c7, S', hv7, f7, ⟨u7, k7⟩, hI7, hG7⟩ := inner_end (l' := l0 ++ [((true, ah, al), bits)]) (k := 0 + m + 1) HS0.out hTT HIx2.out.1 HIx2.out.2 g1 (by simp [HM.out]) (by rw [hrw]; exact own_mono hown HT3.out.size); subst hv7; rw [Nat.zero_add] at hI7 hG7; have HI7 := lH hI7; have HG7 := lH hG7; clear hTT hT37 hrw hI7 hG7 hown hg hv)
   all_goals
    go_wp2
    exact bodyPost_ret (v := .int .i64 0) (by simp [results, Tryz.results92, go_sem]) rfl ⟨rfl, S', by rw [HIdx.out]; exact HI7.out, HG7.out⟩
theorem putD (t : Nat) (S : List Nat) (st : StI) (port : Int) (a : AdI) (ha : N64 a.2.1 ∧ N64 a.2.2) (bits : Int) (w : World) (h : IfD w t S st) :
  Calls Tryz.prog 92 #[.pointer (some ⟨t, 0, none⟩), .int .i64 port, adV a, .int .i64 bits] w fun e w' => e = .returned (.int .i64 (putI st port a bits).2) ∧ ∃ S', IfD w' t S' (putI st port a bits).1 ∧ Goes w w' S S' := by
 by_cases hb : thereI st port = false ∨ adOk st port a bits = false ∨ 8 ≤ (locI st port).length
 ·refine cZm (putD_bad t S st port a ha bits hb w h) ?_
  rintro e w' ⟨rfl, h1, h2⟩
  exact ⟨rfl, S, by rw [h1]; exact h.tch h2 (by simp), Goes.of_tch (h2.mono (by simp))⟩
 ·exact putD_ok t S st port a ha bits (by cases e : thereI st port with | true => rfl | false => exact absurd (.inl e) hb) (by cases e : adOk st port a bits with | true => rfl | false => exact absurd (.inr (.inl e)) hb) (fun x => hb (.inr (.inr x))) w h
end Go.Proofs.YtgfkmgbcajdcdaaGreatDoor.Ifs

namespace Go.Proofs.YtgfkmgbcajdcdaaGreatDoor.Ifs
open Go.RowKit

theorem eq_ad (s s' : Bool) (h l h' l' : Int) (W : World) : (Op.equalIn 10000 28 (.agg #[.bool s, .int .u64 h, .int .u64 l]) (.agg #[.bool s', .int .u64 h', .int .u64 l'])).run Tryz.prog W = .ok (decide (s = s' ∧ h = h' ∧ l = l')) W := by
 by_cases h1 : s = s'
 ·subst h1
  by_cases h2 : h = h'
  ·subst h2
   by_cases h3 : l = l'
   ·subst h3
    go_simp
   ·have h4 : (l == l') = false := by simpa using h3
    rw [show decide (s = s ∧ h = h ∧ l = l') = false by simp [h3]]
    go_simp
  ·have h4 : (h == h') = false := by simpa using h2
   rw [show decide (s = s ∧ h = h' ∧ l = l') = false by simp [h2]]
   go_simp
 ·have h4 : (s == s') = false := by simpa using h1
  rw [show decide (s = s' ∧ h = h' ∧ l = l') = false by simp [h1]]
  go_simp
theorem eq_adI (x y : AdI) {b : Bool} (hb : decide (x = y) = b) (W : World) : (Op.equalIn 10000 28 (.agg #[.bool x.1, .int .u64 (x.2.1 : Int), .int .u64 (x.2.2 : Int)]) (.agg #[.bool y.1, .int .u64 (y.2.1 : Int), .int .u64 (y.2.2 : Int)])).run Tryz.prog W = .ok b W := by
 rw [eq_ad, ← hb]
 obtain ⟨s, h, l⟩ := x
 obtain ⟨s', h', l'⟩ := y
 congr 2
 simp [Prod.ext_iff]
 intro _
 constructor <;> (rintro ⟨h1, h2⟩; constructor <;> omega)
end Go.Proofs.YtgfkmgbcajdcdaaGreatDoor.Ifs

namespace Go.Proofs.YtgfkmgbcajdcdaaGreatDoor.Ifs
open Go.RowKit

def fltI (a : AdI) (l : List Loc) (k : Nat) : List Loc := (l.take k).filter fun x => !isA a x
theorem fltI_yes {a : AdI} {l : List Loc} {k : Nat} {x : Loc} (hx : l[k]? = some x) (h : isA a x = true) : fltI a l (k + 1) = fltI a l k := by
 unfold fltI
 rw [List.take_add_one, hx, List.filter_append]
 simp [h]
theorem fltI_no {a : AdI} {l : List Loc} {k : Nat} {x : Loc} (hx : l[k]? = some x) (h : isA a x = false) : fltI a l (k + 1) = fltI a l k ++ [x] := by
 unfold fltI
 rw [List.take_add_one, hx, List.filter_append]
 simp [h]
theorem fltI_le (a : AdI) (l : List Loc) (k : Nat) : (fltI a l k).length ≤ l.length := by
 unfold fltI
 exact Nat.le_trans (List.length_filter_le _ _) (by simp; omega)
theorem fltI_all (a : AdI) (l : List Loc) : ((l.filter fun x => !isA a x).length = l.length) ↔ l.any (isA a) = false := by
 rw [List.length_filter_eq_length_iff, List.any_eq_false]
 simp
theorem dropD (t : Nat) (S : List Nat) (st : StI) (port : Int) (a : AdI) (w : World) (h : IfD w t S st) :
  Calls Tryz.prog 91 #[.pointer (some ⟨t, 0, none⟩), .int .i64 port, adV a] w fun e w' => e = .returned (.int .i64 (dropI st port a).2) ∧ ∃ S', IfD w' t S' (dropI st port a).1 ∧ Goes w w' S S' := by
 have hinv := h.inv.drop port a
 have HS0 := lH h
 obtain ⟨s, ah, al⟩ := a
 obtain ⟨xb, hxb⟩ : ∃ xb, w.heap.size = xb := ⟨_, rfl⟩
 obtain ⟨W0, hW0⟩ : ∃ W, w.alloc (.cells #[.bool s, .int .u64 (ah : Int), .int .u64 (al : Int)] 28) = W := ⟨_, rfl⟩
 have hX : Blk W0 xb 28 #[.bool s, .int .u64 (ah : Int), .int .u64 (al : Int)] := hW0 ▸ hxb ▸ Blk.new _ _ _
 have HT0 : Hid (Tch w W0 []) := lH (hW0 ▸ (Tch.refl w []).alloc _)
 have hD0 := h.tch HT0.out (by simp)
 have HTh := lH (there_any t S st port W0 hD0)
 have HW0 := lH (And.intro hW0 hxb)
 have HX := lH hX
 clear hW0 hxb h hX
 cases hth : thereI st port with
 | false =>
  rw [hth] at HTh
  have HE : Hid (dropI st port (s, ah, al) = (st, 132)) := lH (by unfold dropI; rw [if_pos hth])
  clear hinv hD0 hth
  go_enter Tryz.func91, Tryz.ntmps91
  go_wp2_with fail
  rw [HW0.out.1, HW0.out.2]
  refine cZm HTh.out ?_
  rintro e w' ⟨rfl, rfl⟩
  go_wp2
  go_ret
  rw [HE.out]
  exact ⟨rfl, S, HS0.out.tch HT0.out (by simp), Goes.of_tch (HT0.out.mono (by simp))⟩
 | true =>
  rw [hth] at HTh
  have HTt := lH hth
  have HD0 := lH hD0
  obtain ⟨gL, cL, A, c, n, i, l, q1, q2, q3, q4, q5, q6, q7, q8, q9, q10, q11, q12, -⟩ := HD0.out.row hth
  have HEa : Hid (l.any (isA (s, ah, al)) = false → dropI st port (s, ah, al) = (st, 132)) := lH (fun e => by unfold dropI; rw [if_neg (by rw [hth]; simp), q7, if_pos e])
  have HEb : Hid (¬ l.any (isA (s, ah, al)) = false → dropI st port (s, ah, al) = ((st.1, st.2.set i (l.filter fun x => !isA (s, ah, al) x)), 0)) := lH (fun e => by unfold dropI; rw [if_neg (by rw [hth]; simp), q7, if_neg e, q9, modify_set q8])
  have HInv := lH hinv
  have HB := lH (show i < st.1.length from by omega)
  obtain ⟨m, hm⟩ : ∃ m, l.length = m := ⟨_, rfl⟩
  have HM := lH hm
  have hl8 : m ≤ 8 := by rw [← hm]; exact HD0.out.inv.loc l (List.mem_of_getElem? q8)
  have i0 : (0 : Int) ≤ (i : Int) := by omega
  have i1 : (i : Int) < (n : Int) := by omega
  rw [hm] at q2 q3
  have hob : ∀ s ∈ obI (.slice A m c), s < W0.heap.size := own_lts q3
  -- what is read of the set in any world behind
  have HRd : Hid (∀ W, Tch W0 W [] → W.cell? ⟨t, 1, none⟩ = some (.slice (some ⟨gL, 0, none⟩) n cL) ∧ W.cell? ⟨gL, i, none⟩ = some (.slice A m c) ∧ W.ownsRow 0 202 4 (.slice A m c) m (l.flatMap lcC) ∧ Blk W xb 28 #[.bool s, .int .u64 (ah : Int), .int .u64 (al : Int)]) := lH (fun W hT =>
   ⟨(hT.cell (p := ⟨t, 1, none⟩) q11 (by simp)).trans q1, (hT.cell (p := ⟨gL, i, none⟩) q12 (by simp)).trans q2, own_tch q3 hT (by simp), hT.blk HX.out (by simp)⟩)
  have HSz0 : Hid (w.heap.size ≤ W0.heap.size) := lH HT0.out.size
  obtain ⟨c1, c2, -, -⟩ := HRd.out W0 (Tch.refl _ _)
  clear hinv hD0 hth q1 q2 q3 q5 q6 q7 q8 q9 q10 q11 q12 hm hob
  go_enter Tryz.func91, Tryz.ntmps91
  go_wp2_with fail
  rw [HW0.out.1, HW0.out.2]
  refine cZm HTh.out ?_
  rintro e w' ⟨rfl, rfl⟩
  go_wp2
  go_loopw [7, 8] (fun ov kv wr => ∃ (k f : Nat) (A1 : Option Addr) (cc : Nat), ov = .slice A1 f cc ∧ kv = .int .i64 (k : Int) ∧ k ≤ m ∧ f ≤ m ∧ Hid ((fltI (s, ah, al) l k).length = f) ∧ Hid (wr.ownsRow W0.heap.size 202 4 (.slice A1 f cc) f ((fltI (s, ah, al) l k).flatMap lcC)) ∧ Hid (Tch W0 wr [])) (fun _ kv _ => m - (intOf kv).toNat)
  case atStart => exact ⟨0, 0, none, 0, rfl, rfl, Nat.zero_le _, Nat.zero_le _, lH rfl, lH ⟨rfl, .inl ⟨rfl, rfl⟩⟩, lH (Tch.refl _ _)⟩
  case round =>
   obtain ⟨k, f, A1, cc, rfl, rfl, hk, hf, hF, hO, hT⟩ := hrel
   obtain ⟨d1, d2, d3, d4⟩ := HRd.out wr hT.out
   have k1 : IntKind.i64.wrap ((k : Int) + 1) = (k : Int) + 1 := by rw [IntKind.wrap_i64]; omega
   by_cases hkm : k < m
   ·have kI : (k : Int) < (m : Int) := by omega
    have k0 : (0 : Int) ≤ (k : Int) := by omega
    obtain ⟨x, hx⟩ : ∃ x, l[k]? = some x := ⟨_, List.getElem?_eq_getElem (by rw [HM.out]; exact hkm)⟩
    obtain ⟨gx, rfl⟩ := slice_some d3 (by omega)
    have hxa : isA (s, ah, al) x = decide (x.1 = (s, ah, al)) := rfl
    have HXA := lH hxa
    obtain ⟨b, hb⟩ : ∃ b, decide (x.1 = (s, ah, al)) = b := ⟨_, rfl⟩
    have HQe := eq_neq 28 _ _ (eq_adI x.1 (s, ah, al) hb)
    have HBb := lH hb
    obtain ⟨⟨xs, xh, xl⟩, xbt⟩ := x
    have HQe : ∀ W, (binOp .neq 28 (.agg #[.bool xs, .int .u64 (xh : Int), .int .u64 (xl : Int)]) (.agg #[.bool s, .int .u64 (ah : Int), .int .u64 (al : Int)])).run Tryz.prog W = .ok (.bool (!b)) W := HQe
    have x0 := own_cellN d3 ((flat4_at (f := lcC) (fun _ => rfl) hx (k := 0) (by decide)).trans (show _ = some (Value.bool xs) by rfl))
    have x1 := own_cellN d3 ((flat4_at (f := lcC) (fun _ => rfl) hx (k := 1) (by decide)).trans (show _ = some (Value.int .u64 (xh : Int)) by rfl))
    have x2 := own_cellN d3 ((flat4_at (f := lcC) (fun _ => rfl) hx (k := 2) (by decide)).trans (show _ = some (Value.int .u64 (xl : Int)) by rfl))
    have x3 := own_cellN d3 ((flat4_at (f := lcC) (fun _ => rfl) hx (k := 3) (by decide)).trans (show _ = some (Value.int .i64 xbt) by rfl))
    have y0 := ((d4.cell 0).trans (show _ = some (Value.bool s) by rfl))
    have y1 := ((d4.cell 1).trans (show _ = some (Value.int .u64 (ah : Int)) by rfl))
    have y2 := ((d4.cell 2).trans (show _ = some (Value.int .u64 (al : Int)) by rfl))
    have HC2 := lH (And.intro d1 (And.intro d2 (And.intro x0 (And.intro x1 (And.intro x2 (And.intro y0 (And.intro y1 y2)))))))
    have Hx := lH hx
    have HX3 := lH x3
    clear hx hb hxa d3 d4 x0 x1 x2 x3 y0 y1 y2
    go_wp2
    refine wp_region_held_drew (S := (fun W => W.cell? ⟨t, 1, none⟩ = some (Value.slice (some ⟨gL, 0, none⟩) n cL) ∧ W.cell? ⟨gL, i, none⟩ = some (Value.slice (some ⟨gx, 0, none⟩) m c) ∧ W.cell? ⟨gx, k * 4, none⟩ = some (Value.bool xs) ∧ W.cell? ⟨gx, k * 4 + 1, none⟩ = some (Value.int .u64 (xh : Int)) ∧ W.cell? ⟨gx, k * 4 + 2, none⟩ = some (Value.int .u64 (xl : Int)) ∧ W.cell? ⟨xb, 0, none⟩ = some (Value.bool s) ∧ W.cell? ⟨xb, 1, none⟩ = some (Value.int .u64 (ah : Int)) ∧ W.cell? ⟨xb, 2, none⟩ = some (Value.int .u64 (al : Int)))) (by kernel_rfl) ?_ (fun hHeld => ?_)
    ·(exact HC2.out)
    refine tkH 0 ?_
    refine tkH 1 ?_
    refine tkH 2 ?_
    refine tkH 3 ?_
    refine tkH 4 ?_
    refine tkH 5 ?_
    refine tkH 6 ?_
    refine tkH 7 ?_
    refine tkH 8 ?_
    refine tkH 9 ?_
    refine tkH 10 ?_
    refine tkH 11 ?_
    refine tkH 12 ?_
    refine tkH 13 ?_
    refine wpAnyH_done (by kernel_rfl) ?_ _
    obtain ⟨w4, hw4⟩ : ∃ w4, wr.drew = w4 := ⟨_, rfl⟩
    have HO4 := lH hO.out.drew
    have HT4 := lH hT.out.drew
    rw [hw4] at HO4 HT4 ⊢
    have HC4 := lH (HRd.out w4 HT4.out)
    clear hw4 d1 d2 HC2 HX3 HQe
    obtain ⟨d1, d2, d3, d4⟩ := HC4.out
    cases b with
    | true =>
     have HFl : Hid (fltI (s, ah, al) l (k + 1) = fltI (s, ah, al) l k) := lH (fltI_yes Hx.out (by rw [HXA.out]; exact HBb.out))
     clear d1 d2 d3 d4
     go_wp2
     go_roundw
     case rel => exact ⟨k + 1, f, A1, cc, rfl, by go_num, hkm, hf, by rw [HFl.out]; exact hF, by rw [HFl.out]; exact HO4, HT4⟩
     case measure => simp [intOf]; omega
    | false =>
     have HFl : Hid (fltI (s, ah, al) l (k + 1) = fltI (s, ah, al) l k ++ [((xs, xh, xl), xbt)]) := lH (fltI_no Hx.out (by rw [HXA.out]; exact HBb.out))
     have hfm : f + 1 ≤ m := by have h1 := fltI_le (s, ah, al) l (k + 1); rw [HFl.out, List.length_append, List.length_singleton, hF.out, HM.out] at h1; exact h1
     have x0 : w4.cell? ⟨gx, k * 4, none⟩ = some (Value.bool xs) := own_cellN d3 ((flat4_at (f := lcC) (fun _ => rfl) Hx.out (k := 0) (by decide)).trans (show _ = some (Value.bool xs) by rfl))
     have x1 := own_cellN d3 ((flat4_at (f := lcC) (fun _ => rfl) Hx.out (k := 1) (by decide)).trans (show _ = some (Value.int .u64 (xh : Int)) by rfl))
     have x2 := own_cellN d3 ((flat4_at (f := lcC) (fun _ => rfl) Hx.out (k := 2) (by decide)).trans (show _ = some (Value.int .u64 (xl : Int)) by rfl))
     have x3 := own_cellN d3 ((flat4_at (f := lcC) (fun _ => rfl) Hx.out (k := 3) (by decide)).trans (show _ = some (Value.int .i64 xbt) by rfl))
     have HO5 : Hid ((w4.alloc (.cells #[.bool xs, .int .u64 (xh : Int), .int .u64 (xl : Int), .int .i64 xbt] 202)).ownsRow W0.heap.size 202 4 (.slice A1 f cc) f ((fltI (s, ah, al) l k).flatMap lcC)) := lH (HO4.out.alloc _)
     have HSr := lH (src_new w4 202 [.bool xs, .int .u64 (xh : Int), .int .u64 (xl : Int), .int .i64 xbt])
     have HSz5 : Hid (W0.heap.size ≤ (w4.alloc (.cells #[.bool xs, .int .u64 (xh : Int), .int .u64 (xl : Int), .int .i64 xbt] 202)).heap.size) := lH (by have := HT4.out.size; simp; omega)
     have HSzf : Hid (f ≤ 1000000) := lH (by omega)
     clear d3 d4
     go_wp2_with (at_builtin; (refine wpList_apc 132 202 (.agg #[.bool false, .int .u64 0, .int .u64 0, .int .i64 0]) 4 32 Tryz.underlying132 infoLc rfl (by decide) (by decide) _ rfl (.tmp 40) (.tmp 52) rfl W0.heap.size (.slice A1 f cc) f ((fltI (s, ah, al) l k).flatMap lcC) rfl HO5.out ⟨w4.heap.size, 0, none⟩ 1 [.bool xs, .int .u64 (xh : Int), .int .u64 (xl : Int), .int .i64 xbt] rfl rfl (fun j u hj => HSr.out j u hj) (by simp [Value.oneCell']) HSzf.out HSz5.out ?_; intro v7 w7 hown hg hv; obtain ⟨A7, c7, e7, -, -⟩ := own_sl hown; subst e7; have HO7 := lH hown; have HT7 := lH (HT4.out.trans_ownN (tch_appN hg HO5.out)); clear hown hg hv))
     go_roundw
     case rel => exact ⟨k + 1, f + 1, A7, c7, rfl, by go_num, hkm, hfm, lH (by rw [HFl.out, List.length_append, hF.out]; rfl), lH (by rw [HFl.out, List.flatMap_append]; exact HO7.out), HT7⟩
     case measure => simp [intOf]; omega
   ·obtain rfl : k = m := by omega
    have kI : ¬ (k : Int) < (k : Int) := by omega
    have hal : fltI (s, ah, al) l k = l.filter fun x => !isA (s, ah, al) x := by unfold fltI; rw [List.take_of_length_le (Nat.le_of_eq HM.out)]
    have hiff := fltI_all (s, ah, al) l
    rw [← hal, hF.out, HM.out] at hiff
    by_cases hany : l.any (isA (s, ah, al)) = false
    ·have HE := lH (HEa.out hany)
     have hfk : f = k := hiff.2 hany
     subst hfk
     have be : ((f : Int) == (f : Int)) = true := by simp
     clear hkm hk hal hiff hany d3 d4
     go_wp2
     go_ret
     rw [HE.out]
     exact ⟨rfl, S, HS0.out.tch (HT0.out.trans hT.out) (by simp), Goes.of_tch ((HT0.out.trans hT.out).mono (by simp))⟩
    ·have HE := lH (HEb.out hany)
     have hfk : f ≠ k := fun e => hany (hiff.1 e)
     have be : ((f : Int) == (k : Int)) = false := by simp; omega
     have HTT := lH (HT0.out.trans hT.out)
     obtain ⟨A7, c7, S', hv7, f7, ⟨u7, k7⟩, hI7, hG7⟩ := inner_end (i := i) (k := f) (l' := fltI (s, ah, al) l k) HS0.out HTT.out HB.out (by have h1 := HInv.out; rw [HE.out, ← hal] at h1; exact h1) d1 hF.out (own_mono hO.out HSz0.out)
     injection hv7 with e1 e2 e3
     subst e1 e3
     rw [hal] at hI7
     have HI7 := lH hI7
     have HG7 := lH hG7
     clear hkm hk hal hiff hany d3 d4 hfk hI7 hG7 hF hO
     go_wp2
     go_ret
     rw [HE.out]
     exact ⟨rfl, S', HI7.out, HG7.out⟩
end Go.Proofs.YtgfkmgbcajdcdaaGreatDoor.Ifs

namespace Go.Proofs.YtgfkmgbcajdcdaaGreatDoor
open Go.RowKit Ifs

def okX (x : PaI) : Prop := (x.2.2.2.2 = true → x.2.2.2.1 = 0 ∧ x.2.2.1 = zeroA) ∧ 0 ≤ x.2.2.2.1
theorem okX_of {p : PfI} {x : PaI} (hr : rightI p x = true) : okX x := by
 unfold rightI at hr
 split at hr
 ·cases hr
 ·split at hr
  ·rename_i h1 h2
   have h3 : x.2.2.2.1 = 0 ∧ x.2.2.1 = zeroA := by simpa using hr
   exact ⟨fun _ => h3, by omega⟩
  ·rename_i h1 h2
   refine ⟨fun h => absurd h h2, ?_⟩
   split at hr
   ·omega
   ·have h3 : 1 ≤ x.2.2.2.1 := by
     rw [Bool.and_eq_true, decide_eq_true_eq] at hr
     exact hr.1
    omega
theorem InvR.okX {L : List TdI} (hI : InvR L) : ∀ u ∈ L, okX u.2 := fun u hu => okX_of (hI.ok u hu).right
theorem dpath_any (t p : Nat) (S T : List Nat) (L : List TdI) (st : StI) (q : PfI) (hL : L.length ≤ 1000) (hI : InvR L) (w : World) (h : RbD w t S L) (k : IfD w p T st) :
  Calls Tryz.prog 15 #[ptrV t, ptrV p, pfR q] w fun e w' => e = .returned (bestV (pathI L st q)) ∧ Tch w w' [] := by
 have HPt := lH (fun W (hT : Tch w W []) => pathsD t S L hL q W (h.tch hT (by simp)))
 have HPo := lH (fun po W (hT : Tch w W []) => portD p T st po W (k.tch hT (by simp)))
 have HOk : Hid (∀ x ∈ pathsI L q, okX x) := lH (fun x hx => hI.okX _ (pathsI_mem.1 hx))
 have hn4 : (pathsI L q).length ≤ 1000 := Nat.le_trans (pathsI_le L q) hL
 have HE : Hid (pathI L st q = (pathsI L q).find? (stdI st)) := lH rfl
 obtain ⟨l, hl⟩ : ∃ l, pathsI L q = l := ⟨_, rfl⟩
 rw [hl] at HPt HOk hn4 HE
 obtain ⟨n, hn⟩ : ∃ n, l.length = n := ⟨_, rfl⟩
 rw [hn] at HPt hn4
 have HN := lH hn
 obtain ⟨o, ho⟩ : ∃ o, pathI L st q = o := ⟨_, rfl⟩
 rw [ho] at HE ⊢
 obtain ⟨⟨qs, qh, ql⟩, qb⟩ := q
 obtain ⟨xb, hxb⟩ : ∃ xb, w.heap.size = xb := ⟨_, rfl⟩
 obtain ⟨W1, hW1⟩ : ∃ W, w.alloc (.cells #[.bool qs, .int .u64 (qh : Int), .int .u64 (ql : Int), .int .i64 qb] 30) = W := ⟨_, rfl⟩
 obtain ⟨rb, hrb⟩ : ∃ rb, xb + 1 = rb := ⟨_, rfl⟩
 obtain ⟨W0, hW0⟩ : ∃ W, W1.alloc (.cells #[.int .i64 0, .int .i64 0, .bool false, .int .u64 0, .int .u64 0, .int .i64 0, .bool false] 49) = W := ⟨_, rfl⟩
 have z1 : W1.heap.size = rb := by rw [← hW1, zA, hxb, hrb]
 have hT0 : Tch w W0 [] := hW0 ▸ hW1 ▸ (((Tch.refl w []).alloc _).alloc _)
 have hX : Blk W0 xb 30 #[.bool qs, .int .u64 (qh : Int), .int .u64 (ql : Int), .int .i64 qb] := hW0 ▸ hW1 ▸ hxb ▸ ((Blk.new w _ _).alloc _)
 have hR : Blk W0 rb 49 #[.int .i64 0, .int .i64 0, .bool false, .int .u64 0, .int .u64 0, .int .i64 0, .bool false] := hW0 ▸ z1 ▸ (Blk.new W1 _ _)
 have HR := lH (fun W (hT : Tch W0 W []) => hT.blk hR (by simp))
 have HT0 := lH hT0
 have HW0 : Hid ((w.alloc (.cells #[.bool qs, .int .u64 (qh : Int), .int .u64 (ql : Int), .int .i64 qb] 30)).alloc (.cells #[.int .i64 0, .int .i64 0, .bool false, .int .u64 0, .int .u64 0, .int .i64 0, .bool false] 49) = W0) := lH (by rw [hW1, hW0])
 have HSz : Hid (w.heap.size = xb ∧ xb + 1 = rb) := lH (by omega)
 obtain ⟨x0, x1, x2, x3⟩ := hX.c4
 clear h k hl hn ho hxb hrb hW1 hW0 z1 hT0 hX hR hI hL
 go_enter Tryz.func15, Tryz.ntmps15
 go_wp2_with fail
 rw [HW0.out, HSz.out.1, HSz.out.2]
 refine cZm (HPt.out W0 HT0.out) ?_
 rintro e w1 ⟨A, c, rfl, ho, hT1⟩
 have HOw := lH (own_mono ho (Nat.zero_le _))
 have HT1 := lH hT1
 have HN4 := lH hn4
 clear ho hT1 x0 x1 x2 x3 hn4
 go_wp2
 go_loopw [9] (fun iv wr => ∃ i : Nat, iv = .int .i64 (i : Int) ∧ i ≤ n ∧ Hid (∀ y ∈ l.take i, stdI st y = false) ∧ Hid (Tch w1 wr [])) (fun iv _ => n - (intOf iv).toNat)
 case atStart => exact ⟨0, rfl, Nat.zero_le _, lH (by simp), lH (Tch.refl _ _)⟩
 case round =>
  obtain ⟨i, rfl, hi, hno, hT⟩ := hrel
  by_cases hin : i < n
  ·have iI : (i : Int) < (n : Int) := by omega
   have i0 : (0 : Int) ≤ (i : Int) := by omega
   have i1 : IntKind.i64.wrap ((i : Int) + 1) = (i : Int) + 1 := by have := HN4.out; rw [IntKind.wrap_i64]; omega
   obtain ⟨x, hx⟩ : ∃ x, l[i]? = some x := ⟨_, List.getElem?_eq_getElem (by rw [HN.out]; exact hin)⟩
   have HX := lH hx
   have HOx := lH (HOk.out x (List.mem_of_getElem? hx))
   have ho2 := own_tch HOw.out hT.out (by simp)
   obtain ⟨g, rfl⟩ := slice_some ho2 (by omega)
   obtain ⟨y0, y1, y2, y3, y4, y5, y6⟩ := pa_cells ho2 hx
   have HCs := lH (fun W (hW : Tch wr W []) => pa_cells (own_tch ho2 hW (by simp)) hx)
   have HTw := lH (HT0.out.trans (HT1.out.trans hT.out))
   have HS := lH (fun W (hW : Tch w W []) => HPo.out x.2.2.2.1 W hW)
   obtain ⟨pr, me, ⟨vs, vh, vl⟩, po, aw⟩ := x
   obtain ⟨th, hth⟩ : ∃ th, thereI st po = th := ⟨_, rfl⟩
   obtain ⟨⟨qn, qm, qt, qu⟩, hqq⟩ : ∃ q, portI st po = q := ⟨_, rfl⟩
   have HB : Hid (stdI st (pr, me, (vs, vh, vl), po, aw) = (decide (po = 0) || (th && qu))) := lH (by unfold stdI upI; simp only [hth, hqq])
   simp only [hth, hqq, prC] at HS
   clear hx ho2 hth hqq
   go_wp2_with fail
   refine cZm (HS.out wr HTw.out) ?_
   rintro e w4 ⟨rfl, hT4⟩
   obtain ⟨vb, hvb⟩ : ∃ vb, w4.heap.size = vb := ⟨_, rfl⟩
   obtain ⟨W3, hW3⟩ : ∃ W, w4.alloc (.cells #[.string qn, .int .u64 qm, .int .i64 qt, .bool qu] 74) = W := ⟨_, rfl⟩
   have hT3 : Tch wr W3 [] := hT4.trans (hW3 ▸ (Tch.refl w4 []).alloc _)
   have hP3 : Blk W3 vb 74 #[.string qn, .int .u64 qm, .int .i64 qt, .bool qu] := hW3 ▸ hvb ▸ Blk.new w4 _ _
   have u3 := (hP3.cell 3).trans (show _ = some (Value.bool qu) by rfl)
   have HTr : Hid (Tch w1 W3 []) := lH (hT.out.trans hT3)
   have HR4 := lH (HR.out W3 (HT1.out.trans HTr.out))
   have HT4 : Hid (Tch w W3 []) := lH (HTw.out.trans hT3)
   clear hT4 y0 y1 y2 y3 y4 y5 y6 hP3
   obtain ⟨y0, y1, y2, y3, y4, y5, y6⟩ := HCs.out W3 hT3
   have HW3 := lH (And.intro hW3 hvb)
   rw [← hW3] at y0 y1 y2 y3 y4 y5 y6 u3 HR4 HT4 HTr
   rw [← hvb] at u3
   clear hT3 hW3 hvb
   obtain ⟨b, hb⟩ : ∃ b, (decide (po = 0) || (th && qu)) = b := ⟨_, rfl⟩
   rw [hb] at HB
   have hways : (aw = true ∧ b = true) ∨ (aw = false ∧ po = 0 ∧ b = true) ∨ (aw = false ∧ ¬ po = 0 ∧ th = true ∧ qu = true ∧ b = true) ∨ (aw = false ∧ ¬ po = 0 ∧ th = true ∧ qu = false ∧ b = false) ∨ (aw = false ∧ ¬ po = 0 ∧ th = false ∧ b = false) := by
    have h1 := HOx.out.1
    simp only at h1
    by_cases h2 : po = 0
    ·subst h2
     cases aw <;> simp at hb ⊢ <;> simp [← hb]
    ·cases aw with
     | true => exact absurd (h1 rfl).1 h2
     | false => cases th <;> cases qu <;> simp [h2] at hb ⊢ <;> simp [← hb]
   clear hb
   rcases hways with ⟨rfl, rfl⟩ | ⟨rfl, rfl, rfl⟩ | ⟨rfl, hpo, rfl, rfl, rfl⟩ | ⟨rfl, hpo, rfl, rfl, rfl⟩ | ⟨rfl, hpo, rfl, rfl⟩
   ·clear HOx
    have HO : Hid (o = some (pr, me, (vs, vh, vl), po, true)) := lH (by rw [HE.out]; exact find_at HX.out HB.out hno.out)
    go_wp2_with (refine wpList_sta rfl 49 (.tmp 6) (.tmp 54) rfl rb 0 #[.int .i64 pr, .int .i64 me, .bool vs, .int .u64 (vh : Int), .int .u64 (vl : Int), .int .i64 po, .bool true] rfl rfl 49 _ HR4.out 7 paSz rfl (show 0 + 7 ≤ 7 from by decide) (by simp [Value.oneCell']) ?_; intro w6 hs6; have HS6 := lH hs6; clear hs6)
    obtain ⟨z0, z1, z2, z3, z4, z5, z6⟩ := (sta_whole HS6.out rfl).p7
    exact bodyPost_ret (v := .tuple #[.agg #[.int .i64 pr, .int .i64 me, .bool vs, .int .u64 (vh : Int), .int .u64 (vl : Int), .int .i64 po, .bool true], .bool true]) (by simp [results, Tryz.results15, go_sem, z0, z1, z2, z3, z4, z5, z6]) rfl ⟨by rw [HO.out]; rfl, HT4.out.trans_fre HS6.out.tch (by simp; have := HSz.out; omega)⟩
   ·clear HOx
    have HO : Hid (o = some (pr, me, (vs, vh, vl), 0, false)) := lH (by rw [HE.out]; exact find_at HX.out HB.out hno.out)
    go_wp2_with (refine wpList_sta rfl 49 (.tmp 6) (.tmp 54) rfl rb 0 #[.int .i64 pr, .int .i64 me, .bool vs, .int .u64 (vh : Int), .int .u64 (vl : Int), .int .i64 0, .bool false] rfl rfl 49 _ HR4.out 7 paSz rfl (show 0 + 7 ≤ 7 from by decide) (by simp [Value.oneCell']) ?_; intro w6 hs6; have HS6 := lH hs6; clear hs6)
    obtain ⟨z0, z1, z2, z3, z4, z5, z6⟩ := (sta_whole HS6.out rfl).p7
    exact bodyPost_ret (v := .tuple #[.agg #[.int .i64 pr, .int .i64 me, .bool vs, .int .u64 (vh : Int), .int .u64 (vl : Int), .int .i64 0, .bool false], .bool true]) (by simp [results, Tryz.results15, go_sem, z0, z1, z2, z3, z4, z5, z6]) rfl ⟨by rw [HO.out]; rfl, HT4.out.trans_fre HS6.out.tch (by simp; have := HSz.out; omega)⟩
   ·clear HOx
    have hpz : (po == 0) = false := by simpa using hpo
    have HO : Hid (o = some (pr, me, (vs, vh, vl), po, false)) := lH (by rw [HE.out]; exact find_at HX.out HB.out hno.out)
    go_wp2_with (refine wpList_sta rfl 49 (.tmp 6) (.tmp 54) rfl rb 0 #[.int .i64 pr, .int .i64 me, .bool vs, .int .u64 (vh : Int), .int .u64 (vl : Int), .int .i64 po, .bool false] rfl rfl 49 _ HR4.out 7 paSz rfl (show 0 + 7 ≤ 7 from by decide) (by simp [Value.oneCell']) ?_; intro w6 hs6; have HS6 := lH hs6; clear hs6)
    obtain ⟨z0, z1, z2, z3, z4, z5, z6⟩ := (sta_whole HS6.out rfl).p7
    exact bodyPost_ret (v := .tuple #[.agg #[.int .i64 pr, .int .i64 me, .bool vs, .int .u64 (vh : Int), .int .u64 (vl : Int), .int .i64 po, .bool false], .bool true]) (by simp [results, Tryz.results15, go_sem, z0, z1, z2, z3, z4, z5, z6]) rfl ⟨by rw [HO.out]; rfl, HT4.out.trans_fre HS6.out.tch (by simp; have := HSz.out; omega)⟩
   ·clear HOx
    have hpz : (po == 0) = false := by simpa using hpo
    go_wp2
    go_roundw
    case rel => exact ⟨i + 1, by go_num, hin, lH (take_more HX.out hno.out HB.out), HTr⟩
    case measure => simp [intOf]; omega
   ·clear HOx
    have hpz : (po == 0) = false := by simpa using hpo
    go_wp2
    go_roundw
    case rel => exact ⟨i + 1, by go_num, hin, lH (take_more HX.out hno.out HB.out), HTr⟩
    case measure => simp [intOf]; omega
  ·have iI : ¬ (i : Int) < (n : Int) := by omega
   have HO : Hid (o = none) := lH (by
    rw [HE.out]
    refine find_no fun y hy => hno.out y ?_
    rw [List.take_of_length_le (by rw [HN.out]; omega)]
    exact hy)
   have HR4 := lH (HR.out wr (HT1.out.trans hT.out))
   have HT4 : Hid (Tch w wr []) := lH (HT0.out.trans (HT1.out.trans hT.out))
   go_wp2_with (refine wpList_sta rfl 49 (.tmp 6) (.tmp 55) rfl rb 0 #[.int .i64 0, .int .i64 0, .bool false, .int .u64 0, .int .u64 0, .int .i64 0, .bool false] rfl rfl 49 _ HR4.out 7 paSz rfl (show 0 + 7 ≤ 7 from by decide) (by simp [Value.oneCell']) ?_; intro w6 hs6; have HS6 := lH hs6; clear hs6)
   obtain ⟨z0, z1, z2, z3, z4, z5, z6⟩ := (sta_whole HS6.out rfl).p7
   exact bodyPost_ret (v := .tuple #[.agg #[.int .i64 0, .int .i64 0, .bool false, .int .u64 0, .int .u64 0, .int .i64 0, .bool false], .bool false]) (by simp [results, Tryz.results15, go_sem, z0, z1, z2, z3, z4, z5, z6]) rfl ⟨by rw [HO.out]; rfl, HT4.out.trans_fre HS6.out.tch (by simp; have := HSz.out; omega)⟩
end Go.Proofs.YtgfkmgbcajdcdaaGreatDoor
