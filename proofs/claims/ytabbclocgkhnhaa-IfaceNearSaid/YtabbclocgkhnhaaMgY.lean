/-
  Several texts in one: IfY, IfZ.
-/
import Derived.Test.YtabbclocgkhnhaaIfX
import Derived.Test.YtabbclocgkhnhaaIfO
import Derived.Deep.RegionLaw
import Derived.Test.YtabbclocgkhnhaaAdq

namespace Go.Proofs.Ytabbclocgkhnhaa
open Go.RowKit
set_option linter.unusedVariables false

/-- 'append' of one element of any size onto a row of the call's own, as a step of a region in an open order. -/
theorem step_apc (tS tE : TypeId) (zv : Value) (sz by_ : Nat) (hu : Try.prog.underlying tS = some (.slice tE)) (hinf : (Try.prog.info? tE).map (fun i => (i.zero, i.size, i.bytes)) = some (some zv, sz, by_)) (hzs : zv.cells.size = sz) (hsz : 0 < sz) (hby : by_ ≤ 1000)
    {ops : Array Oper} {o : Oper} {a : Act} {w : World} {K : Act → World → Prop} {Q : Exit → Act → World → Prop} {E : Prop}
    (hg : o.guard = none) (s x : Operand) (ho : o.op = .call { callee := .builtin .append, args := #[s, x], argTypes := #[tS, tS] })
    (base : Nat) (v : Value) (n : Nat) (xs : List Value) (hs : a.eval s = v) (hown : w.ownsRow base tE sz v n xs)
    (ad : Addr) (c : Nat) (e : List Value) (hx : a.eval x = .slice (some ad) 1 c) (hl : e.length = sz) (hc : ∀ j u, e[j]? = some u → w.cell? (ad.add j) = some u) (h1 : ∀ u ∈ e, u.oneCell' = true)
    (hn : n ≤ 1000000) (hbase : base ≤ w.heap.size)
    (hK : ∀ v' w', w'.ownsRow base tE sz v' (n + 1) (xs ++ e) → w.grownBy w' v.ownBlock → (v'.ownBlock = v.ownBlock ∨ v'.ownBlock = some w.heap.size) → K (a.put o.dst v') w') :
    if Region.wanted o (yielded ops a.tmps) = true then Oper.wp Try.prog o a w K Q else E := by
  have hw : Region.wanted o (yielded ops a.tmps) = true := by simp [Region.wanted, hg]
  rw [if_pos hw]
  obtain ⟨i0, hi, hz0, hz1, hz2⟩ := info_parts hinf
  have hb : (n + 1) * by_ ≤ 1000001 * 1000 := Nat.mul_le_mul (by omega) hby
  obtain ⟨v', w', hrun, r1, r2, -, r4⟩ := run_append_own_at (P := Try.prog) w base tS o.type tE i0 zv sz by_ hu hi hz0 hz1 hz2 hzs hsz v n xs hown ad 1 c e (by rw [hl, Nat.one_mul]) hc h1 (by unfold maxLen; omega) (by omega) hbase
  unfold Oper.wp
  simp [execOp, ho, resolve, invoke, builtin, hs, hx, hrun, Result.andThen]
  exact hK v' w' r1 r2 r4
/-- The row of a port that is there. -/
theorem IfD.row {W : World} {t : Nat} {S : List Nat} {st : StI} {port : Int} (h : IfD W t S st) (ht : thereI st port = true) : ∃ (gL cL : Nat) (A : Option Addr) (c n i : Nat) (l : List Loc), W.cell? ⟨t, 1, none⟩ = some (.slice (some ⟨gL, 0, none⟩) n cL) ∧ W.cell? ⟨gL, i, none⟩ = some (.slice A l.length c) ∧
    W.ownsRow 0 42 4 (.slice A l.length c) l.length (l.flatMap lcC) ∧ IntKind.i64.wrap (port - 1) = (i : Int) ∧ i < n ∧ n ≤ 8 ∧ locI st port = l ∧ st.2[i]? = some l ∧ idxI port = i ∧ n = st.1.length ∧ t < W.heap.size ∧ gL < W.heap.size ∧ W.frozen? ⟨gL, i, none⟩ = false := by
  have hlts := h.lt
  obtain ⟨p, l, hp, hl, hle, hmt, hlt, hpe⟩ := locI_at h.inv ht
  have hf := h.few
  obtain ⟨AP, AL, cP, cL, lv, rfl, h2, h3, h4, h5, h6, h7, h8⟩ := h
  obtain ⟨gL, rfl⟩ := slice_some h5 (by omega)
  obtain ⟨A, c, e, ho⟩ := h7 _ l hl
  refine ⟨gL, cL, A, c, st.1.length, idxI port, l, (h3.cell 1).trans rfl, own_cellN h5 e, ho, ?_, hlt, hf, hle, hl, rfl, rfl, h3.lt, own_lt h5 rfl, own_frozen h5 _⟩
  rw [IntKind.wrap_i64]; omega
theorem modify_set {α : Type} {l : List α} {i : Nat} {x : α} (h : l[i]? = some x) (f : α → α) : l.modify i f = l.set i (f x) := by
  apply List.ext_getElem?
  intro j
  rw [List.getElem?_modify, List.getElem?_set]
  by_cases hj : i = j
  · subst hj
    rw [h]
    have := (List.getElem?_eq_some_iff.1 h).1
    simp [this]
  · rw [if_neg hj]
    cases l[j]? <;> simp [hj]
/-- What an append onto a row of the call's own, made behind B, leaves: everything below B. -/
theorem tch_appN {w w5 : World} {B sz : Nat} {o : Obj} {t : TypeId} {v : Value} {n : Nat} {xs : List Value} (hg : (w.alloc o).grownBy w5 v.ownBlock) (ho : (w.alloc o).ownsRow B t sz v n xs) :
    ∃ S, Tch w w5 S ∧ ∀ s ∈ S, B ≤ s := by
  refine ⟨obI v, ((Tch.refl w _).alloc o).trans (Tch.of_grown' hg (fun g e => by rw [obI_some e]; simp)), fun s hs => ?_⟩
  unfold obI at hs
  cases e : v.ownBlock with
  | none => rw [e] at hs; cases hs
  | some k => rw [e] at hs; rw [List.mem_singleton.1 hs]; exact own_basek ho k e
theorem Tch.trans_ownN {w w' w'' : World} {S : List Nat} (h : Tch w w' S) (ht : ∃ T, Tch w' w'' T ∧ ∀ s ∈ T, w.heap.size ≤ s) : Tch w w'' S := by
  obtain ⟨T, ht, hs⟩ := ht
  exact h.trans_fre ht (fun s hs' => .inr (hs s hs'))
/-- An inner row set anew, as a walk wants it. -/
theorem inner_end {w w7 : World} {t i gL cL n k : Nat} {S : List Nat} {st : StI} {l' : List Loc} {v7 : Value} (hD : IfD w t S st) (hT : Tch w w7 []) (hi : i < st.1.length) (hinv : InvI (st.1, st.2.set i l'))
    (hg : w7.cell? ⟨t, 1, none⟩ = some (.slice (some ⟨gL, 0, none⟩) n cL)) (hk : l'.length = k) (hown : w7.ownsRow w.heap.size 42 4 v7 k (l'.flatMap lcC)) :
    ∃ A7 c7 S', v7 = .slice A7 k c7 ∧ w7.frozen? ⟨gL, i, none⟩ = false ∧ (∃ u, w7.cell? ⟨gL, i, none⟩ = some u) ∧ IfD (w7.setCell ⟨gL, i, none⟩ (.slice A7 k c7)) t S' (st.1, st.2.set i l') ∧ Goes w (w7.setCell ⟨gL, i, none⟩ (.slice A7 k c7)) S S' := by
  subst hk
  obtain ⟨A7, c7, rfl, -, -⟩ := own_sl hown
  obtain ⟨gL', cL', S', h1, h2, h3, h4, h5⟩ := hD.inner hi hT hown hinv
  rw [hg] at h1
  injection h1 with h1
  injection h1 with h1 h1b h1c
  injection h1 with h1
  injection h1 with h1
  subst h1
  exact ⟨A7, c7, S', rfl, h2, h3, h4, h5⟩
set_option maxRecDepth 100000 in
set_option maxHeartbeats 4000000 in
theorem putD_ok (t : Nat) (S : List Nat) (st : StI) (port : Int) (a : AdI) (ha : N64 a.2.1 ∧ N64 a.2.2) (bits : Int) (hth : thereI st port = true) (hok : adOk st port a bits = true) (hf : ¬ 8 ≤ (locI st port).length) (w : World) (h : IfD w t S st) :
    Calls Try.prog 30 #[.pointer (some ⟨t, 0, none⟩), .int .i64 port, adV a, .int .i64 bits] w fun e w' => e = .returned (.int .i64 (putI st port a bits).2) ∧ ∃ S', IfD w' t S' (putI st port a bits).1 ∧ Goes w w' S S' := by
  have hE : putI st port a bits = ((st.1, st.2.modify (idxI port) fun l => l ++ [(a, bits)]), 0) := by unfold putI; rw [if_neg (by rw [hth]; simp), if_neg (by rw [hok]; simp), if_neg hf]
  have hinv := h.inv.put port a bits ha
  obtain ⟨p0, l0, -, hl0, -, -, hlt0, -⟩ := locI_at h.inv hth
  rw [hE, modify_set hl0] at hinv ⊢
  have HIx := Lib.hid (And.intro hl0 hlt0)
  clear hl0 hlt0
  unfold adOk at hok
  simp only [Bool.and_eq_true, Bool.or_eq_true, decide_eq_true_eq, Bool.not_eq_true', Bool.and_eq_false_iff, decide_eq_false_iff_not] at hok
  obtain ⟨⟨⟨hc, ⟨hb, hb2⟩⟩, hmi⟩, hsx⟩ := hok
  have HInv := Lib.hid hinv
  have HS0 := Lib.hid h
  have HMi := Lib.hid (fun W h => mineD t S st a W h)
  obtain ⟨s, ah, al⟩ := a
  have ha : N64 ah ∧ N64 al := ha
  obtain ⟨c, hcv⟩ : ∃ c, clsV s (ah : Int) (al : Int) = c := ⟨_, rfl⟩
  have hc1 : c = 2 ∨ c = 5 := by rw [← hcv]; exact hc
  have HC := Lib.hid (fun W => rclass_at s (ah : Int) (al : Int) (by unfold U6; have := ha.1; unfold N64 at this; omega) (by unfold U6; have := ha.2; unfold N64 at this; omega) hcv W)
  have HWd := Lib.hid (fun W => rwidth_at s (ah : Int) (al : Int) (wd s : Int) rfl W)
  obtain ⟨xb, hxb⟩ : ∃ xb, w.heap.size = xb := ⟨_, rfl⟩
  obtain ⟨W0, hW0⟩ : ∃ W, w.alloc (.cells #[.bool s, .int .u64 (ah : Int), .int .u64 (al : Int)] 34) = W := ⟨_, rfl⟩
  have hX : Blk W0 xb 34 #[.bool s, .int .u64 (ah : Int), .int .u64 (al : Int)] := hW0 ▸ hxb ▸ Blk.new _ _ _
  have x0 := (hX.cell 0).trans (show _ = some (Value.bool s) by rfl)
  have x1 := (hX.cell 1).trans (show _ = some (Value.int .u64 (ah : Int)) by rfl)
  have x2 := (hX.cell 2).trans (show _ = some (Value.int .u64 (al : Int)) by rfl)
  have HT0 : Hid (Tch w W0 []) := Lib.hid (hW0 ▸ (Tch.refl w []).alloc _)
  have hD0 := h.tch HT0.out (by simp)
  have HD0 := Lib.hid hD0
  have HTh := Lib.hid (there_any t S st port W0 hD0)
  have HW0 := Lib.hid (And.intro hW0 hxb)
  have HX := Lib.hid hX
  rw [hth] at HTh
  have HTt := Lib.hid hth
  have hb2 : bits ≤ (wd s : Int) := hb2
  rw [show mineI st.2 (s, ah, al) = 0 from hmi] at HMi
  have l8 : ¬ (8 : Int) ≤ ((locI st port).length : Int) := by omega
  have hs : s = false ∨ (s = true ∧ 1280 ≤ mtuI st port) := by cases s with | false => exact .inl rfl | true => exact .inr ⟨rfl, by rcases hsx with h | h; cases h; omega⟩
  have HXb : Hid (w.heap.size ≤ xb) := Lib.hid (by omega)
  clear hW0 hxb h hth hX ha hcv hc hD0 hf hsx hmi hinv hE
  have hcc : ∀ c : Int, c = 2 ∨ c = 5 → (c != 2 && c != 5) = false := by rintro c (rfl | rfl) <;> rfl
  have bc := hcc c hc1
  clear hcc
  rcases hc1 with rfl | rfl <;> clear bc
  all_goals
    go_enter Try.func30, Try.ntmps30
    go_wp2_with fail
    rw [HW0.out.1, HW0.out.2]
    refine Calls.mono HTh.out ?_
    rintro e w' ⟨rfl, rfl⟩
    go_wp2_with fail
    refine Calls.mono (HC.out _) ?_
    rintro e w1 ⟨rfl, hb1⟩
    have hT1 := Tch.of_below [] hb1
    have hB1 := hT1.blk HX.out (by simp)
    have y0 := (hB1.cell 0).trans (show _ = some (Value.bool s) by rfl)
    have y1 := (hB1.cell 1).trans (show _ = some (Value.int .u64 (ah : Int)) by rfl)
    have y2 := (hB1.cell 2).trans (show _ = some (Value.int .u64 (al : Int)) by rfl)
    have HT1 := Lib.hid (HT0.out.trans_fre hT1 (by simp))
    have HX1 := Lib.hid hB1
    have HD1 := Lib.hid (HD0.out.tch hT1 (by simp))
    clear hB1 hb1 hT1 x0 x1 x2
    go_wp2_with fail
    refine Calls.mono (HWd.out _) ?_
    rintro e w2 ⟨rfl, hb2⟩
    have hT2 := Tch.of_below [] hb2
    have hB2 := hT2.blk HX1.out (by simp)
    have z0 := (hB2.cell 0).trans (show _ = some (Value.bool s) by rfl)
    have z1 := (hB2.cell 1).trans (show _ = some (Value.int .u64 (ah : Int)) by rfl)
    have z2 := (hB2.cell 2).trans (show _ = some (Value.int .u64 (al : Int)) by rfl)
    have HT2 := Lib.hid (HT1.out.trans_fre hT2 (by simp))
    have HX2 := Lib.hid hB2
    have HD2 := Lib.hid (HD1.out.tch hT2 (by simp))
    clear hB2 hb2 hT2 y0 y1 y2
    go_wp2_with fail
    refine Calls.mono (HMi.out _ HD2.out) ?_
    rintro e w3 ⟨rfl, hT3⟩
    have hB3 := hT3.blk HX2.out (by simp)
    have v0 := (hB3.cell 0).trans (show _ = some (Value.bool s) by rfl)
    have v1 := (hB3.cell 1).trans (show _ = some (Value.int .u64 (ah : Int)) by rfl)
    have v2 := (hB3.cell 2).trans (show _ = some (Value.int .u64 (al : Int)) by rfl)
    have HX3 := Lib.hid hB3
    have HT3 := Lib.hid (HT2.out.trans_fre hT3 (by simp))
    have HD3 := Lib.hid (HD2.out.tch hT3 (by simp))
    obtain ⟨gP, cP, gL, cL, A, c, n, i, r0, r1, r2, r3, r4, r5, r6⟩ := HD3.out.reads HTt.out
    obtain ⟨gL', cL', A', c', n', i', l, q1, q2, q3, q4, q5, q6, q7, q8, q9, q10, q11, q12, q13⟩ := HD3.out.row HTt.out
    rw [r2] at q1
    injection q1 with q1
    injection q1 with q1a q1b q1c
    injection q1a with q1a
    injection q1a with q1a
    subst q1a q1b q1c
    rw [r4] at q4
    obtain rfl : i = i' := by omega
    rw [r3] at q2
    injection q2 with q2
    injection q2 with q2a q2b q2c
    subst q2a q2c
    clear hB3 hT3 z0 z1 z2 q4
    have i0 : (0 : Int) ≤ (i : Int) := by omega
    have i1 : (i : Int) < (n : Int) := by omega
    rw [q7] at l8 r3
    obtain rfl : l0 = l := by have := HIx.out.1; rw [q9, q8] at this; injection this with this; exact this.symm
    have HIdx := Lib.hid q9
    have HIx2 : Hid (i < st.1.length ∧ InvI (st.1, st.2.set i (l0 ++ [((s, ah, al), bits)]))) := Lib.hid (by have h1 := HInv.out; rw [q9] at h1; exact ⟨by omega, h1⟩)
    have HLt := Lib.hid (And.intro q11 q12)
    obtain ⟨m, hm⟩ : ∃ m, l0.length = m := ⟨_, rfl⟩
    have HM := Lib.hid hm
    rw [hm] at l8 r3 q3
    have HO3 := Lib.hid q3
    have HFz := Lib.hid q13
    clear q3 q5 q6 q7 q8 q9 q10 q11 q12 q13 hm q2b
    have HNil : Hid (w3.ownsRow w3.heap.size 42 4 (.slice none 0 0) 0 []) := Lib.hid ⟨rfl, .inl ⟨rfl, rfl⟩⟩
    have HSz : Hid (0 + m ≤ 1000000) := Lib.hid (by omega)
    rcases hs with rfl | ⟨rfl, m1⟩
    · skip
      go_wp2_with (at_builtin; (refine wpList_apm 39 42 (.agg #[.bool false, .int .u64 0, .int .u64 0, .int .i64 0]) 4 32 Try.underlying39 infoLc rfl (by decide) (by decide) w3 rfl (.tmp 65) (.tmp 73) rfl w3.heap.size (.slice none 0 0) 0 [] rfl HNil.out 0 (.slice A m c) m (l0.flatMap lcC) rfl HO3.out (lcC_one l0) HSz.out (Nat.le_refl _) ?_; intro v9 w5 hown hg hv; have hT5 : Tch w3 w5 [] := Tch.of_grown' hg (fun g e => by cases e); have hX5 := hT5.blk HX3.out (by simp); have e0 := (hX5.cell 0).trans (show _ = some (Value.bool false) by rfl); have e1 := (hX5.cell 1).trans (show _ = some (Value.int .u64 (ah : Int)) by rfl); have e2 := (hX5.cell 2).trans (show _ = some (Value.int .u64 (al : Int)) by rfl); have e3 := (hT5.cell (p := ⟨t, 1, none⟩) HLt.out.1 (by simp)).trans r2; have HT5 := Lib.hid hT5; have HO5 := Lib.hid hown; have HX5 := Lib.hid hX5; clear hown hg hv hX5 hT5))
      have HO6 : Hid ((w5.drew.alloc (.cells #[.bool false, .int .u64 (ah : Int), .int .u64 (al : Int), .int .i64 bits] 42)).ownsRow w3.heap.size 42 4 v9 (0 + m) ([] ++ l0.flatMap lcC)) := Lib.hid (HO5.out.drew.alloc _)
      have e4 : (w5.alloc (.cells #[.bool false, .int .u64 (ah : Int), .int .u64 (al : Int), .int .i64 bits] 42)).cell? ⟨t, 1, none⟩ = some (.slice (some ⟨gL, 0, none⟩) n cL) := Lib.cell?_alloc_some _ e3
      have HSr := Lib.hid (src_new w5.drew 42 [.bool false, .int .u64 (ah : Int), .int .u64 (al : Int), .int .i64 bits])
      have HSz5 : Hid (w3.heap.size ≤ (w5.drew.alloc (.cells #[.bool false, .int .u64 (ah : Int), .int .u64 (al : Int), .int .i64 bits] 42)).heap.size) := Lib.hid (by have := HT5.out.size; simp; omega)
      go_region_law (refine step_apc 39 42 (.agg #[.bool false, .int .u64 0, .int .u64 0, .int .i64 0]) 4 32 Try.underlying39 infoLc rfl (by decide) (by decide) rfl (.tmp 81) (.tmp 85) rfl w3.heap.size v9 (0 + m) ([] ++ l0.flatMap lcC) (by simp [Act.eval]) HO6.out ⟨w5.heap.size, 0, none⟩ 1 [.bool false, .int .u64 (ah : Int), .int .u64 (al : Int), .int .i64 bits] (by simp [Act.eval]) rfl (fun j u hj => HSr.out j u hj) (by simp [Value.oneCell']) HSz.out HSz5.out ?_; intro v7 w7 hown hg hv; have hT37 : Tch w3 w7 [] := HT5.out.drew.trans_ownN (tch_appN hg HO6.out); have g1 := (hT37.cell (p := ⟨t, 1, none⟩) HLt.out.1 (by simp)).trans r2; have hTT := HT3.out.trans_fre hT37 (by simp); have hrw : (l0 ++ [((false, ah, al), bits)]).flatMap lcC = [] ++ l0.flatMap lcC ++ [.bool false, .int .u64 (ah : Int), .int .u64 (al : Int), .int .i64 bits] := (by simp [lcC]); obtain ⟨A7, c7, S', hv7, f7, ⟨u7, k7⟩, hI7, hG7⟩ := inner_end (l' := l0 ++ [((false, ah, al), bits)]) (k := 0 + m + 1) HS0.out hTT HIx2.out.1 HIx2.out.2 g1 (by simp [HM.out]) (by rw [hrw]; exact own_mono hown HT3.out.size); subst hv7; rw [Nat.zero_add] at hI7 hG7; have HI7 := Lib.hid hI7; have HG7 := Lib.hid hG7; clear hTT hT37 hrw hI7 hG7 hown hg hv)
      all_goals
        go_wp2
        exact bodyPost_ret (v := .int .i64 0) (by simp [results, Try.results30, go_sem]) rfl ⟨rfl, S', by rw [HIdx.out]; exact HI7.out, HG7.out⟩
    · skip
      go_wp2_with (at_builtin; (refine wpList_apm 39 42 (.agg #[.bool false, .int .u64 0, .int .u64 0, .int .i64 0]) 4 32 Try.underlying39 infoLc rfl (by decide) (by decide) w3 rfl (.tmp 65) (.tmp 73) rfl w3.heap.size (.slice none 0 0) 0 [] rfl HNil.out 0 (.slice A m c) m (l0.flatMap lcC) rfl HO3.out (lcC_one l0) HSz.out (Nat.le_refl _) ?_; intro v9 w5 hown hg hv; have hT5 : Tch w3 w5 [] := Tch.of_grown' hg (fun g e => by cases e); have hX5 := hT5.blk HX3.out (by simp); have e0 := (hX5.cell 0).trans (show _ = some (Value.bool true) by rfl); have e1 := (hX5.cell 1).trans (show _ = some (Value.int .u64 (ah : Int)) by rfl); have e2 := (hX5.cell 2).trans (show _ = some (Value.int .u64 (al : Int)) by rfl); have e3 := (hT5.cell (p := ⟨t, 1, none⟩) HLt.out.1 (by simp)).trans r2; have HT5 := Lib.hid hT5; have HO5 := Lib.hid hown; have HX5 := Lib.hid hX5; clear hown hg hv hX5 hT5))
      have HO6 : Hid ((w5.drew.alloc (.cells #[.bool true, .int .u64 (ah : Int), .int .u64 (al : Int), .int .i64 bits] 42)).ownsRow w3.heap.size 42 4 v9 (0 + m) ([] ++ l0.flatMap lcC)) := Lib.hid (HO5.out.drew.alloc _)
      have e4 : (w5.alloc (.cells #[.bool true, .int .u64 (ah : Int), .int .u64 (al : Int), .int .i64 bits] 42)).cell? ⟨t, 1, none⟩ = some (.slice (some ⟨gL, 0, none⟩) n cL) := Lib.cell?_alloc_some _ e3
      have HSr := Lib.hid (src_new w5.drew 42 [.bool true, .int .u64 (ah : Int), .int .u64 (al : Int), .int .i64 bits])
      have HSz5 : Hid (w3.heap.size ≤ (w5.drew.alloc (.cells #[.bool true, .int .u64 (ah : Int), .int .u64 (al : Int), .int .i64 bits] 42)).heap.size) := Lib.hid (by have := HT5.out.size; simp; omega)
      go_region_law (refine step_apc 39 42 (.agg #[.bool false, .int .u64 0, .int .u64 0, .int .i64 0]) 4 32 Try.underlying39 infoLc rfl (by decide) (by decide) rfl (.tmp 81) (.tmp 85) rfl w3.heap.size v9 (0 + m) ([] ++ l0.flatMap lcC) (by simp [Act.eval]) HO6.out ⟨w5.heap.size, 0, none⟩ 1 [.bool true, .int .u64 (ah : Int), .int .u64 (al : Int), .int .i64 bits] (by simp [Act.eval]) rfl (fun j u hj => HSr.out j u hj) (by simp [Value.oneCell']) HSz.out HSz5.out ?_; intro v7 w7 hown hg hv; have hT37 : Tch w3 w7 [] := HT5.out.drew.trans_ownN (tch_appN hg HO6.out); have g1 := (hT37.cell (p := ⟨t, 1, none⟩) HLt.out.1 (by simp)).trans r2; have hTT := HT3.out.trans_fre hT37 (by simp); have hrw : (l0 ++ [((true, ah, al), bits)]).flatMap lcC = [] ++ l0.flatMap lcC ++ [.bool true, .int .u64 (ah : Int), .int .u64 (al : Int), .int .i64 bits] := (by simp [lcC]); obtain ⟨A7, c7, S', hv7, f7, ⟨u7, k7⟩, hI7, hG7⟩ := inner_end (l' := l0 ++ [((true, ah, al), bits)]) (k := 0 + m + 1) HS0.out hTT HIx2.out.1 HIx2.out.2 g1 (by simp [HM.out]) (by rw [hrw]; exact own_mono hown HT3.out.size); subst hv7; rw [Nat.zero_add] at hI7 hG7; have HI7 := Lib.hid hI7; have HG7 := Lib.hid hG7; clear hTT hT37 hrw hI7 hG7 hown hg hv)
      all_goals
        go_wp2
        exact bodyPost_ret (v := .int .i64 0) (by simp [results, Try.results30, go_sem]) rfl ⟨rfl, S', by rw [HIdx.out]; exact HI7.out, HG7.out⟩
/-- Put, whatever it is given. -/
theorem putD (t : Nat) (S : List Nat) (st : StI) (port : Int) (a : AdI) (ha : N64 a.2.1 ∧ N64 a.2.2) (bits : Int) (w : World) (h : IfD w t S st) :
    Calls Try.prog 30 #[.pointer (some ⟨t, 0, none⟩), .int .i64 port, adV a, .int .i64 bits] w fun e w' => e = .returned (.int .i64 (putI st port a bits).2) ∧ ∃ S', IfD w' t S' (putI st port a bits).1 ∧ Goes w w' S S' := by
  by_cases hb : thereI st port = false ∨ adOk st port a bits = false ∨ 8 ≤ (locI st port).length
  · refine Calls.mono (putD_bad t S st port a ha bits hb w h) ?_
    rintro e w' ⟨rfl, h1, h2⟩
    exact ⟨rfl, S, by rw [h1]; exact h.tch h2 (by simp), Goes.of_tch (h2.mono (by simp))⟩
  · exact putD_ok t S st port a ha bits (by cases e : thereI st port with | true => rfl | false => exact absurd (.inl e) hb) (by cases e : adOk st port a bits with | true => rfl | false => exact absurd (.inr (.inl e)) hb) (fun x => hb (.inr (.inr x))) w h
end Go.Proofs.Ytabbclocgkhnhaa

namespace Go.Proofs.Ytabbclocgkhnhaa
open Go.RowKit
set_option linter.unusedVariables false

theorem lcC4 (x : Loc) : (lcC x).length = 4 := rfl
/-- What Drop keeps of the first k. -/
def fltI (a : AdI) (l : List Loc) (k : Nat) : List Loc := (l.take k).filter fun x => !isA a x
theorem fltI_yes {a : AdI} {l : List Loc} {k : Nat} {x : Loc} (hx : l[k]? = some x) (h : isA a x = true) : fltI a l (k + 1) = fltI a l k := by
  unfold fltI
  rw [List.take_add_one, hx, List.filter_append]
  simp [h]
theorem fltI_no {a : AdI} {l : List Loc} {k : Nat} {x : Loc} (hx : l[k]? = some x) (h : isA a x = false) : fltI a l (k + 1) = fltI a l k ++ [x] := by
  unfold fltI
  rw [List.take_add_one, hx, List.filter_append]
  simp [h]
theorem fltI_le (a : AdI) (l : List Loc) (k : Nat) : (fltI a l k).length ≤ l.length := by
  unfold fltI
  exact Nat.le_trans (List.length_filter_le _ _) (by simp; omega)
theorem fltI_all (a : AdI) (l : List Loc) : ((l.filter fun x => !isA a x).length = l.length) ↔ l.any (isA a) = false := by
  rw [List.length_filter_eq_length_iff, List.any_eq_false]
  simp
theorem eq_neq (t : TypeId) (x y : Array Value) {b : Bool} (h : ∀ W, (Op.equalIn 10000 t (.agg x) (.agg y)).run Try.prog W = .ok b W) (W : World) : (binOp .neq t (.agg x) (.agg y)).run Try.prog W = .ok (.bool (!b)) W := by
  have := h W
  simp [binOp, Op.equal, Op.maxDepth, this]
set_option maxRecDepth 100000 in
set_option maxHeartbeats 4000000 in
theorem dropD (t : Nat) (S : List Nat) (st : StI) (port : Int) (a : AdI) (w : World) (h : IfD w t S st) :
    Calls Try.prog 29 #[.pointer (some ⟨t, 0, none⟩), .int .i64 port, adV a] w fun e w' => e = .returned (.int .i64 (dropI st port a).2) ∧ ∃ S', IfD w' t S' (dropI st port a).1 ∧ Goes w w' S S' := by
  have hinv := h.inv.drop port a
  have HS0 := Lib.hid h
  obtain ⟨s, ah, al⟩ := a
  obtain ⟨xb, hxb⟩ : ∃ xb, w.heap.size = xb := ⟨_, rfl⟩
  obtain ⟨W0, hW0⟩ : ∃ W, w.alloc (.cells #[.bool s, .int .u64 (ah : Int), .int .u64 (al : Int)] 34) = W := ⟨_, rfl⟩
  have hX : Blk W0 xb 34 #[.bool s, .int .u64 (ah : Int), .int .u64 (al : Int)] := hW0 ▸ hxb ▸ Blk.new _ _ _
  have HT0 : Hid (Tch w W0 []) := Lib.hid (hW0 ▸ (Tch.refl w []).alloc _)
  have hD0 := h.tch HT0.out (by simp)
  have HTh := Lib.hid (there_any t S st port W0 hD0)
  have HW0 := Lib.hid (And.intro hW0 hxb)
  have HX := Lib.hid hX
  clear hW0 hxb h hX
  cases hth : thereI st port with
  | false =>
    rw [hth] at HTh
    have HE : Hid (dropI st port (s, ah, al) = (st, 132)) := Lib.hid (by unfold dropI; rw [if_pos hth])
    clear hinv hD0 hth
    go_enter Try.func29, Try.ntmps29
    go_wp2_with fail
    rw [HW0.out.1, HW0.out.2]
    refine Calls.mono HTh.out ?_
    rintro e w' ⟨rfl, rfl⟩
    go_wp2
    go_ret
    rw [HE.out]
    exact ⟨rfl, S, HS0.out.tch HT0.out (by simp), Goes.of_tch (HT0.out.mono (by simp))⟩
  | true =>
    rw [hth] at HTh
    have HTt := Lib.hid hth
    have HD0 := Lib.hid hD0
    obtain ⟨gL, cL, A, c, n, i, l, q1, q2, q3, q4, q5, q6, q7, q8, q9, q10, q11, q12, -⟩ := HD0.out.row hth
    have HEa : Hid (l.any (isA (s, ah, al)) = false → dropI st port (s, ah, al) = (st, 132)) := Lib.hid (fun e => by unfold dropI; rw [if_neg (by rw [hth]; simp), q7, if_pos e])
    have HEb : Hid (¬ l.any (isA (s, ah, al)) = false → dropI st port (s, ah, al) = ((st.1, st.2.set i (l.filter fun x => !isA (s, ah, al) x)), 0)) := Lib.hid (fun e => by unfold dropI; rw [if_neg (by rw [hth]; simp), q7, if_neg e, q9, modify_set q8])
    have HInv := Lib.hid hinv
    have HB := Lib.hid (show i < st.1.length from by omega)
    obtain ⟨m, hm⟩ : ∃ m, l.length = m := ⟨_, rfl⟩
    have HM := Lib.hid hm
    have hl8 : m ≤ 8 := by rw [← hm]; exact HD0.out.inv.loc l (List.mem_of_getElem? q8)
    have i0 : (0 : Int) ≤ (i : Int) := by omega
    have i1 : (i : Int) < (n : Int) := by omega
    rw [hm] at q2 q3
    have hob : ∀ s ∈ obI (.slice A m c), s < W0.heap.size := own_lts q3
    -- what is read of the set in any world behind
    have HRd : Hid (∀ W, Tch W0 W [] → W.cell? ⟨t, 1, none⟩ = some (.slice (some ⟨gL, 0, none⟩) n cL) ∧ W.cell? ⟨gL, i, none⟩ = some (.slice A m c) ∧ W.ownsRow 0 42 4 (.slice A m c) m (l.flatMap lcC) ∧ Blk W xb 34 #[.bool s, .int .u64 (ah : Int), .int .u64 (al : Int)]) := Lib.hid (fun W hT =>
      ⟨(hT.cell (p := ⟨t, 1, none⟩) q11 (by simp)).trans q1, (hT.cell (p := ⟨gL, i, none⟩) q12 (by simp)).trans q2, own_tch q3 hT (by simp), hT.blk HX.out (by simp)⟩)
    have HSz0 : Hid (w.heap.size ≤ W0.heap.size) := Lib.hid HT0.out.size
    obtain ⟨c1, c2, -, -⟩ := HRd.out W0 (Tch.refl _ _)
    clear hinv hD0 hth q1 q2 q3 q5 q6 q7 q8 q9 q10 q11 q12 hm hob
    go_enter Try.func29, Try.ntmps29
    go_wp2_with fail
    rw [HW0.out.1, HW0.out.2]
    refine Calls.mono HTh.out ?_
    rintro e w' ⟨rfl, rfl⟩
    go_wp2
    go_loopw [7, 8] (fun ov kv wr => ∃ (k f : Nat) (A1 : Option Addr) (cc : Nat), ov = .slice A1 f cc ∧ kv = .int .i64 (k : Int) ∧ k ≤ m ∧ f ≤ m ∧ Hid ((fltI (s, ah, al) l k).length = f) ∧ Hid (wr.ownsRow W0.heap.size 42 4 (.slice A1 f cc) f ((fltI (s, ah, al) l k).flatMap lcC)) ∧ Hid (Tch W0 wr [])) (fun _ kv _ => m - (intOf kv).toNat)
    case atStart => exact ⟨0, 0, none, 0, rfl, rfl, Nat.zero_le _, Nat.zero_le _, Lib.hid rfl, Lib.hid ⟨rfl, .inl ⟨rfl, rfl⟩⟩, Lib.hid (Tch.refl _ _)⟩
    case round =>
      obtain ⟨k, f, A1, cc, rfl, rfl, hk, hf, hF, hO, hT⟩ := hrel
      obtain ⟨d1, d2, d3, d4⟩ := HRd.out wr hT.out
      have k1 : IntKind.i64.wrap ((k : Int) + 1) = (k : Int) + 1 := by rw [IntKind.wrap_i64]; omega
      by_cases hkm : k < m
      · have kI : (k : Int) < (m : Int) := by omega
        have k0 : (0 : Int) ≤ (k : Int) := by omega
        obtain ⟨x, hx⟩ : ∃ x, l[k]? = some x := ⟨_, List.getElem?_eq_getElem (by rw [HM.out]; exact hkm)⟩
        obtain ⟨gx, rfl⟩ := slice_some d3 (by omega)
        have hxa : isA (s, ah, al) x = decide (x.1 = (s, ah, al)) := rfl
        have HXA := Lib.hid hxa
        obtain ⟨b, hb⟩ : ∃ b, decide (x.1 = (s, ah, al)) = b := ⟨_, rfl⟩
        have HQe := eq_neq 34 _ _ (eq_adI x.1 (s, ah, al) hb)
        have HBb := Lib.hid hb
        obtain ⟨⟨xs, xh, xl⟩, xbt⟩ := x
        have HQe : ∀ W, (binOp .neq 34 (.agg #[.bool xs, .int .u64 (xh : Int), .int .u64 (xl : Int)]) (.agg #[.bool s, .int .u64 (ah : Int), .int .u64 (al : Int)])).run Try.prog W = .ok (.bool (!b)) W := HQe
        have x0 := own_cellN d3 ((flat4_at (f := lcC) (fun _ => rfl) hx (k := 0) (by decide)).trans (show _ = some (Value.bool xs) by rfl))
        have x1 := own_cellN d3 ((flat4_at (f := lcC) (fun _ => rfl) hx (k := 1) (by decide)).trans (show _ = some (Value.int .u64 (xh : Int)) by rfl))
        have x2 := own_cellN d3 ((flat4_at (f := lcC) (fun _ => rfl) hx (k := 2) (by decide)).trans (show _ = some (Value.int .u64 (xl : Int)) by rfl))
        have x3 := own_cellN d3 ((flat4_at (f := lcC) (fun _ => rfl) hx (k := 3) (by decide)).trans (show _ = some (Value.int .i64 xbt) by rfl))
        have y0 := ((d4.cell 0).trans (show _ = some (Value.bool s) by rfl))
        have y1 := ((d4.cell 1).trans (show _ = some (Value.int .u64 (ah : Int)) by rfl))
        have y2 := ((d4.cell 2).trans (show _ = some (Value.int .u64 (al : Int)) by rfl))
        have HC2 := Lib.hid (And.intro d1 (And.intro d2 (And.intro x0 (And.intro x1 (And.intro x2 (And.intro y0 (And.intro y1 y2)))))))
        have Hx := Lib.hid hx
        have HX3 := Lib.hid x3
        clear hx hb hxa d3 d4 x0 x1 x2 x3 y0 y1 y2
        go_wp2
        refine wp_region_held_drew (S := (fun W => W.cell? ⟨t, 1, none⟩ = some (Value.slice (some ⟨gL, 0, none⟩) n cL) ∧ W.cell? ⟨gL, i, none⟩ = some (Value.slice (some ⟨gx, 0, none⟩) m c) ∧ W.cell? ⟨gx, k * 4, none⟩ = some (Value.bool xs) ∧ W.cell? ⟨gx, k * 4 + 1, none⟩ = some (Value.int .u64 (xh : Int)) ∧ W.cell? ⟨gx, k * 4 + 2, none⟩ = some (Value.int .u64 (xl : Int)) ∧ W.cell? ⟨xb, 0, none⟩ = some (Value.bool s) ∧ W.cell? ⟨xb, 1, none⟩ = some (Value.int .u64 (ah : Int)) ∧ W.cell? ⟨xb, 2, none⟩ = some (Value.int .u64 (al : Int)))) (by kernel_rfl) ?_ (fun hHeld => ?_)
        · (exact HC2.out)
        refine wpAnyH_take (i := 0) (oi := { dst := some 26, op := Go.Op.move (Go.Operand.tmp 0), type := 26, pos := "ref.go:98", after := #[], guard := none }) (v := ?_) rfl (by kernel_rfl) (by kernel_rfl) (by kernel_rfl) (fun _ _ _ h => h) (Or.inl ⟨by rfl, ?_⟩) (by assumption) ?_
        rotate_left
        · intro w hSw
          (try dsimp only at hSw)
          go_simp
          try (with_reducible rfl)
        try simp only [Act.put, List.setIfInBounds_toArray, List.set_cons_zero, List.set_cons_succ]
        refine wpAnyH_take (i := 1) (oi := { dst := some 27, op := Go.Op.nilCheck (Go.Operand.tmp 26), type := 0, pos := "ref.go:98", after := #[{ on := 0, ground := Go.Ground.data }], guard := none }) (v := ?_) rfl (by kernel_rfl) (by kernel_rfl) (by kernel_rfl) (fun _ _ _ h => h) (Or.inl ⟨by rfl, ?_⟩) (by assumption) ?_
        rotate_left
        · intro w hSw
          (try dsimp only at hSw)
          go_simp
          try (with_reducible rfl)
        try simp only [Act.put, List.setIfInBounds_toArray, List.set_cons_zero, List.set_cons_succ]
        refine wpAnyH_take (i := 2) (oi := { dst := some 28, op := Go.Op.fieldAddr 67 (Go.Operand.tmp 27) 1, type := 0, pos := "ref.go:98", after := #[{ on := 1, ground := Go.Ground.data }], guard := none }) (v := ?_) rfl (by kernel_rfl) (by kernel_rfl) (by kernel_rfl) (fun _ _ _ h => h) (Or.inl ⟨by rfl, ?_⟩) (by assumption) ?_
        rotate_left
        · intro w hSw
          (try dsimp only at hSw)
          go_simp
          try (with_reducible rfl)
        try simp only [Act.put, List.setIfInBounds_toArray, List.set_cons_zero, List.set_cons_succ]
        refine wpAnyH_take (i := 3) (oi := { dst := some 29, op := Go.Op.load 65 (Go.Operand.tmp 28), type := 65, pos := "ref.go:98", after := #[{ on := 2, ground := Go.Ground.data }], guard := none }) (v := ?_) rfl (by kernel_rfl) (by kernel_rfl) (by kernel_rfl) (fun _ _ _ h => h) (Or.inl ⟨by rfl, ?_⟩) (by assumption) ?_
        rotate_left
        · intro w hSw
          (try dsimp only at hSw)
          go_simp
          try (with_reducible rfl)
        try simp only [Act.put, List.setIfInBounds_toArray, List.set_cons_zero, List.set_cons_succ]
        refine wpAnyH_take (i := 4) (oi := { dst := some 30, op := Go.Op.move (Go.Operand.tmp 1), type := 3, pos := "ref.go:98", after := #[], guard := none }) (v := ?_) rfl (by kernel_rfl) (by kernel_rfl) (by kernel_rfl) (fun _ _ _ h => h) (Or.inl ⟨by rfl, ?_⟩) (by assumption) ?_
        rotate_left
        · intro w hSw
          (try dsimp only at hSw)
          go_simp
          try (with_reducible rfl)
        try simp only [Act.put, List.setIfInBounds_toArray, List.set_cons_zero, List.set_cons_succ]
        refine wpAnyH_take (i := 5) (oi := { dst := some 31, op := Go.Op.binOp Go.BinOp.sub 3 (Go.Operand.tmp 30) (Go.Operand.const (Go.Value.int Go.IntKind.i64 1)) 3, type := 3, pos := "ref.go:98", after := #[{ on := 4, ground := Go.Ground.data }], guard := none }) (v := ?_) rfl (by kernel_rfl) (by kernel_rfl) (by kernel_rfl) (fun _ _ _ h => h) (Or.inl ⟨by rfl, ?_⟩) (by assumption) ?_
        rotate_left
        · intro w hSw
          (try dsimp only at hSw)
          go_simp
          try (with_reducible rfl)
        try simp only [Act.put, List.setIfInBounds_toArray, List.set_cons_zero, List.set_cons_succ]
        refine wpAnyH_take (i := 6) (oi := { dst := some 32, op := Go.Op.indexAddr 65 (Go.Operand.tmp 29) (Go.Operand.tmp 31), type := 0, pos := "ref.go:98", after := #[{ on := 3, ground := Go.Ground.data }, { on := 5, ground := Go.Ground.data }], guard := none }) (v := ?_) rfl (by kernel_rfl) (by kernel_rfl) (by kernel_rfl) (fun _ _ _ h => h) (Or.inl ⟨by rfl, ?_⟩) (by assumption) ?_
        rotate_left
        · intro w hSw
          (try dsimp only at hSw)
          go_simp
          try (with_reducible rfl)
        try simp only [Act.put, List.setIfInBounds_toArray, List.set_cons_zero, List.set_cons_succ]
        refine wpAnyH_take (i := 7) (oi := { dst := some 33, op := Go.Op.load 39 (Go.Operand.tmp 32), type := 39, pos := "ref.go:98", after := #[{ on := 6, ground := Go.Ground.data }], guard := none }) (v := ?_) rfl (by kernel_rfl) (by kernel_rfl) (by kernel_rfl) (fun _ _ _ h => h) (Or.inl ⟨by rfl, ?_⟩) (by assumption) ?_
        rotate_left
        · intro w hSw
          (try dsimp only at hSw)
          go_simp
          try (with_reducible rfl)
        try simp only [Act.put, List.setIfInBounds_toArray, List.set_cons_zero, List.set_cons_succ]
        refine wpAnyH_take (i := 8) (oi := { dst := some 34, op := Go.Op.move (Go.Operand.tmp 8), type := 3, pos := "ref.go:98", after := #[], guard := none }) (v := ?_) rfl (by kernel_rfl) (by kernel_rfl) (by kernel_rfl) (fun _ _ _ h => h) (Or.inl ⟨by rfl, ?_⟩) (by assumption) ?_
        rotate_left
        · intro w hSw
          (try dsimp only at hSw)
          go_simp
          try (with_reducible rfl)
        try simp only [Act.put, List.setIfInBounds_toArray, List.set_cons_zero, List.set_cons_succ]
        refine wpAnyH_take (i := 9) (oi := { dst := some 35, op := Go.Op.indexAddr 39 (Go.Operand.tmp 33) (Go.Operand.tmp 34), type := 0, pos := "ref.go:98", after := #[{ on := 7, ground := Go.Ground.data }, { on := 8, ground := Go.Ground.data }], guard := none }) (v := ?_) rfl (by kernel_rfl) (by kernel_rfl) (by kernel_rfl) (fun _ _ _ h => h) (Or.inl ⟨by rfl, ?_⟩) (by assumption) ?_
        rotate_left
        · intro w hSw
          (try dsimp only at hSw)
          go_simp
          try (with_reducible rfl)
        try simp only [Act.put, List.setIfInBounds_toArray, List.set_cons_zero, List.set_cons_succ]
        refine wpAnyH_take (i := 10) (oi := { dst := some 36, op := Go.Op.fieldAddr 42 (Go.Operand.tmp 35) 0, type := 0, pos := "ref.go:98", after := #[{ on := 9, ground := Go.Ground.data }], guard := none }) (v := ?_) rfl (by kernel_rfl) (by kernel_rfl) (by kernel_rfl) (fun _ _ _ h => h) (Or.inl ⟨by rfl, ?_⟩) (by assumption) ?_
        rotate_left
        · intro w hSw
          (try dsimp only at hSw)
          go_simp
          try (with_reducible rfl)
        try simp only [Act.put, List.setIfInBounds_toArray, List.set_cons_zero, List.set_cons_succ]
        refine wpAnyH_take (i := 11) (oi := { dst := some 37, op := Go.Op.load 34 (Go.Operand.tmp 36), type := 34, pos := "ref.go:98", after := #[{ on := 10, ground := Go.Ground.data }], guard := none }) (v := ?_) rfl (by kernel_rfl) (by kernel_rfl) (by kernel_rfl) (fun _ _ _ h => h) (Or.inl ⟨by rfl, ?_⟩) (by assumption) ?_
        rotate_left
        · intro w hSw
          (try dsimp only at hSw)
          go_simp
          try (with_reducible rfl)
        try simp only [Act.put, List.setIfInBounds_toArray, List.set_cons_zero, List.set_cons_succ]
        refine wpAnyH_take (i := 12) (oi := { dst := some 38, op := Go.Op.load 34 (Go.Operand.tmp 5), type := 34, pos := "ref.go:98", after := #[], guard := none }) (v := ?_) rfl (by kernel_rfl) (by kernel_rfl) (by kernel_rfl) (fun _ _ _ h => h) (Or.inl ⟨by rfl, ?_⟩) (by assumption) ?_
        rotate_left
        · intro w hSw
          (try dsimp only at hSw)
          go_simp
          try (with_reducible rfl)
        try simp only [Act.put, List.setIfInBounds_toArray, List.set_cons_zero, List.set_cons_succ]
        refine wpAnyH_take (i := 13) (oi := { dst := some 39, op := Go.Op.binOp Go.BinOp.neq 34 (Go.Operand.tmp 37) (Go.Operand.tmp 38) 34, type := 4, pos := "ref.go:98", after := #[{ on := 11, ground := Go.Ground.data }, { on := 12, ground := Go.Ground.data }], guard := none }) (v := ?_) rfl (by kernel_rfl) (by kernel_rfl) (by kernel_rfl) (fun _ _ _ h => h) (Or.inl ⟨by rfl, ?_⟩) (by assumption) ?_
        rotate_left
        · intro w hSw
          (try dsimp only at hSw)
          go_simp
          try (with_reducible rfl)
        try simp only [Act.put, List.setIfInBounds_toArray, List.set_cons_zero, List.set_cons_succ]
        refine wpAnyH_done (by kernel_rfl) ?_ _
        obtain ⟨w4, hw4⟩ : ∃ w4, wr.drew = w4 := ⟨_, rfl⟩
        have HO4 := Lib.hid hO.out.drew
        have HT4 := Lib.hid hT.out.drew
        rw [hw4] at HO4 HT4 ⊢
        have HC4 := Lib.hid (HRd.out w4 HT4.out)
        clear hw4 d1 d2 HC2 HX3 HQe
        obtain ⟨d1, d2, d3, d4⟩ := HC4.out
        cases b with
        | true =>
          have HFl : Hid (fltI (s, ah, al) l (k + 1) = fltI (s, ah, al) l k) := Lib.hid (fltI_yes Hx.out (by rw [HXA.out]; exact HBb.out))
          clear d1 d2 d3 d4
          go_wp2
          go_roundw
          case rel => exact ⟨k + 1, f, A1, cc, rfl, by go_num, hkm, hf, by rw [HFl.out]; exact hF, by rw [HFl.out]; exact HO4, HT4⟩
          case measure => simp [intOf]; omega
        | false =>
          have HFl : Hid (fltI (s, ah, al) l (k + 1) = fltI (s, ah, al) l k ++ [((xs, xh, xl), xbt)]) := Lib.hid (fltI_no Hx.out (by rw [HXA.out]; exact HBb.out))
          have hfm : f + 1 ≤ m := by have h1 := fltI_le (s, ah, al) l (k + 1); rw [HFl.out, List.length_append, List.length_singleton, hF.out, HM.out] at h1; exact h1
          have x0 : w4.cell? ⟨gx, k * 4, none⟩ = some (Value.bool xs) := own_cellN d3 ((flat4_at (f := lcC) (fun _ => rfl) Hx.out (k := 0) (by decide)).trans (show _ = some (Value.bool xs) by rfl))
          have x1 := own_cellN d3 ((flat4_at (f := lcC) (fun _ => rfl) Hx.out (k := 1) (by decide)).trans (show _ = some (Value.int .u64 (xh : Int)) by rfl))
          have x2 := own_cellN d3 ((flat4_at (f := lcC) (fun _ => rfl) Hx.out (k := 2) (by decide)).trans (show _ = some (Value.int .u64 (xl : Int)) by rfl))
          have x3 := own_cellN d3 ((flat4_at (f := lcC) (fun _ => rfl) Hx.out (k := 3) (by decide)).trans (show _ = some (Value.int .i64 xbt) by rfl))
          have HO5 : Hid ((w4.alloc (.cells #[.bool xs, .int .u64 (xh : Int), .int .u64 (xl : Int), .int .i64 xbt] 42)).ownsRow W0.heap.size 42 4 (.slice A1 f cc) f ((fltI (s, ah, al) l k).flatMap lcC)) := Lib.hid (HO4.out.alloc _)
          have HSr := Lib.hid (src_new w4 42 [.bool xs, .int .u64 (xh : Int), .int .u64 (xl : Int), .int .i64 xbt])
          have HSz5 : Hid (W0.heap.size ≤ (w4.alloc (.cells #[.bool xs, .int .u64 (xh : Int), .int .u64 (xl : Int), .int .i64 xbt] 42)).heap.size) := Lib.hid (by have := HT4.out.size; simp; omega)
          have HSzf : Hid (f ≤ 1000000) := Lib.hid (by omega)
          clear d3 d4
          go_wp2_with (at_builtin; (refine wpList_apc 39 42 (.agg #[.bool false, .int .u64 0, .int .u64 0, .int .i64 0]) 4 32 Try.underlying39 infoLc rfl (by decide) (by decide) _ rfl (.tmp 40) (.tmp 52) rfl W0.heap.size (.slice A1 f cc) f ((fltI (s, ah, al) l k).flatMap lcC) rfl HO5.out ⟨w4.heap.size, 0, none⟩ 1 [.bool xs, .int .u64 (xh : Int), .int .u64 (xl : Int), .int .i64 xbt] rfl rfl (fun j u hj => HSr.out j u hj) (by simp [Value.oneCell']) HSzf.out HSz5.out ?_; intro v7 w7 hown hg hv; obtain ⟨A7, c7, e7, -, -⟩ := own_sl hown; subst e7; have HO7 := Lib.hid hown; have HT7 := Lib.hid (HT4.out.trans_ownN (tch_appN hg HO5.out)); clear hown hg hv))
          go_roundw
          case rel => exact ⟨k + 1, f + 1, A7, c7, rfl, by go_num, hkm, hfm, Lib.hid (by rw [HFl.out, List.length_append, hF.out]; rfl), Lib.hid (by rw [HFl.out, List.flatMap_append]; exact HO7.out), HT7⟩
          case measure => simp [intOf]; omega
      · obtain rfl : k = m := by omega
        have kI : ¬ (k : Int) < (k : Int) := by omega
        have hal : fltI (s, ah, al) l k = l.filter fun x => !isA (s, ah, al) x := by unfold fltI; rw [List.take_of_length_le (Nat.le_of_eq HM.out)]
        have hiff := fltI_all (s, ah, al) l
        rw [← hal, hF.out, HM.out] at hiff
        by_cases hany : l.any (isA (s, ah, al)) = false
        · have HE := Lib.hid (HEa.out hany)
          have hfk : f = k := hiff.2 hany
          subst hfk
          have be : ((f : Int) == (f : Int)) = true := by simp
          clear hkm hk hal hiff hany d3 d4
          go_wp2
          go_ret
          rw [HE.out]
          exact ⟨rfl, S, HS0.out.tch (HT0.out.trans hT.out) (by simp), Goes.of_tch ((HT0.out.trans hT.out).mono (by simp))⟩
        · have HE := Lib.hid (HEb.out hany)
          have hfk : f ≠ k := fun e => hany (hiff.1 e)
          have be : ((f : Int) == (k : Int)) = false := by simp; omega
          have HTT := Lib.hid (HT0.out.trans hT.out)
          obtain ⟨A7, c7, S', hv7, f7, ⟨u7, k7⟩, hI7, hG7⟩ := inner_end (i := i) (k := f) (l' := fltI (s, ah, al) l k) HS0.out HTT.out HB.out (by have h1 := HInv.out; rw [HE.out, ← hal] at h1; exact h1) d1 hF.out (own_mono hO.out HSz0.out)
          injection hv7 with e1 e2 e3
          subst e1 e3
          rw [hal] at hI7
          have HI7 := Lib.hid hI7
          have HG7 := Lib.hid hG7
          clear hkm hk hal hiff hany d3 d4 hfk hI7 hG7 hF hO
          go_wp2
          go_ret
          rw [HE.out]
          exact ⟨rfl, S', HI7.out, HG7.out⟩
end Go.Proofs.Ytabbclocgkhnhaa
