/-
  The program's own cache of neighbours (layer 19): Learn.
-/
import Derived.Test.YtlbkphnbpenbcaaNgL
namespace Go.Proofs.Ytlbkphnbpenbcaa
open Go.RowKit
set_option linter.unusedVariables false

theorem stale_at (m : Int) (w : World) : Calls Try.prog 40 #[.int .u64 m] w fun e w' => e = .returned (.agg #[.int .i64 3, .int .u64 m, .int .i64 0, .int .i64 0, .slice none 0 0]) ∧ Tch w w' [] := stale_any m w
theorem reach_at (m : Int) (w : World) : Calls Try.prog 42 #[.int .u64 m] w fun e w' => e = .returned (.agg #[.int .i64 2, .int .u64 m, .int .i64 30, .int .i64 0, .slice none 0 0]) ∧ Tch w w' [] := reach_any m w
theorem wts_none {L : TbI} {k : KyI} (h : fnd L k = none) : wtsK L k = [] := by unfold wtsK; rw [h]
theorem wts_some {L : TbI} {k : KyI} {e : EnI} (h : fnd L k = some e) : wtsK L k = e.wts := by unfold wtsK; rw [h]
set_option maxRecDepth 100000 in
set_option maxHeartbeats 4000000 in
theorem learnN {w : World} {t : Nat} {S : List Nat} {L : TbI} (h : NgP w t S L) (k : KyI) (hn : KyN k) (mq : Int) :
    Calls Try.prog 24 #[.pointer (some ⟨t, 0, none⟩), .int .i64 k.1, adV k.2, .int .u64 mq] w fun e w' => ActR w w' t S (lrnT L k mq) e := by
  have HP := Lib.hid h
  obtain ⟨m, M, hm⟩ := h
  obtain ⟨A, c, hv, ho⟩ := hm.at2 k
  obtain ⟨⟨st, mac, lft, ask, wts⟩, hE⟩ : ∃ e, gtE L k = e := ⟨_, rfl⟩
  rw [hE] at hv ho
  obtain ⟨n, hln⟩ : ∃ n, wts.length = n := ⟨_, rfl⟩
  simp only [hln] at hv ho
  have HE := Lib.hid hE
  have HLn := Lib.hid hln
  have HM := Lib.hid hm
  have HV := Lib.hid hv
  have HO := Lib.hid ho
  have HN := Lib.hid hn
  obtain ⟨b, hb⟩ : ∃ b, rgtK k = b := ⟨_, rfl⟩
  have HR := Lib.hid hb
  have HIv := Lib.hid (fun W => isValid_any k hn W)
  rw [hb] at HIv
  obtain ⟨p, s, hi, lo⟩ := k
  obtain ⟨W0, hW0⟩ : ∃ W, w.alloc (.cells #[.bool s, .int .u64 (hi : Int), .int .u64 (lo : Int)] 30) = W := ⟨_, rfl⟩
  obtain ⟨xb, hxb⟩ : ∃ xb, w.heap.size = xb := ⟨_, rfl⟩
  have hX : Blk W0 xb 30 #[.bool s, .int .u64 (hi : Int), .int .u64 (lo : Int)] := hW0 ▸ hxb ▸ Blk.new w _ _
  have hT0 : Tch w W0 [] := hW0 ▸ (Tch.refl w []).alloc _
  obtain ⟨W1, hW1⟩ : ∃ W, W0.alloc (.cells #[.int .i64 0, .bool false, .int .u64 0, .int .u64 0] 70) = W := ⟨_, rfl⟩
  obtain ⟨kb, hkb⟩ : ∃ kb, W0.heap.size = kb := ⟨_, rfl⟩
  have HK1 : Hid (Blk W1 kb 70 #[.int .i64 0, .bool false, .int .u64 0, .int .u64 0]) := Lib.hid (hW1 ▸ hkb ▸ Blk.new W0 _ _)
  have hT1 : Tch W0 W1 [] := hW1 ▸ (Tch.refl W0 []).alloc _
  obtain ⟨x0, x1, x2⟩ := hX.c3
  have HX1 : Hid (Blk W1 xb 30 #[.bool s, .int .u64 (hi : Int), .int .u64 (lo : Int)]) := Lib.hid (hT1.blk hX (by simp))
  have HT1 : Hid (Tch w W1 []) := Lib.hid (hT0.trans hT1)
  have HKb : Hid (w.heap.size < kb ∧ kb < W1.heap.size) := Lib.hid (by
    have h1 : W0.heap.size = w.heap.size + 1 := by rw [← hW0]; simp
    have h2 : W1.heap.size = W0.heap.size + 1 := by rw [← hW1]; simp
    omega)
  have HW := Lib.hid (And.intro (And.intro hW0 hxb) (And.intro hW1 hkb))
  clear hW0 hxb hX hT0 hW1 hkb hT1 hm hv ho hln hE hb hn
  go_enter Try.func24, Try.ntmps24
  go_wp2_with (first | (rw [HW.out.1.1, HW.out.1.2]) | (rw [HW.out.2.1, HW.out.2.2]) | (refine wpList_sta rfl 70 (.tmp 10) (.tmp 14) rfl kb 0 _ rfl rfl 70 _ HK1.out 4 (by kernel_rfl) rfl (by decide) (one4 rfl rfl rfl rfl) ?_; intro W2 hS2; have HS2 := Lib.hid hS2; have HT2 : Hid (Tch w W2 []) := Lib.hid (HT1.out.trans_fre hS2.tch (by have := HKb.out; simp; omega)); obtain ⟨k0, k1, k2, k3⟩ := (sta_whole hS2 rfl).k4; clear hS2 x0 x1 x2))
  refine Calls.mono (HIv.out W2) ?_
  rintro e W3 ⟨rfl, hT3⟩
  have HK3 : Hid (Blk W3 kb 70 #[.int .i64 p, .bool s, .int .u64 (hi : Int), .int .u64 (lo : Int)]) := Lib.hid (hT3.blk (sta_whole HS2.out rfl) (by simp))
  have HT3 : Hid (Tch w W3 []) := Lib.hid (HT2.out.trans hT3)
  have hkw : w.heap.size < kb ∧ kb < W3.heap.size := ⟨HKb.out.1, Nat.lt_of_lt_of_le HKb.out.2 (Nat.le_trans HS2.out.tch.size hT3.size)⟩
  have HKw := Lib.hid hkw
  clear hT3 HS2 HK1 HT1 HX1 HIv HW HKb k0 k1 k2 k3 HT2 hkw
  clear W0 W1 W2
  cases b with
  | false =>
    go_wp2
    have hs : lrnT L (p, s, hi, lo) mq = ([], 1, L) := by unfold lrnT; rw [HR.out]; rfl
    go_ret2
    exact actr_of hs ⟨rfl, .inl ⟨rfl, rfl⟩⟩ rfl (HP.out.tch HT3.out (by simp)) (Goes.of_tch (HT3.out.mono (by simp)))
  | true =>
    have HMc := Lib.hid (isMac_any mq W3)
    obtain ⟨b2, hb2⟩ : ∃ b2, macV mq = b2 := ⟨_, rfl⟩
    have HRm := Lib.hid hb2
    rw [hb2] at HMc
    clear hb2
    go_wp2_with fail
    refine Calls.mono HMc.out ?_
    rintro e Wm ⟨rfl, hTm⟩
    have HKm : Hid (Blk Wm kb 70 #[.int .i64 p, .bool s, .int .u64 (hi : Int), .int .u64 (lo : Int)]) := Lib.hid (hTm.blk HK3.out (by simp))
    have HTm : Hid (Tch w Wm []) := Lib.hid (HT3.out.trans hTm)
    have HKm2 : Hid (w.heap.size < kb ∧ kb < Wm.heap.size) := Lib.hid ⟨HKw.out.1, HKm.out.lt⟩
    clear hTm HK3 HT3 HKw HMc
    cases b2 with
    | false =>
      go_wp2
      have hs : lrnT L (p, s, hi, lo) mq = ([], 1, L) := by unfold lrnT; rw [HR.out, HRm.out]; rfl
      go_ret2
      exact actr_of hs ⟨rfl, .inl ⟨rfl, rfl⟩⟩ rfl (HP.out.tch HTm.out (by simp)) (Goes.of_tch (HTm.out.mono (by simp)))
    | true =>
      obtain ⟨W4, hW4⟩ : ∃ W, (Wm.alloc (.cells #[.int .i64 0, .int .u64 0, .int .i64 0, .int .i64 0, .slice none 0 0] 68)).drew = W := ⟨_, rfl⟩
      obtain ⟨eb, heb⟩ : ∃ eb, Wm.heap.size = eb := ⟨_, rfl⟩
      have HEb : Hid (Blk W4 eb 68 #[.int .i64 0, .int .u64 0, .int .i64 0, .int .i64 0, .slice none 0 0]) := Lib.hid (hW4 ▸ heb ▸ (Blk.new Wm _ _).drew)
      have HT4 : Hid (Tch Wm W4 []) := Lib.hid (hW4 ▸ ((Tch.refl Wm []).alloc _).drew)
      have HW4 := Lib.hid (And.intro hW4 heb)
      have HLe : Hid (Wm.heap.size ≤ eb ∧ kb < eb ∧ w.heap.size < eb) := Lib.hid (by have := HKm2.out; omega)
      have HS : Hid (∀ W, Tch Wm W [] → W.cell? ⟨t, 0, none⟩ = some (.map (some m)) ∧ W.cell? ⟨kb, 0, none⟩ = some (.int .i64 p) ∧ W.cell? ⟨kb, 1, none⟩ = some (.bool s) ∧ W.cell? ⟨kb, 2, none⟩ = some (.int .u64 (hi : Int)) ∧ W.cell? ⟨kb, 3, none⟩ = some (.int .u64 (lo : Int)) ∧ (Instr.lookup 61 (.map (some m)) (.agg #[.int .i64 p, .bool s, .int .u64 (hi : Int), .int .u64 (lo : Int)]) false).run Try.prog W = .ok (.agg #[.int .i64 st, .int .u64 mac, .int .i64 lft, .int .i64 ask, .slice A n c]) W) := Lib.hid (fun W hT => by
        have hm' := HM.out.tch (HTm.out.trans hT) (by simp)
        have hx := hT.blk HKm.out (by simp)
        exact ⟨(hm'.bt.cell 0).trans rfl, (hx.cell 0).trans rfl, (hx.cell 1).trans rfl, (hx.cell 2).trans rfl, (hx.cell 3).trans rfl, by have := hm'.look (p, s, hi, lo); rw [HV.out] at this; exact this⟩)
      clear hW4 heb
      go_wp2_with fail
      refine wp_region_held_drew (S := (fun W => W.cell? ⟨t, 0, none⟩ = some (.map (some m)) ∧ W.cell? ⟨kb, 0, none⟩ = some (.int .i64 p) ∧ W.cell? ⟨kb, 1, none⟩ = some (.bool s) ∧ W.cell? ⟨kb, 2, none⟩ = some (.int .u64 (hi : Int)) ∧ W.cell? ⟨kb, 3, none⟩ = some (.int .u64 (lo : Int)) ∧ (Instr.lookup 61 (.map (some m)) (.agg #[.int .i64 p, .bool s, .int .u64 (hi : Int), .int .u64 (lo : Int)]) false).run Try.prog W = .ok (.agg #[.int .i64 st, .int .u64 mac, .int .i64 lft, .int .i64 ask, .slice A n c]) W)) (by kernel_rfl) ?_ (fun hHeld => ?_)
      · ((first | exact HS.out _ (Tch.refl _ _).drew | exact HS.out _ HT5.out | exact HS.out _ HT4.out))
      refine tkH 0 (by assumption) ?_
      refine tkH 1 (by assumption) ?_
      refine tkH 2 (by assumption) ?_
      refine tkH 3 (by assumption) ?_
      refine tkH 4 (by assumption) ?_
      refine tkH 5 (by assumption) ?_
      refine wpAnyH_ready (rs := [6]) (by kernel_rfl) (by simp) ?_
      refine AllReadyH.cons (o := { dst := some 11, op := Go.Op.alloc 68, type := 0, pos := "neigh.go:101", after := #[], guard := none }) rfl (fun K hK => ?_) AllReadyH.nil
      rw [if_pos (by rfl)]
      first | (refine wpo_sta 68 (.tmp 11) (.tmp 28) rfl eb 0 _ rfl rfl 68 _ HEb.out 5 (by kernel_rfl) rfl (by decide) (one5 rfl rfl rfl rfl rfl) (fun W5 hS5 => ?_); have HT5 : Hid (Tch Wm W5 []) := Lib.hid (HT4.out.trans_fre hS5.tch (by have := HLe.out; simp; omega)); have HE5 : Hid (Blk W5 eb 68 #[.int .i64 st, .int .u64 mac, .int .i64 lft, .int .i64 ask, .slice A n c]) := Lib.hid (sta_whole hS5 rfl); clear hS5) | (go_simp; rw [HW4.out.1, HW4.out.2])
      refine hK.out _ _ ?_ (fun hHeld => ?_)
      · ((first | exact HS.out _ (Tch.refl _ _).drew | exact HS.out _ HT5.out | exact HS.out _ HT4.out))
      clear hK K
      try simp only [Act.put]
      refine wpAnyH_ready (rs := [7]) (by kernel_rfl) (by simp) ?_
      refine AllReadyH.cons (o := { dst := none, op := Go.Op.store 68 (Go.Operand.tmp 11) (Go.Operand.tmp 28), type := 0, pos := "neigh.go:101", after := #[{ on := 6, ground := Go.Ground.data }, { on := 5, ground := Go.Ground.data }, { on := 0, ground := Go.Ground.phase }, { on := 1, ground := Go.Ground.phase }, { on := 2, ground := Go.Ground.phase }, { on := 3, ground := Go.Ground.phase }, { on := 4, ground := Go.Ground.phase }, { on := 5, ground := Go.Ground.phase }, { on := 6, ground := Go.Ground.phase }], guard := none }) rfl (fun K hK => ?_) AllReadyH.nil
      rw [if_pos (by rfl)]
      first | (refine wpo_sta 68 (.tmp 11) (.tmp 28) rfl eb 0 _ rfl rfl 68 _ HEb.out 5 (by kernel_rfl) rfl (by decide) (one5 rfl rfl rfl rfl rfl) (fun W5 hS5 => ?_); have HT5 : Hid (Tch Wm W5 []) := Lib.hid (HT4.out.trans_fre hS5.tch (by have := HLe.out; simp; omega)); have HE5 : Hid (Blk W5 eb 68 #[.int .i64 st, .int .u64 mac, .int .i64 lft, .int .i64 ask, .slice A n c]) := Lib.hid (sta_whole hS5 rfl); clear hS5) | (go_simp; rw [HW4.out.1, HW4.out.2])
      refine hK.out _ _ ?_ (fun hHeld => ?_)
      · ((first | exact HS.out _ (Tch.refl _ _).drew | exact HS.out _ HT5.out | exact HS.out _ HT4.out))
      clear hK K
      try simp only [Act.put]
      refine wpAnyH_done (by kernel_rfl) ?_ _
      have HT5w : Hid (Tch w W5 []) := Lib.hid (HTm.out.trans HT5.out)
      have HK5 : Hid (Blk W5 kb 70 #[.int .i64 p, .bool s, .int .u64 (hi : Int), .int .u64 (lo : Int)]) := Lib.hid (HT5.out.blk HKm.out (by simp))
      have HZ : Hid (w.heap.size < kb ∧ kb < eb ∧ eb < W5.heap.size ∧ t < w.heap.size ∧ m < w.heap.size) := Lib.hid ⟨HKm2.out.1, HLe.out.2.1, HE5.out.lt, HM.out.lt t (by rw [HM.out.eS]; simp), HM.out.lt m (by rw [HM.out.eS]; simp)⟩
      clear HEb HT4 HW4 HS HT5 HKm HLe HKm2 HTm
      obtain ⟨z0, z1, z2, z3, z4⟩ := HE5.out.k5
      obtain ⟨k0, k1, k2, k3⟩ := HK5.out.k4
      have hm1 : 1 ≤ mq := by have := HRm.out; unfold macV at this; simp at this; exact this.1
      rcases gt_cases HM.out.inv HE.out with ⟨hf, hst, hmac, hlft, hask, hwts⟩ | ⟨hf, hok⟩
      · subst hst hmac hlft hask hwts
        have hmm : ((0 : Int) == mq) = false := by simp; omega
        have HFl := Lib.hid (isFull_any (HM.out.tch HT5w.out (by simp)))
        obtain ⟨f, hff⟩ : ∃ f, decide (64 ≤ L.length) = f := ⟨_, rfl⟩
        rw [hff] at HFl
        have HFf := Lib.hid hff
        have HF := Lib.hid hf
        clear hf hff hm1
        cases f with
        | true =>
          go_wp2_with fail
          refine Calls.mono HFl.out ?_
          rintro e W6 ⟨rfl, hT6⟩
          have HT6 : Hid (Tch w W6 []) := Lib.hid (HT5w.out.trans hT6)
          clear hT6 k0 k1 k2 k3 z0 z1 z2 z3 z4
          go_wp2
          have hs : lrnT L (p, s, hi, lo) mq = ([], 0, L) := by
            unfold lrnT
            rw [HR.out, HRm.out, HF.out]
            simp only [Bool.and_self, if_true]
            rw [if_pos (by simpa using HFf.out)]
          go_ret2
          exact actr_of hs ⟨rfl, .inl ⟨rfl, rfl⟩⟩ rfl (HP.out.tch HT6.out (by simp)) (Goes.of_tch (Tch.mono HT6.out (by simp)))
        | false =>
          have hlen : L.length < 64 := by have := HFf.out; simpa using this
          have hs : lrnT L (p, s, hi, lo) mq = ((setT L (p, s, hi, lo) ⟨3, mq, 0, 0, []⟩ (wtsK L (p, s, hi, lo))).1, 0, (setT L (p, s, hi, lo) ⟨3, mq, 0, 0, []⟩ (wtsK L (p, s, hi, lo))).2) := by
            unfold lrnT
            rw [HR.out, HRm.out, HF.out, wts_none HF.out]
            simp only [Bool.and_self, if_true]
            rw [if_neg (by omega)]
            rfl
          have HSs := Lib.hid hs
          have HLn6 := Lib.hid hlen
          clear hlen hs
          go_wp2_with fail
          refine Calls.mono HFl.out ?_
          rintro e W5b ⟨rfl, hT6⟩
          have HT5b : Hid (Tch w W5b []) := Lib.hid (HT5w.out.trans hT6)
          have HK5b := Lib.hid (hT6.blk HK5.out (by simp))
          clear hT6 hmm
          go_wp2_with fail
          have HSet := Lib.hid (fun W (hW : Tch w W []) => settleN (HP.out.tch hW (by simp)) (p, s, hi, lo) HR.out HN.out 3 mq 0 (OkE.stl HRm.out) (.inr HLn6.out))
          have HC : Hid (∀ W, Tch W5b W S → W.cell? ⟨kb, 0, none⟩ = some (.int .i64 p) ∧ W.cell? ⟨kb, 1, none⟩ = some (.bool s) ∧ W.cell? ⟨kb, 2, none⟩ = some (.int .u64 (hi : Int)) ∧ W.cell? ⟨kb, 3, none⟩ = some (.int .u64 (lo : Int))) := Lib.hid (fun W hT => by
            have h2 := hT.blk HK5b.out (fun e => by have := HM.out.lt kb e; have := HZ.out; omega)
            exact ⟨(h2.cell 0).trans rfl, (h2.cell 1).trans rfl, (h2.cell 2).trans rfl, (h2.cell 3).trans rfl⟩)
          clear z0 z1 z2 z3 z4 k0 k1 k2 k3
          refine wp_region_held_drew (S := (fun W => W.cell? ⟨kb, 0, none⟩ = some (.int .i64 p) ∧ W.cell? ⟨kb, 1, none⟩ = some (.bool s) ∧ W.cell? ⟨kb, 2, none⟩ = some (.int .u64 (hi : Int)) ∧ W.cell? ⟨kb, 3, none⟩ = some (.int .u64 (lo : Int)))) (by kernel_rfl) ?_ (fun hHeld => ?_)
          · ((first | exact HC.out _ (Tch.refl _ _).drew | exact HC.out _ HT7.out | exact HC.out _ (HT6.out.mono (by simp))))
          refine tkH 0 (by assumption) ?_
          refine tkH 1 (by assumption) ?_
          refine tkH 2 (by assumption) ?_
          refine wpAnyH_ready (rs := [3]) (by kernel_rfl) (by simp) ?_
          refine AllReadyH.cons (o := { dst := some 45, op := Go.Op.call { callee := Go.Callee.value (Go.Operand.func 40), args := #[Go.Operand.tmp 44], argTypes := #[31] }, type := 68, pos := "neigh.go:106", after := #[{ on := 2, ground := Go.Ground.data }], guard := none }) rfl (fun K hK => ?_) AllReadyH.nil
          go_simp
          (go_at_call 40; (with_reducible refine Calls.mono (stale_at mq _) ?_); rintro e W6 ⟨rfl, hT6⟩; have HT6 : Hid (Tch W5b W6 []) := Lib.hid (((Tch.refl W5b []).drew).trans hT6); clear hT6)
          go_wp2_with fail
          refine hK.out _ _ ?_ (fun hHeld => ?_)
          · ((first | exact HC.out _ (Tch.refl _ _).drew | exact HC.out _ HT7.out | exact HC.out _ (HT6.out.mono (by simp))))
          clear hK K
          try simp only [Act.put, List.setIfInBounds_toArray, List.set_cons_zero, List.set_cons_succ]
          refine wpAnyH_ready (rs := [4]) (by kernel_rfl) (by simp) ?_
          refine AllReadyH.cons (o := { dst := some 46, op := Go.Op.call { callee := Go.Callee.value (Go.Operand.func 41), args := #[Go.Operand.tmp 42, Go.Operand.tmp 43, Go.Operand.tmp 45], argTypes := #[24, 70, 68] }, type := 34, pos := "neigh.go:106", after := #[{ on := 0, ground := Go.Ground.data }, { on := 1, ground := Go.Ground.data }, { on := 3, ground := Go.Ground.data }, { on := 3, ground := Go.Ground.chain }], guard := none }) rfl (fun K hK => ?_) AllReadyH.nil
          go_simp
          (go_at_call 41; (with_reducible refine Calls.mono (HSet.out _ (HT5b.out.trans HT6.out)) ?_); rintro e W7 ⟨A7, c7, S7, rfl, hO7, hP7, hG7⟩; have HT7 : Hid (Tch W5b W7 S) := Lib.hid ((HT6.out.mono (by simp)).trans hG7.tch); have HO7 := Lib.hid hO7; have HP7 := Lib.hid hP7; have HG7 : Hid (Goes w _ S _) := Lib.hid ((Goes.of_nil (HT5b.out.trans HT6.out) S).trans_ hG7); clear hO7 hP7 hG7)
          go_wp2_with fail
          refine hK.out _ _ ?_ (fun hHeld => ?_)
          · ((first | exact HC.out _ (Tch.refl _ _).drew | exact HC.out _ HT7.out | exact HC.out _ (HT6.out.mono (by simp))))
          clear hK K
          try simp only [Act.put, List.setIfInBounds_toArray, List.set_cons_zero, List.set_cons_succ]
          refine tkH 5 (by assumption) ?_
          refine tkH 6 (by assumption) ?_
          refine wpAnyH_done (by kernel_rfl) ?_ _
          go_wp2
          go_ret2
          exact actr_of HSs.out (own_mono HO7.out (HT5b.out.trans HT6.out).size) rfl HP7.out HG7.out
      · have hst0 : (st == 0) = false := by
          simp; rcases hok with h | h
          · have := h.1; simp only at this; omega
          · have := h.2.2.1; simp only at this; omega
        by_cases hmq : mac = mq
        · have hmm : (mac == mq) = true := by simpa using hmq
          have hs : lrnT L (p, s, hi, lo) mq = ([], 0, L) := by
            unfold lrnT
            rw [HR.out, HRm.out, hf]
            simp only [Bool.and_self, if_true]
            rw [if_pos hmq]
          clear hf hok hm1 hmq
          go_wp2
          go_ret2
          exact actr_of hs ⟨rfl, .inl ⟨rfl, rfl⟩⟩ rfl (HP.out.tch HT5w.out (by simp)) (Goes.of_tch (Tch.mono HT5w.out (by simp)))
        · have hmm : (mac == mq) = false := by simpa using hmq
          have hs : lrnT L (p, s, hi, lo) mq = ((setT L (p, s, hi, lo) ⟨3, mq, 0, 0, []⟩ (wtsK L (p, s, hi, lo))).1, 0, (setT L (p, s, hi, lo) ⟨3, mq, 0, 0, []⟩ (wtsK L (p, s, hi, lo))).2) := by
            unfold lrnT
            rw [HR.out, HRm.out, hf, wts_some hf]
            simp only [Bool.and_self, if_true]
            rw [if_neg hmq]
            rfl
          have HSs := Lib.hid hs
          have HFs : Hid ((fnd L (p, s, hi, lo)).isSome) := Lib.hid (by rw [hf]; rfl)
          clear hf hok hm1 hmq hs
          go_wp2_with fail
          have HSet := Lib.hid (fun W (hW : Tch w W []) => settleN (HP.out.tch hW (by simp)) (p, s, hi, lo) HR.out HN.out 3 mq 0 (OkE.stl HRm.out) (.inl HFs.out))
          have HC : Hid (∀ W, Tch W5 W S → W.cell? ⟨kb, 0, none⟩ = some (.int .i64 p) ∧ W.cell? ⟨kb, 1, none⟩ = some (.bool s) ∧ W.cell? ⟨kb, 2, none⟩ = some (.int .u64 (hi : Int)) ∧ W.cell? ⟨kb, 3, none⟩ = some (.int .u64 (lo : Int))) := Lib.hid (fun W hT => by
            have h2 := hT.blk HK5.out (fun e => by have := HM.out.lt kb e; have := HZ.out; omega)
            exact ⟨(h2.cell 0).trans rfl, (h2.cell 1).trans rfl, (h2.cell 2).trans rfl, (h2.cell 3).trans rfl⟩)
          clear z0 z1 z2 z3 z4 k0 k1 k2 k3
          refine wp_region_held_drew (S := (fun W => W.cell? ⟨kb, 0, none⟩ = some (.int .i64 p) ∧ W.cell? ⟨kb, 1, none⟩ = some (.bool s) ∧ W.cell? ⟨kb, 2, none⟩ = some (.int .u64 (hi : Int)) ∧ W.cell? ⟨kb, 3, none⟩ = some (.int .u64 (lo : Int)))) (by kernel_rfl) ?_ (fun hHeld => ?_)
          · ((first | exact HC.out _ (Tch.refl _ _).drew | exact HC.out _ HT7.out | exact HC.out _ (HT6.out.mono (by simp))))
          refine tkH 0 (by assumption) ?_
          refine tkH 1 (by assumption) ?_
          refine tkH 2 (by assumption) ?_
          refine wpAnyH_ready (rs := [3]) (by kernel_rfl) (by simp) ?_
          refine AllReadyH.cons (o := { dst := some 45, op := Go.Op.call { callee := Go.Callee.value (Go.Operand.func 40), args := #[Go.Operand.tmp 44], argTypes := #[31] }, type := 68, pos := "neigh.go:106", after := #[{ on := 2, ground := Go.Ground.data }], guard := none }) rfl (fun K hK => ?_) AllReadyH.nil
          go_simp
          (go_at_call 40; (with_reducible refine Calls.mono (stale_at mq _) ?_); rintro e W6 ⟨rfl, hT6⟩; have HT6 : Hid (Tch W5 W6 []) := Lib.hid (((Tch.refl W5 []).drew).trans hT6); clear hT6)
          go_wp2_with fail
          refine hK.out _ _ ?_ (fun hHeld => ?_)
          · ((first | exact HC.out _ (Tch.refl _ _).drew | exact HC.out _ HT7.out | exact HC.out _ (HT6.out.mono (by simp))))
          clear hK K
          try simp only [Act.put, List.setIfInBounds_toArray, List.set_cons_zero, List.set_cons_succ]
          refine wpAnyH_ready (rs := [4]) (by kernel_rfl) (by simp) ?_
          refine AllReadyH.cons (o := { dst := some 46, op := Go.Op.call { callee := Go.Callee.value (Go.Operand.func 41), args := #[Go.Operand.tmp 42, Go.Operand.tmp 43, Go.Operand.tmp 45], argTypes := #[24, 70, 68] }, type := 34, pos := "neigh.go:106", after := #[{ on := 0, ground := Go.Ground.data }, { on := 1, ground := Go.Ground.data }, { on := 3, ground := Go.Ground.data }, { on := 3, ground := Go.Ground.chain }], guard := none }) rfl (fun K hK => ?_) AllReadyH.nil
          go_simp
          (go_at_call 41; (with_reducible refine Calls.mono (HSet.out _ (HT5w.out.trans HT6.out)) ?_); rintro e W7 ⟨A7, c7, S7, rfl, hO7, hP7, hG7⟩; have HT7 : Hid (Tch W5 W7 S) := Lib.hid ((HT6.out.mono (by simp)).trans hG7.tch); have HO7 := Lib.hid hO7; have HP7 := Lib.hid hP7; have HG7 : Hid (Goes w _ S _) := Lib.hid ((Goes.of_nil (HT5w.out.trans HT6.out) S).trans_ hG7); clear hO7 hP7 hG7)
          go_wp2_with fail
          refine hK.out _ _ ?_ (fun hHeld => ?_)
          · ((first | exact HC.out _ (Tch.refl _ _).drew | exact HC.out _ HT7.out | exact HC.out _ (HT6.out.mono (by simp))))
          clear hK K
          try simp only [Act.put, List.setIfInBounds_toArray, List.set_cons_zero, List.set_cons_succ]
          refine tkH 5 (by assumption) ?_
          refine tkH 6 (by assumption) ?_
          refine wpAnyH_done (by kernel_rfl) ?_ _
          go_wp2
          go_ret2
          exact actr_of HSs.out (own_mono HO7.out (HT5w.out.trans HT6.out).size) rfl HP7.out HG7.out
end Go.Proofs.Ytlbkphnbpenbcaa
