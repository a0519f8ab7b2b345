/-
  The program's own cache of neighbours (layer 19): Tell.
-/
import Derived.Test.YtlbkphnbpenbcaaNgO
namespace Go.Proofs.Ytlbkphnbpenbcaa
open Go.RowKit
set_option linter.unusedVariables false

set_option maxRecDepth 100000 in
set_option maxHeartbeats 4000000 in
theorem tellN {w : World} {t : Nat} {S : List Nat} {L : TbI} (h : NgP w t S L) (k : KyI) (hn : KyN k) (mq : Int) (ans ov : Bool) :
    Calls Try.prog 22 #[.pointer (some ⟨t, 0, none⟩), .int .i64 k.1, adV k.2, .int .u64 mq, .bool ans, .bool ov] w fun e w' => ActR w w' t S (telT L k mq ans ov) e := by
  have HP := Lib.hid h
  obtain ⟨m, M, hm⟩ := h
  obtain ⟨A, c, hv, ho⟩ := hm.at2 k
  obtain ⟨⟨st, mac, lft, ask, wts⟩, hE⟩ : ∃ e, gtE L k = e := ⟨_, rfl⟩
  rw [hE] at hv ho
  obtain ⟨n, hln⟩ : ∃ n, wts.length = n := ⟨_, rfl⟩
  simp only [hln] at hv ho
  have HE := Lib.hid hE
  have HLn := Lib.hid hln
  have HM := Lib.hid hm
  have HV := Lib.hid hv
  have HO := Lib.hid ho
  have HN := Lib.hid hn
  obtain ⟨b, hb⟩ : ∃ b, rgtK k = b := ⟨_, rfl⟩
  have HR := Lib.hid hb
  have HIv := Lib.hid (fun W => isValid_any k hn W)
  rw [hb] at HIv
  obtain ⟨p, s, hi, lo⟩ := k
  obtain ⟨W0, hW0⟩ : ∃ W, w.alloc (.cells #[.bool s, .int .u64 (hi : Int), .int .u64 (lo : Int)] 30) = W := ⟨_, rfl⟩
  obtain ⟨xb, hxb⟩ : ∃ xb, w.heap.size = xb := ⟨_, rfl⟩
  have hX : Blk W0 xb 30 #[.bool s, .int .u64 (hi : Int), .int .u64 (lo : Int)] := hW0 ▸ hxb ▸ Blk.new w _ _
  have hT0 : Tch w W0 [] := hW0 ▸ (Tch.refl w []).alloc _
  obtain ⟨W1, hW1⟩ : ∃ W, W0.alloc (.cells #[.int .i64 0, .bool false, .int .u64 0, .int .u64 0] 70) = W := ⟨_, rfl⟩
  obtain ⟨kb, hkb⟩ : ∃ kb, W0.heap.size = kb := ⟨_, rfl⟩
  have HK1 : Hid (Blk W1 kb 70 #[.int .i64 0, .bool false, .int .u64 0, .int .u64 0]) := Lib.hid (hW1 ▸ hkb ▸ Blk.new W0 _ _)
  have hT1 : Tch W0 W1 [] := hW1 ▸ (Tch.refl W0 []).alloc _
  obtain ⟨x0, x1, x2⟩ := hX.c3
  have HX1 : Hid (Blk W1 xb 30 #[.bool s, .int .u64 (hi : Int), .int .u64 (lo : Int)]) := Lib.hid (hT1.blk hX (by simp))
  have HT1 : Hid (Tch w W1 []) := Lib.hid (hT0.trans hT1)
  have HKb : Hid (w.heap.size < kb ∧ kb < W1.heap.size) := Lib.hid (by
    have h1 : W0.heap.size = w.heap.size + 1 := by rw [← hW0]; simp
    have h2 : W1.heap.size = W0.heap.size + 1 := by rw [← hW1]; simp
    omega)
  have HW := Lib.hid (And.intro (And.intro hW0 hxb) (And.intro hW1 hkb))
  clear hW0 hxb hX hT0 hW1 hkb hT1 hm hv ho hln hE hb hn
  go_enter Try.func22, Try.ntmps22
  go_wp2_with (first | (rw [HW.out.1.1, HW.out.1.2]) | (rw [HW.out.2.1, HW.out.2.2]) | (refine wpList_sta rfl 70 (.tmp 14) (.tmp 20) rfl kb 0 _ rfl rfl 70 _ HK1.out 4 (by kernel_rfl) rfl (by decide) (one4 rfl rfl rfl rfl) ?_; intro W2 hS2; have HS2 := Lib.hid hS2; have HT2 : Hid (Tch w W2 []) := Lib.hid (HT1.out.trans_fre hS2.tch (by have := HKb.out; simp; omega)); obtain ⟨k0, k1, k2, k3⟩ := (sta_whole hS2 rfl).k4; clear hS2 x0 x1 x2))
  refine Calls.mono (HIv.out W2) ?_
  rintro e W3 ⟨rfl, hT3⟩
  have HK3 : Hid (Blk W3 kb 70 #[.int .i64 p, .bool s, .int .u64 (hi : Int), .int .u64 (lo : Int)]) := Lib.hid (hT3.blk (sta_whole HS2.out rfl) (by simp))
  have HT3 : Hid (Tch w W3 []) := Lib.hid (HT2.out.trans hT3)
  have hkw : w.heap.size < kb ∧ kb < W3.heap.size := ⟨HKb.out.1, Nat.lt_of_lt_of_le HKb.out.2 (Nat.le_trans HS2.out.tch.size hT3.size)⟩
  have HKw := Lib.hid hkw
  clear hT3 HS2 HK1 HT1 HX1 HIv HW HKb k0 k1 k2 k3 HT2 hkw
  clear W0 W1 W2
  cases b with
  | false =>
    go_wp2
    have hs : telT L (p, s, hi, lo) mq ans ov = ([], 1, L) := by unfold telT; rw [HR.out]; rfl
    go_ret2
    exact actr_of hs ⟨rfl, .inl ⟨rfl, rfl⟩⟩ rfl (HP.out.tch HT3.out (by simp)) (Goes.of_tch (HT3.out.mono (by simp)))
  | true =>
    have HMc := Lib.hid (isMac_any mq W3)
    obtain ⟨b2, hb2⟩ : ∃ b2, macV mq = b2 := ⟨_, rfl⟩
    have HRm := Lib.hid hb2
    rw [hb2] at HMc
    clear hb2
    go_wp2_with fail
    refine Calls.mono HMc.out ?_
    rintro e Wm ⟨rfl, hTm⟩
    have HKm : Hid (Blk Wm kb 70 #[.int .i64 p, .bool s, .int .u64 (hi : Int), .int .u64 (lo : Int)]) := Lib.hid (hTm.blk HK3.out (by simp))
    have HTm : Hid (Tch w Wm []) := Lib.hid (HT3.out.trans hTm)
    have HKm2 : Hid (w.heap.size < kb ∧ kb < Wm.heap.size) := Lib.hid ⟨HKw.out.1, HKm.out.lt⟩
    clear hTm HK3 HT3 HKw HMc
    cases b2 with
    | false =>
      go_wp2
      have hs : telT L (p, s, hi, lo) mq ans ov = ([], 1, L) := by unfold telT; rw [HR.out, HRm.out]; rfl
      go_ret2
      exact actr_of hs ⟨rfl, .inl ⟨rfl, rfl⟩⟩ rfl (HP.out.tch HTm.out (by simp)) (Goes.of_tch (HTm.out.mono (by simp)))
    | true =>
      obtain ⟨W4, hW4⟩ : ∃ W, (Wm.alloc (.cells #[.int .i64 0, .int .u64 0, .int .i64 0, .int .i64 0, .slice none 0 0] 68)).drew = W := ⟨_, rfl⟩
      obtain ⟨eb, heb⟩ : ∃ eb, Wm.heap.size = eb := ⟨_, rfl⟩
      have HEb : Hid (Blk W4 eb 68 #[.int .i64 0, .int .u64 0, .int .i64 0, .int .i64 0, .slice none 0 0]) := Lib.hid (hW4 ▸ heb ▸ (Blk.new Wm _ _).drew)
      have HT4 : Hid (Tch Wm W4 []) := Lib.hid (hW4 ▸ ((Tch.refl Wm []).alloc _).drew)
      have HW4 := Lib.hid (And.intro hW4 heb)
      have HLe : Hid (Wm.heap.size ≤ eb ∧ kb < eb ∧ w.heap.size < eb) := Lib.hid (by have := HKm2.out; omega)
      have HS : Hid (∀ W, Tch Wm W [] → W.cell? ⟨t, 0, none⟩ = some (.map (some m)) ∧ W.cell? ⟨kb, 0, none⟩ = some (.int .i64 p) ∧ W.cell? ⟨kb, 1, none⟩ = some (.bool s) ∧ W.cell? ⟨kb, 2, none⟩ = some (.int .u64 (hi : Int)) ∧ W.cell? ⟨kb, 3, none⟩ = some (.int .u64 (lo : Int)) ∧ (Instr.lookup 61 (.map (some m)) (.agg #[.int .i64 p, .bool s, .int .u64 (hi : Int), .int .u64 (lo : Int)]) false).run Try.prog W = .ok (.agg #[.int .i64 st, .int .u64 mac, .int .i64 lft, .int .i64 ask, .slice A n c]) W) := Lib.hid (fun W hT => by
        have hm' := HM.out.tch (HTm.out.trans hT) (by simp)
        have hx := hT.blk HKm.out (by simp)
        exact ⟨(hm'.bt.cell 0).trans rfl, (hx.cell 0).trans rfl, (hx.cell 1).trans rfl, (hx.cell 2).trans rfl, (hx.cell 3).trans rfl, by have := hm'.look (p, s, hi, lo); rw [HV.out] at this; exact this⟩)
      clear hW4 heb
      go_wp2_with fail
      refine wp_region_held_drew (S := (fun W => W.cell? ⟨t, 0, none⟩ = some (.map (some m)) ∧ W.cell? ⟨kb, 0, none⟩ = some (.int .i64 p) ∧ W.cell? ⟨kb, 1, none⟩ = some (.bool s) ∧ W.cell? ⟨kb, 2, none⟩ = some (.int .u64 (hi : Int)) ∧ W.cell? ⟨kb, 3, none⟩ = some (.int .u64 (lo : Int)) ∧ (Instr.lookup 61 (.map (some m)) (.agg #[.int .i64 p, .bool s, .int .u64 (hi : Int), .int .u64 (lo : Int)]) false).run Try.prog W = .ok (.agg #[.int .i64 st, .int .u64 mac, .int .i64 lft, .int .i64 ask, .slice A n c]) W)) (by kernel_rfl) ?_ (fun hHeld => ?_)
      · ((first | exact HS.out _ (Tch.refl _ _).drew | exact HS.out _ HT5.out | exact HS.out _ HT4.out))
      refine tkH 0 (by assumption) ?_
      refine tkH 1 (by assumption) ?_
      refine tkH 2 (by assumption) ?_
      refine tkH 3 (by assumption) ?_
      refine tkH 4 (by assumption) ?_
      refine tkH 5 (by assumption) ?_
      refine wpAnyH_ready (rs := [6]) (by kernel_rfl) (by simp) ?_
      refine AllReadyH.cons (o := { dst := some 16, op := Go.Op.alloc 68, type := 0, pos := "neigh.go:117", after := #[], guard := none }) rfl (fun K hK => ?_) AllReadyH.nil
      rw [if_pos (by rfl)]
      first | (refine wpo_sta 68 (.tmp 16) (.tmp 34) rfl eb 0 _ rfl rfl 68 _ HEb.out 5 (by kernel_rfl) rfl (by decide) (one5 rfl rfl rfl rfl rfl) (fun W5 hS5 => ?_); have HT5 : Hid (Tch Wm W5 []) := Lib.hid (HT4.out.trans_fre hS5.tch (by have := HLe.out; simp; omega)); have HE5 : Hid (Blk W5 eb 68 #[.int .i64 st, .int .u64 mac, .int .i64 lft, .int .i64 ask, .slice A n c]) := Lib.hid (sta_whole hS5 rfl); clear hS5) | (go_simp; rw [HW4.out.1, HW4.out.2])
      refine hK.out _ _ ?_ (fun hHeld => ?_)
      · ((first | exact HS.out _ (Tch.refl _ _).drew | exact HS.out _ HT5.out | exact HS.out _ HT4.out))
      clear hK K
      try simp only [Act.put]
      refine wpAnyH_ready (rs := [7]) (by kernel_rfl) (by simp) ?_
      refine AllReadyH.cons (o := { dst := none, op := Go.Op.store 68 (Go.Operand.tmp 16) (Go.Operand.tmp 34), type := 0, pos := "neigh.go:117", after := #[{ on := 6, ground := Go.Ground.data }, { on := 5, ground := Go.Ground.data }, { on := 0, ground := Go.Ground.phase }, { on := 1, ground := Go.Ground.phase }, { on := 2, ground := Go.Ground.phase }, { on := 3, ground := Go.Ground.phase }, { on := 4, ground := Go.Ground.phase }, { on := 5, ground := Go.Ground.phase }, { on := 6, ground := Go.Ground.phase }], guard := none }) rfl (fun K hK => ?_) AllReadyH.nil
      rw [if_pos (by rfl)]
      first | (refine wpo_sta 68 (.tmp 16) (.tmp 34) rfl eb 0 _ rfl rfl 68 _ HEb.out 5 (by kernel_rfl) rfl (by decide) (one5 rfl rfl rfl rfl rfl) (fun W5 hS5 => ?_); have HT5 : Hid (Tch Wm W5 []) := Lib.hid (HT4.out.trans_fre hS5.tch (by have := HLe.out; simp; omega)); have HE5 : Hid (Blk W5 eb 68 #[.int .i64 st, .int .u64 mac, .int .i64 lft, .int .i64 ask, .slice A n c]) := Lib.hid (sta_whole hS5 rfl); clear hS5) | (go_simp; rw [HW4.out.1, HW4.out.2])
      refine hK.out _ _ ?_ (fun hHeld => ?_)
      · ((first | exact HS.out _ (Tch.refl _ _).drew | exact HS.out _ HT5.out | exact HS.out _ HT4.out))
      clear hK K
      try simp only [Act.put]
      refine wpAnyH_done (by kernel_rfl) ?_ _
      have HT5w : Hid (Tch w W5 []) := Lib.hid (HTm.out.trans HT5.out)
      have HK5 : Hid (Blk W5 kb 70 #[.int .i64 p, .bool s, .int .u64 (hi : Int), .int .u64 (lo : Int)]) := Lib.hid (HT5.out.blk HKm.out (by simp))
      have HZ : Hid (w.heap.size < kb ∧ kb < eb ∧ eb < W5.heap.size ∧ t < w.heap.size ∧ m < w.heap.size) := Lib.hid ⟨HKm2.out.1, HLe.out.2.1, HE5.out.lt, HM.out.lt t (by rw [HM.out.eS]; simp), HM.out.lt m (by rw [HM.out.eS]; simp)⟩
      clear HEb HT4 HW4 HS HT5 HKm HLe HKm2 HTm
      obtain ⟨z0, z1, z2, z3, z4⟩ := HE5.out.k5
      obtain ⟨k0, k1, k2, k3⟩ := HK5.out.k4
      have hun : ∀ e, fnd L (p, s, hi, lo) = some e → telT L (p, s, hi, lo) mq ans ov = if ¬ e.st = 1 ∧ ¬ e.mac = mq ∧ ov = false then (if e.st = 2 then ([], 0, putT L (p, s, hi, lo) (stlE e.mac)) else ([], 0, L)) else if ans = true then ((setT L (p, s, hi, lo) (rchE mq) e.wts).1, 0, (setT L (p, s, hi, lo) (rchE mq) e.wts).2) else if ¬ e.mac = mq then ((setT L (p, s, hi, lo) (stlE mq) e.wts).1, 0, (setT L (p, s, hi, lo) (stlE mq) e.wts).2) else ([], 0, L) := fun e hfe => by
        unfold telT
        rw [HR.out, HRm.out, hfe]
        rfl
      rcases gt_cases HM.out.inv HE.out with ⟨hf, hst, hmac, hlft, hask, hwts⟩ | ⟨hf, hok⟩
      · subst hst hmac hlft hask hwts
        have hs : telT L (p, s, hi, lo) mq ans ov = ([], 0, L) := by
          unfold telT
          rw [HR.out, HRm.out, hf]
          rfl
        clear hf hun
        go_wp2
        all_goals
          go_ret2
          exact actr_of hs ⟨rfl, .inl ⟨rfl, rfl⟩⟩ rfl (HP.out.tch HT5w.out (by simp)) (Goes.of_tch (Tch.mono HT5w.out (by simp)))
      · have h1 := hun _ hf
        simp only at h1
        clear hun
        have hst0 : (st == 0) = false := by
          simp; rcases hok with h | h
          · have := h.1; simp only at this; omega
          · have := h.2.2.1; simp only at this; omega
        have HOk := Lib.hid hok
        have hws := wts_some hf
        simp only at hws
        rw [← hws] at h1
        have HFs : Hid ((fnd L (p, s, hi, lo)).isSome) := Lib.hid (by rw [hf]; rfl)
        by_cases hc : ¬ st = 1 ∧ ¬ mac = mq ∧ ov = false
        · obtain ⟨c1, c2, rfl⟩ := hc
          rw [if_pos ⟨c1, c2, rfl⟩] at h1
          have hs1 : (st != 1) = true := by simpa using c1
          have hmm : (mac != mq) = true := by simpa using c2
          have hInv := HM.out.inv.put HR.out HN.out (OkE.stl (hok.macV c1)) (.inl HFs.out)
          by_cases h2 : st = 2
          · subst h2
            rw [if_pos rfl] at h1
            have HSs := Lib.hid h1
            have HInv := Lib.hid hInv
            have hne : t ≠ m ∧ kb ≠ m ∧ eb ≠ m := ⟨HM.out.nd.1.1, by have := HZ.out; omega, by have := HZ.out; omega⟩
            have HC : Hid (∀ W, Tch W5 W [m] → W.cell? ⟨t, 0, none⟩ = some (.map (some m)) ∧ W.cell? ⟨kb, 0, none⟩ = some (.int .i64 p) ∧ W.cell? ⟨kb, 1, none⟩ = some (.bool s) ∧ W.cell? ⟨kb, 2, none⟩ = some (.int .u64 (hi : Int)) ∧ W.cell? ⟨kb, 3, none⟩ = some (.int .u64 (lo : Int)) ∧ W.cell? ⟨eb, 1, none⟩ = some (.int .u64 mac)) := Lib.hid (fun W hT => by
              have h1 := hT.blk (HM.out.tch HT5w.out (by simp)).bt (by simpa using hne.1)
              have h2 := hT.blk HK5.out (by simpa using hne.2.1)
              have h3 := hT.blk HE5.out (by simpa using hne.2.2)
              exact ⟨(h1.cell 0).trans rfl, (h2.cell 0).trans rfl, (h2.cell 1).trans rfl, (h2.cell 2).trans rfl, (h2.cell 3).trans rfl, (h3.cell 1).trans rfl⟩)
            clear h1 hInv hf hok hws c1 c2 hne
            go_wp2_with fail
            clear z0 z1 z2 z3 z4 k0 k1 k2 k3
            refine wp_region_held_drew (S := (fun W => W.cell? ⟨t, 0, none⟩ = some (.map (some m)) ∧ W.cell? ⟨kb, 0, none⟩ = some (.int .i64 p) ∧ W.cell? ⟨kb, 1, none⟩ = some (.bool s) ∧ W.cell? ⟨kb, 2, none⟩ = some (.int .u64 (hi : Int)) ∧ W.cell? ⟨kb, 3, none⟩ = some (.int .u64 (lo : Int)) ∧ W.cell? ⟨eb, 1, none⟩ = some (.int .u64 mac))) (by kernel_rfl) ?_ (fun hHeld => ?_)
            · ((first | exact HC.out _ (Tch.refl _ _).drew | exact HC.out _ HT12.out | exact HC.out _ (HT6.out.mono (by simp))))
            refine tkH 0 (by assumption) ?_
            refine tkH 1 (by assumption) ?_
            refine tkH 2 (by assumption) ?_
            refine tkH 3 (by assumption) ?_
            refine tkH 4 (by assumption) ?_
            refine tkH 5 (by assumption) ?_
            refine tkH 6 (by assumption) ?_
            refine wpAnyH_ready (rs := [7]) (by kernel_rfl) (by simp) ?_
            refine AllReadyH.cons (o := { dst := some 64, op := Go.Op.call { callee := Go.Callee.value (Go.Operand.func 40), args := #[Go.Operand.tmp 63], argTypes := #[31] }, type := 68, pos := "neigh.go:123", after := #[{ on := 6, ground := Go.Ground.data }], guard := none }) rfl (fun K hK => ?_) AllReadyH.nil
            go_simp
            (go_at_call 40; (with_reducible refine Calls.mono (stale_at mac _) ?_); rintro e W6 ⟨rfl, hT6⟩; have HT6 : Hid (Tch W5 W6 []) := Lib.hid (((Tch.refl W5 []).drew).trans hT6); clear hT6)
            go_wp2_with fail
            refine hK.out _ _ ?_ (fun hHeld => ?_)
            · ((first | exact HC.out _ (Tch.refl _ _).drew | exact HC.out _ HT12.out | exact HC.out _ (HT6.out.mono (by simp))))
            clear hK K
            try simp only [Act.put, List.setIfInBounds_toArray, List.set_cons_zero, List.set_cons_succ]
            refine wpAnyH_ready (rs := [8]) (by kernel_rfl) (by simp) ?_
            refine AllReadyH.cons (o := { dst := none, op := Go.Op.mapUpdate 61 (Go.Operand.tmp 60) (Go.Operand.tmp 61) (Go.Operand.tmp 64), type := 0, pos := "neigh.go:123", after := #[{ on := 3, ground := Go.Ground.data }, { on := 4, ground := Go.Ground.data }, { on := 7, ground := Go.Ground.data }, { on := 7, ground := Go.Ground.chain }, { on := 0, ground := Go.Ground.phase }, { on := 1, ground := Go.Ground.phase }, { on := 2, ground := Go.Ground.phase }, { on := 3, ground := Go.Ground.phase }, { on := 4, ground := Go.Ground.phase }, { on := 5, ground := Go.Ground.phase }, { on := 6, ground := Go.Ground.phase }, { on := 7, ground := Go.Ground.phase }], guard := none }) rfl (fun K hK => ?_) AllReadyH.nil
            rw [if_pos (by rfl)]
            (refine wpo_mset keyK_F (.tmp 60) (.tmp 61) (.tmp 64) 61 68 rfl Try.underlying61 rfl (p, s, hi, lo) rfl (.agg #[.int .i64 3, .int .u64 mac, .int .i64 0, .int .i64 0, .slice none 0 0]) rfl ((HM.out.mp.tch (HT5w.out.trans HT6.out) (by simp))) (fun W12 hM12 hT12 hs12 => ?_); have HM12 := Lib.hid hM12; have HT12 : Hid (Tch W5 W12 [m]) := Lib.hid ((HT6.out.mono (by simp)).trans hT12); have HT12b := Lib.hid hT12; clear hM12 hT12 hs12)
            refine hK.out _ _ ?_ (fun hHeld => ?_)
            · ((first | exact HC.out _ (Tch.refl _ _).drew | exact HC.out _ HT12.out | exact HC.out _ (HT6.out.mono (by simp))))
            clear hK K
            try simp only [Act.put]
            refine wpAnyH_done (by kernel_rfl) ?_ _
            go_wp2
            go_ret2
            exact send_end HM.out (Tch.mono (HT5w.out.trans HT6.out) (by simp)) (e := stlE mac) ⟨none, 0, rfl, ⟨rfl, .inl ⟨rfl, rfl⟩⟩⟩ (by simp [wtB, obI, Value.ownBlock]) HInv.out HM12.out HT12b.out (acts := []) ⟨rfl, .inl ⟨rfl, rfl⟩⟩ rfl HSs.out
          · rw [if_neg h2] at h1
            have hs := h1
            have h22 : (st == 2) = false := by simpa using h2
            clear h1 hInv hf hok hws c1 c2 h2
            go_wp2
            go_ret2
            exact actr_of hs ⟨rfl, .inl ⟨rfl, rfl⟩⟩ rfl (HP.out.tch HT5w.out (by simp)) (Goes.of_tch (Tch.mono HT5w.out (by simp)))
        · rw [if_neg hc] at h1
          have hcc : ((st != 1) && ((mac != mq) && !ov)) = false := by
            cases e1 : (st != 1) <;> cases e2 : (mac != mq) <;> cases ov <;> simp_all
          cases ans with
          | true =>
            rw [if_pos rfl] at h1
            have HSs := Lib.hid h1
            clear h1 hf hok hws hc
            obtain ⟨x1, hx1⟩ : ∃ x, (st != 1) = x := ⟨_, rfl⟩
            obtain ⟨x2, hx2⟩ : ∃ x, (mac != mq) = x := ⟨_, rfl⟩
            rw [hx1, hx2] at hcc
            cases x1 <;> cases x2 <;> cases ov <;> (try (simp at hcc; done)) <;> clear hcc
            all_goals
              go_wp2_with fail
              have HSet := Lib.hid (fun W (hW : Tch w W []) => settleN (HP.out.tch hW (by simp)) (p, s, hi, lo) HR.out HN.out 2 mq 30 (OkE.rch HRm.out) (.inl HFs.out))
              have HC : Hid (∀ W, Tch W5 W S → W.cell? ⟨kb, 0, none⟩ = some (.int .i64 p) ∧ W.cell? ⟨kb, 1, none⟩ = some (.bool s) ∧ W.cell? ⟨kb, 2, none⟩ = some (.int .u64 (hi : Int)) ∧ W.cell? ⟨kb, 3, none⟩ = some (.int .u64 (lo : Int))) := Lib.hid (fun W hT => by
                have h2 := hT.blk HK5.out (fun e => by have := HM.out.lt kb e; have := HZ.out; omega)
                exact ⟨(h2.cell 0).trans rfl, (h2.cell 1).trans rfl, (h2.cell 2).trans rfl, (h2.cell 3).trans rfl⟩)
              clear z0 z1 z2 z3 z4 k0 k1 k2 k3
              refine wp_region_held_drew (S := (fun W => W.cell? ⟨kb, 0, none⟩ = some (.int .i64 p) ∧ W.cell? ⟨kb, 1, none⟩ = some (.bool s) ∧ W.cell? ⟨kb, 2, none⟩ = some (.int .u64 (hi : Int)) ∧ W.cell? ⟨kb, 3, none⟩ = some (.int .u64 (lo : Int)))) (by kernel_rfl) ?_ (fun hHeld => ?_)
              · ((first | exact HC.out _ (Tch.refl _ _).drew | exact HC.out _ HT7.out | exact HC.out _ (HT6.out.mono (by simp))))
              refine tkH 0 (by assumption) ?_
              refine tkH 1 (by assumption) ?_
              refine tkH 2 (by assumption) ?_
              refine wpAnyH_ready (rs := [3]) (by kernel_rfl) (by simp) ?_
              refine AllReadyH.cons (o := { dst := some 70, op := Go.Op.call { callee := Go.Callee.value (Go.Operand.func 42), args := #[Go.Operand.tmp 69], argTypes := #[31] }, type := 68, pos := "neigh.go:126", after := #[{ on := 2, ground := Go.Ground.data }], guard := none }) rfl (fun K hK => ?_) AllReadyH.nil
              go_simp
              (go_at_call 42; (with_reducible refine Calls.mono (reach_at mq _) ?_); rintro e W6 ⟨rfl, hT6⟩; have HT6 : Hid (Tch W5 W6 []) := Lib.hid (((Tch.refl W5 []).drew).trans hT6); clear hT6)
              go_wp2_with fail
              refine hK.out _ _ ?_ (fun hHeld => ?_)
              · ((first | exact HC.out _ (Tch.refl _ _).drew | exact HC.out _ HT7.out | exact HC.out _ (HT6.out.mono (by simp))))
              clear hK K
              try simp only [Act.put, List.setIfInBounds_toArray, List.set_cons_zero, List.set_cons_succ]
              refine wpAnyH_ready (rs := [4]) (by kernel_rfl) (by simp) ?_
              refine AllReadyH.cons (o := { dst := some 71, op := Go.Op.call { callee := Go.Callee.value (Go.Operand.func 41), args := #[Go.Operand.tmp 67, Go.Operand.tmp 68, Go.Operand.tmp 70], argTypes := #[24, 70, 68] }, type := 34, pos := "neigh.go:126", after := #[{ on := 0, ground := Go.Ground.data }, { on := 1, ground := Go.Ground.data }, { on := 3, ground := Go.Ground.data }, { on := 3, ground := Go.Ground.chain }], guard := none }) rfl (fun K hK => ?_) AllReadyH.nil
              go_simp
              (go_at_call 41; (with_reducible refine Calls.mono (HSet.out _ (HT5w.out.trans HT6.out)) ?_); rintro e W7 ⟨A7, c7, S7, rfl, hO7, hP7, hG7⟩; have HT7 : Hid (Tch W5 W7 S) := Lib.hid ((HT6.out.mono (by simp)).trans hG7.tch); have HO7 := Lib.hid hO7; have HP7 := Lib.hid hP7; have HG7 : Hid (Goes w _ S _) := Lib.hid ((Goes.of_nil (HT5w.out.trans HT6.out) S).trans_ hG7); clear hO7 hP7 hG7)
              go_wp2_with fail
              refine hK.out _ _ ?_ (fun hHeld => ?_)
              · ((first | exact HC.out _ (Tch.refl _ _).drew | exact HC.out _ HT7.out | exact HC.out _ (HT6.out.mono (by simp))))
              clear hK K
              try simp only [Act.put, List.setIfInBounds_toArray, List.set_cons_zero, List.set_cons_succ]
              refine tkH 5 (by assumption) ?_
              refine wpAnyH_done (by kernel_rfl) ?_ _
              go_wp2
              go_ret2
              exact actr_of HSs.out (own_mono HO7.out (HT5w.out.trans HT6.out).size) rfl HP7.out HG7.out
          | false =>
            rw [if_neg (by simp)] at h1
            by_cases hmq : mac = mq
            · rw [if_neg (by simpa using hmq)] at h1
              have hs := h1
              have hmm : (mac != mq) = false := by simpa using hmq
              clear h1 hf hok hws hc hcc hmq
              obtain ⟨x1, hx1⟩ : ∃ x, (st != 1) = x := ⟨_, rfl⟩
              cases x1
              all_goals
                go_wp2
                go_ret2
                exact actr_of hs ⟨rfl, .inl ⟨rfl, rfl⟩⟩ rfl (HP.out.tch HT5w.out (by simp)) (Goes.of_tch (Tch.mono HT5w.out (by simp)))
            · rw [if_pos hmq] at h1
              have hmm : (mac != mq) = true := by simpa using hmq
              have HSs := Lib.hid h1
              rw [hmm] at hcc
              clear h1 hf hok hws hc hmq
              obtain ⟨x1, hx1⟩ : ∃ x, (st != 1) = x := ⟨_, rfl⟩
              rw [hx1] at hcc
              cases x1 <;> cases ov <;> (try (simp at hcc; done)) <;> clear hcc
              all_goals
                go_wp2_with fail
                have HSet := Lib.hid (fun W (hW : Tch w W []) => settleN (HP.out.tch hW (by simp)) (p, s, hi, lo) HR.out HN.out 3 mq 0 (OkE.stl HRm.out) (.inl HFs.out))
                have HC : Hid (∀ W, Tch W5 W S → W.cell? ⟨kb, 0, none⟩ = some (.int .i64 p) ∧ W.cell? ⟨kb, 1, none⟩ = some (.bool s) ∧ W.cell? ⟨kb, 2, none⟩ = some (.int .u64 (hi : Int)) ∧ W.cell? ⟨kb, 3, none⟩ = some (.int .u64 (lo : Int))) := Lib.hid (fun W hT => by
                  have h2 := hT.blk HK5.out (fun e => by have := HM.out.lt kb e; have := HZ.out; omega)
                  exact ⟨(h2.cell 0).trans rfl, (h2.cell 1).trans rfl, (h2.cell 2).trans rfl, (h2.cell 3).trans rfl⟩)
                clear z0 z1 z2 z3 z4 k0 k1 k2 k3
                refine wp_region_held_drew (S := (fun W => W.cell? ⟨kb, 0, none⟩ = some (.int .i64 p) ∧ W.cell? ⟨kb, 1, none⟩ = some (.bool s) ∧ W.cell? ⟨kb, 2, none⟩ = some (.int .u64 (hi : Int)) ∧ W.cell? ⟨kb, 3, none⟩ = some (.int .u64 (lo : Int)))) (by kernel_rfl) ?_ (fun hHeld => ?_)
                · ((first | exact HC.out _ (Tch.refl _ _).drew | exact HC.out _ HT7.out | exact HC.out _ (HT6.out.mono (by simp))))
                refine tkH 0 (by assumption) ?_
                refine tkH 1 (by assumption) ?_
                refine tkH 2 (by assumption) ?_
                refine wpAnyH_ready (rs := [3]) (by kernel_rfl) (by simp) ?_
                refine AllReadyH.cons (o := { dst := some 77, op := Go.Op.call { callee := Go.Callee.value (Go.Operand.func 40), args := #[Go.Operand.tmp 76], argTypes := #[31] }, type := 68, pos := "neigh.go:128", after := #[{ on := 2, ground := Go.Ground.data }], guard := none }) rfl (fun K hK => ?_) AllReadyH.nil
                go_simp
                (go_at_call 40; (with_reducible refine Calls.mono (stale_at mq _) ?_); rintro e W6 ⟨rfl, hT6⟩; have HT6 : Hid (Tch W5 W6 []) := Lib.hid (((Tch.refl W5 []).drew).trans hT6); clear hT6)
                go_wp2_with fail
                refine hK.out _ _ ?_ (fun hHeld => ?_)
                · ((first | exact HC.out _ (Tch.refl _ _).drew | exact HC.out _ HT7.out | exact HC.out _ (HT6.out.mono (by simp))))
                clear hK K
                try simp only [Act.put, List.setIfInBounds_toArray, List.set_cons_zero, List.set_cons_succ]
                refine wpAnyH_ready (rs := [4]) (by kernel_rfl) (by simp) ?_
                refine AllReadyH.cons (o := { dst := some 78, op := Go.Op.call { callee := Go.Callee.value (Go.Operand.func 41), args := #[Go.Operand.tmp 74, Go.Operand.tmp 75, Go.Operand.tmp 77], argTypes := #[24, 70, 68] }, type := 34, pos := "neigh.go:128", after := #[{ on := 0, ground := Go.Ground.data }, { on := 1, ground := Go.Ground.data }, { on := 3, ground := Go.Ground.data }, { on := 3, ground := Go.Ground.chain }], guard := none }) rfl (fun K hK => ?_) AllReadyH.nil
                go_simp
                (go_at_call 41; (with_reducible refine Calls.mono (HSet.out _ (HT5w.out.trans HT6.out)) ?_); rintro e W7 ⟨A7, c7, S7, rfl, hO7, hP7, hG7⟩; have HT7 : Hid (Tch W5 W7 S) := Lib.hid ((HT6.out.mono (by simp)).trans hG7.tch); have HO7 := Lib.hid hO7; have HP7 := Lib.hid hP7; have HG7 : Hid (Goes w _ S _) := Lib.hid ((Goes.of_nil (HT5w.out.trans HT6.out) S).trans_ hG7); clear hO7 hP7 hG7)
                go_wp2_with fail
                refine hK.out _ _ ?_ (fun hHeld => ?_)
                · ((first | exact HC.out _ (Tch.refl _ _).drew | exact HC.out _ HT7.out | exact HC.out _ (HT6.out.mono (by simp))))
                clear hK K
                try simp only [Act.put, List.setIfInBounds_toArray, List.set_cons_zero, List.set_cons_succ]
                refine tkH 5 (by assumption) ?_
                refine wpAnyH_done (by kernel_rfl) ?_ _
                go_wp2
                go_ret2
                exact actr_of HSs.out (own_mono HO7.out (HT5w.out.trans HT6.out).size) rfl HP7.out HG7.out
end Go.Proofs.Ytlbkphnbpenbcaa
