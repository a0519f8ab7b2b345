/-
  The program's own cache of neighbours (layer 19): Send.
-/
import Derived.Test.YtlbkphnbpenbcaaNgF
namespace Go.Proofs.Ytlbkphnbpenbcaa
open Go.RowKit
set_option linter.unusedVariables false

set_option maxRecDepth 100000 in
set_option maxHeartbeats 4000000 in
theorem sendN {w : World} {t : Nat} {S : List Nat} {L : TbI} (h : NgP w t S L) (k : KyI) (hn : KyN k) (q : ByteArray) :
    Calls Try.prog 18 #[.pointer (some ⟨t, 0, none⟩), .int .i64 k.1, adV k.2, .string q] w fun e w' => ActR w w' t S (sendT L k q) e := by
  have HP := Lib.hid h
  obtain ⟨m, M, hm⟩ := h
  obtain ⟨A, c, hv, ho⟩ := hm.at2 k
  obtain ⟨⟨st, mac, lft, ask, wts⟩, hE⟩ : ∃ e, gtE L k = e := ⟨_, rfl⟩
  rw [hE] at hv ho
  obtain ⟨n, hln⟩ : ∃ n, wts.length = n := ⟨_, rfl⟩
  simp only [hln] at hv ho
  have HE := Lib.hid hE
  have HLn := Lib.hid hln
  have HM := Lib.hid hm
  have HV := Lib.hid hv
  have HO := Lib.hid ho
  have HN := Lib.hid hn
  obtain ⟨b, hb⟩ : ∃ b, rgtK k = b := ⟨_, rfl⟩
  have HR := Lib.hid hb
  have HIv := Lib.hid (fun W => isValid_any k hn W)
  rw [hb] at HIv
  obtain ⟨p, s, hi, lo⟩ := k
  obtain ⟨W0, hW0⟩ : ∃ W, w.alloc (.cells #[.bool s, .int .u64 (hi : Int), .int .u64 (lo : Int)] 30) = W := ⟨_, rfl⟩
  obtain ⟨xb, hxb⟩ : ∃ xb, w.heap.size = xb := ⟨_, rfl⟩
  have hX : Blk W0 xb 30 #[.bool s, .int .u64 (hi : Int), .int .u64 (lo : Int)] := hW0 ▸ hxb ▸ Blk.new w _ _
  have hT0 : Tch w W0 [] := hW0 ▸ (Tch.refl w []).alloc _
  obtain ⟨W1, hW1⟩ : ∃ W, W0.alloc (.cells #[.int .i64 0, .bool false, .int .u64 0, .int .u64 0] 70) = W := ⟨_, rfl⟩
  obtain ⟨kb, hkb⟩ : ∃ kb, W0.heap.size = kb := ⟨_, rfl⟩
  have HK1 : Hid (Blk W1 kb 70 #[.int .i64 0, .bool false, .int .u64 0, .int .u64 0]) := Lib.hid (hW1 ▸ hkb ▸ Blk.new W0 _ _)
  have hT1 : Tch W0 W1 [] := hW1 ▸ (Tch.refl W0 []).alloc _
  obtain ⟨x0, x1, x2⟩ := hX.c3
  have HX1 : Hid (Blk W1 xb 30 #[.bool s, .int .u64 (hi : Int), .int .u64 (lo : Int)]) := Lib.hid (hT1.blk hX (by simp))
  have HT1 : Hid (Tch w W1 []) := Lib.hid (hT0.trans hT1)
  have HKb : Hid (w.heap.size < kb ∧ kb < W1.heap.size) := Lib.hid (by
    have h1 : W0.heap.size = w.heap.size + 1 := by rw [← hW0]; simp
    have h2 : W1.heap.size = W0.heap.size + 1 := by rw [← hW1]; simp
    omega)
  have HW := Lib.hid (And.intro (And.intro hW0 hxb) (And.intro hW1 hkb))
  clear hW0 hxb hX hT0 hW1 hkb hT1 hm hv ho hln hE hb hn
  go_enter Try.func18, Try.ntmps18
  go_wp2_with (first | (rw [HW.out.1.1, HW.out.1.2]) | (rw [HW.out.2.1, HW.out.2.2]) | (refine wpList_sta rfl 70 (.tmp 10) (.tmp 15) rfl kb 0 _ rfl rfl 70 _ HK1.out 4 (by kernel_rfl) rfl (by decide) (one4 rfl rfl rfl rfl) ?_; intro W2 hS2; have HS2 := Lib.hid hS2; have HT2 : Hid (Tch w W2 []) := Lib.hid (HT1.out.trans_fre hS2.tch (by have := HKb.out; simp; omega)); obtain ⟨k0, k1, k2, k3⟩ := (sta_whole hS2 rfl).k4; clear hS2 x0 x1 x2))
  refine Calls.mono (HIv.out W2) ?_
  rintro e W3 ⟨rfl, hT3⟩
  have HK3 : Hid (Blk W3 kb 70 #[.int .i64 p, .bool s, .int .u64 (hi : Int), .int .u64 (lo : Int)]) := Lib.hid (hT3.blk (sta_whole HS2.out rfl) (by simp))
  have HT3 : Hid (Tch w W3 []) := Lib.hid (HT2.out.trans hT3)
  have hkw : w.heap.size < kb ∧ kb < W3.heap.size := ⟨HKb.out.1, Nat.lt_of_lt_of_le HKb.out.2 (Nat.le_trans HS2.out.tch.size hT3.size)⟩
  have HKw := Lib.hid hkw
  clear hT3 HS2 HK1 HT1 HX1 HIv HW HKb k0 k1 k2 k3 HT2 hkw
  clear W0 W1 W2
  cases b with
  | false =>
    go_wp2
    have hs : sendT L (p, s, hi, lo) q = ([], 1, L) := by unfold sendT; rw [HR.out]; rfl
    go_ret2
    refine ⟨none, 0, S, ?_, ?_, ?_, ?_⟩
    · rw [hs]; rfl
    · rw [hs]; exact ⟨rfl, .inl ⟨rfl, rfl⟩⟩
    · rw [hs]; exact HP.out.tch HT3.out (by simp)
    · exact Goes.of_tch (HT3.out.mono (by simp))
  | true =>
    obtain ⟨W4, hW4⟩ : ∃ W, (W3.alloc (.cells #[.int .i64 0, .int .u64 0, .int .i64 0, .int .i64 0, .slice none 0 0] 68)).drew = W := ⟨_, rfl⟩
    obtain ⟨eb, heb⟩ : ∃ eb, W3.heap.size = eb := ⟨_, rfl⟩
    have HEb : Hid (Blk W4 eb 68 #[.int .i64 0, .int .u64 0, .int .i64 0, .int .i64 0, .slice none 0 0]) := Lib.hid (hW4 ▸ heb ▸ (Blk.new W3 _ _).drew)
    have HT4 : Hid (Tch W3 W4 []) := Lib.hid (hW4 ▸ ((Tch.refl W3 []).alloc _).drew)
    have HW4 := Lib.hid (And.intro hW4 heb)
    have HLe : Hid (W3.heap.size ≤ eb ∧ kb < eb ∧ w.heap.size < eb) := Lib.hid (by have := HKw.out; omega)
    have HS : Hid (∀ W, Tch W3 W [] → W.cell? ⟨t, 0, none⟩ = some (.map (some m)) ∧ W.cell? ⟨kb, 0, none⟩ = some (.int .i64 p) ∧ W.cell? ⟨kb, 1, none⟩ = some (.bool s) ∧ W.cell? ⟨kb, 2, none⟩ = some (.int .u64 (hi : Int)) ∧ W.cell? ⟨kb, 3, none⟩ = some (.int .u64 (lo : Int)) ∧ (Instr.lookup 61 (.map (some m)) (.agg #[.int .i64 p, .bool s, .int .u64 (hi : Int), .int .u64 (lo : Int)]) false).run Try.prog W = .ok (.agg #[.int .i64 st, .int .u64 mac, .int .i64 lft, .int .i64 ask, .slice A n c]) W) := Lib.hid (fun W hT => by
      have hm' := HM.out.tch (HT3.out.trans hT) (by simp)
      have hx := hT.blk HK3.out (by simp)
      exact ⟨(hm'.bt.cell 0).trans rfl, (hx.cell 0).trans rfl, (hx.cell 1).trans rfl, (hx.cell 2).trans rfl, (hx.cell 3).trans rfl, by have := hm'.look (p, s, hi, lo); rw [HV.out] at this; exact this⟩)
    clear hW4 heb
    go_wp2_with fail
    refine wp_region_held_drew (S := (fun W => W.cell? ⟨t, 0, none⟩ = some (.map (some m)) ∧ W.cell? ⟨kb, 0, none⟩ = some (.int .i64 p) ∧ W.cell? ⟨kb, 1, none⟩ = some (.bool s) ∧ W.cell? ⟨kb, 2, none⟩ = some (.int .u64 (hi : Int)) ∧ W.cell? ⟨kb, 3, none⟩ = some (.int .u64 (lo : Int)) ∧ (Instr.lookup 61 (.map (some m)) (.agg #[.int .i64 p, .bool s, .int .u64 (hi : Int), .int .u64 (lo : Int)]) false).run Try.prog W = .ok (.agg #[.int .i64 st, .int .u64 mac, .int .i64 lft, .int .i64 ask, .slice A n c]) W)) (by kernel_rfl) ?_ (fun hHeld => ?_)
    · ((first | exact HS.out _ (Tch.refl _ _).drew | exact HS.out _ HT5.out | exact HS.out _ HT4.out))
    refine tkH 0 (by assumption) ?_
    refine tkH 1 (by assumption) ?_
    refine tkH 2 (by assumption) ?_
    refine tkH 3 (by assumption) ?_
    refine tkH 4 (by assumption) ?_
    refine tkH 5 (by assumption) ?_
    refine wpAnyH_ready (rs := [6]) (by kernel_rfl) (by simp) ?_
    refine AllReadyH.cons (o := { dst := some 12, op := Go.Op.alloc 68, type := 0, pos := "neigh.go:67", after := #[], guard := none }) rfl (fun K hK => ?_) AllReadyH.nil
    rw [if_pos (by rfl)]
    first | (refine wpo_sta 68 (.tmp 12) (.tmp 24) rfl eb 0 _ rfl rfl 68 _ HEb.out 5 (by kernel_rfl) rfl (by decide) (one5 rfl rfl rfl rfl rfl) (fun W5 hS5 => ?_); have HT5 : Hid (Tch W3 W5 []) := Lib.hid (HT4.out.trans_fre hS5.tch (by have := HLe.out; simp; omega)); have HE5 : Hid (Blk W5 eb 68 #[.int .i64 st, .int .u64 mac, .int .i64 lft, .int .i64 ask, .slice A n c]) := Lib.hid (sta_whole hS5 rfl); clear hS5) | (go_simp; rw [HW4.out.1, HW4.out.2])
    refine hK.out _ _ ?_ (fun hHeld => ?_)
    · ((first | exact HS.out _ (Tch.refl _ _).drew | exact HS.out _ HT5.out | exact HS.out _ HT4.out))
    clear hK K
    try simp only [Act.put]
    refine wpAnyH_ready (rs := [7]) (by kernel_rfl) (by simp) ?_
    refine AllReadyH.cons (o := { dst := none, op := Go.Op.store 68 (Go.Operand.tmp 12) (Go.Operand.tmp 24), type := 0, pos := "neigh.go:67", after := #[{ on := 6, ground := Go.Ground.data }, { on := 5, ground := Go.Ground.data }, { on := 0, ground := Go.Ground.phase }, { on := 1, ground := Go.Ground.phase }, { on := 2, ground := Go.Ground.phase }, { on := 3, ground := Go.Ground.phase }, { on := 4, ground := Go.Ground.phase }, { on := 5, ground := Go.Ground.phase }, { on := 6, ground := Go.Ground.phase }], guard := none }) rfl (fun K hK => ?_) AllReadyH.nil
    rw [if_pos (by rfl)]
    first | (refine wpo_sta 68 (.tmp 12) (.tmp 24) rfl eb 0 _ rfl rfl 68 _ HEb.out 5 (by kernel_rfl) rfl (by decide) (one5 rfl rfl rfl rfl rfl) (fun W5 hS5 => ?_); have HT5 : Hid (Tch W3 W5 []) := Lib.hid (HT4.out.trans_fre hS5.tch (by have := HLe.out; simp; omega)); have HE5 : Hid (Blk W5 eb 68 #[.int .i64 st, .int .u64 mac, .int .i64 lft, .int .i64 ask, .slice A n c]) := Lib.hid (sta_whole hS5 rfl); clear hS5) | (go_simp; rw [HW4.out.1, HW4.out.2])
    refine hK.out _ _ ?_ (fun hHeld => ?_)
    · ((first | exact HS.out _ (Tch.refl _ _).drew | exact HS.out _ HT5.out | exact HS.out _ HT4.out))
    clear hK K
    try simp only [Act.put]
    refine wpAnyH_done (by kernel_rfl) ?_ _
    have HT5w : Hid (Tch w W5 []) := Lib.hid (HT3.out.trans HT5.out)
    have HK5 : Hid (Blk W5 kb 70 #[.int .i64 p, .bool s, .int .u64 (hi : Int), .int .u64 (lo : Int)]) := Lib.hid (HT5.out.blk HK3.out (by simp))
    have HZ : Hid (w.heap.size < kb ∧ kb < eb ∧ eb < W5.heap.size ∧ t < w.heap.size ∧ m < w.heap.size) := Lib.hid ⟨HKw.out.1, HLe.out.2.1, HE5.out.lt, HM.out.lt t (by rw [HM.out.eS]; simp), HM.out.lt m (by rw [HM.out.eS]; simp)⟩
    clear HEb HT4 HW4 HS HT5 HK3 HLe HKw HT3
    obtain ⟨z0, z1, z2, z3, z4⟩ := HE5.out.k5
    obtain ⟨k0, k1, k2, k3⟩ := HK5.out.k4
    rcases gt_cases HM.out.inv HE.out with ⟨hf, hst, hmac, hlft, hask, hwts⟩ | ⟨hf, hok⟩
    · subst hst hmac hlft hask hwts
      have HF := Lib.hid hf
      have HFl := Lib.hid (isFull_any (HM.out.tch HT5w.out (by simp)))
      obtain ⟨f, hff⟩ : ∃ f, decide (64 ≤ L.length) = f := ⟨_, rfl⟩
      rw [hff] at HFl
      have HFf := Lib.hid hff
      clear hf hff
      cases f with
      | true =>
        go_wp2_with fail
        refine Calls.mono HFl.out ?_
        rintro e W6 ⟨rfl, hT6⟩
        have HT6 : Hid (Tch w W6 []) := Lib.hid (HT5w.out.trans hT6)
        obtain ⟨j0, j1, j2, j3⟩ := (hT6.blk HK5.out (by simp)).k4
        clear hT6 k0 k1 k2 k3 z0 z1 z2 z3 z4
        go_wp2_with fail
        refine Calls.mono (act_at p s hi lo 4 0 q W6) ?_
        rintro e W7 ⟨rfl, hT7⟩
        have HT7 : Hid (Tch w W7 []) := Lib.hid (HT6.out.trans hT7)
        clear hT7 j0 j1 j2 j3
        go_wp2_with fail
        have hs : sendT L (p, s, hi, lo) q = ([acI (p, s, hi, lo) 4 0 q], 0, L) := by
          unfold sendT
          rw [if_pos HR.out, HF.out]
          simp only
          rw [if_pos (by simpa using HFf.out)]
        go_ret2
        exact actr_of hs (own_one rfl HT7.out.size) rfl (HP.out.tch (HT7.out.alloc _) (by simp)) (Goes.of_tch ((HT7.out.alloc _).mono (by simp)))
      | false =>
        have hlen : L.length < 64 := by have := HFf.out; simpa using this
        have HInv := Lib.hid (HM.out.inv.put HR.out HN.out (OkE.new q) (.inr hlen))
        have hs : sendT L (p, s, hi, lo) q = ([acI (p, s, hi, lo) 2 0 nilS8], 0, putT L (p, s, hi, lo) ⟨1, 0, 0, 1, [q]⟩) := by
          unfold sendT
          rw [if_pos HR.out, HF.out]
          simp only
          rw [if_neg (by omega)]
        have HSs := Lib.hid hs
        clear hlen hs
        go_wp2_with fail
        refine Calls.mono HFl.out ?_
        rintro e W6 ⟨rfl, hT6⟩
        have HE6 := Lib.hid (hT6.blk HE5.out (by simp))
        have HK6 := Lib.hid (hT6.blk HK5.out (by simp))
        have HT6 : Hid (Tch w W6 []) := Lib.hid (HT5w.out.trans hT6)
        clear hT6 k0 k1 k2 k3 z0 z1 z2 z3 z4
        go_wp2_with (first | (refine wpList_sta rfl 68 (.tmp 12) (.tmp 39) rfl eb 0 _ rfl rfl 68 _ HE6.out 5 (by kernel_rfl) rfl (by simp) (one5 rfl rfl rfl rfl rfl) ?_; intro W7 hS7; have HE7 : Hid (Blk W7 eb 68 #[.int .i64 1, .int .u64 0, .int .i64 0, .int .i64 1, .slice none 0 0]) := Lib.hid (sta_whole hS7 rfl); have HK7 := Lib.hid (hS7.tch.blk HK6.out (by have := HZ.out; simp; omega)); have HT7 : Hid (Tch w W7 []) := Lib.hid (HT6.out.trans_fre hS7.tch (by have := HZ.out; simp; omega)); obtain ⟨k0, k1, k2, k3⟩ := HK7.out.k4; clear hS7))
        refine Calls.mono (act_at p s hi lo 2 0 ⟨#[]⟩ W7) ?_
        rintro e W8 ⟨rfl, hT8⟩
        have HE8 := Lib.hid (hT8.blk HE7.out (by simp))
        have HK8 : Hid (Blk W8 kb 70 #[.int .i64 p, .bool s, .int .u64 (hi : Int), .int .u64 (lo : Int)]) := Lib.hid (hT8.blk HK7.out (by simp))
        have HT8 : Hid (Tch w W8 []) := Lib.hid (HT7.out.trans hT8)
        have HSz8 : Hid (w.heap.size ≤ W8.heap.size) := Lib.hid HT8.out.size
        clear hT8 k0 k1 k2 k3
        go_wp2_with (first | (at_builtin; refine wpList_apc 34 41 (.agg #[.int .i64 0, .int .i64 0, .bool false, .int .u64 0, .int .u64 0, .int .u64 0, .string ⟨#[]⟩]) 7 64 Try.underlying34 infoAc rfl (by decide) (by decide) _ rfl (.tmp 40) (.tmp 43) rfl w.heap.size (.slice none 0 0) 0 [] rfl ⟨rfl, .inl ⟨rfl, rfl⟩⟩ ⟨_, 0, none⟩ 1 [.int .i64 2, .int .i64 p, .bool s, .int .u64 (hi : Int), .int .u64 (lo : Int), .int .u64 0, .string ⟨#[]⟩] rfl rfl (src_new _ _ _) (acC_one ⟨2, (p, s, hi, lo), 0, ⟨#[]⟩⟩) (by decide) (by have := HSz8.out; simp; omega) ?_; intro va W9 hown hg hva; have hT9 : Tch W8 W9 [] := ((Tch.refl W8 []).alloc _).trans (Tch.of_grown' hg (fun g e => by cases e)); obtain ⟨Aa, ca, rfl, -, -⟩ := own_sl hown; have HNa : Hid (∀ s ∈ obI (.slice Aa 1 ca), eb < s) := Lib.hid (fun s hs => (one_at hva (w := eb + 1) (by have := HE8.out.lt; simp; omega) s hs).resolve_left (by simp [obI, Value.ownBlock])); have HAc := Lib.hid hown; have HT9 := Lib.hid hT9; have HE9 := Lib.hid (hT9.blk HE8.out (by simp)); obtain ⟨z0, z1, z2, z3, z4⟩ := HE9.out.k5; obtain ⟨k0, k1, k2, k3⟩ := (hT9.blk HK8.out (by simp)).k4; clear hown hg hva hT9) | (at_builtin; refine wpList_apc 52 9 (.string ⟨#[]⟩) 1 16 Try.underlying52 infoSt rfl (by decide) (by decide) _ rfl (.tmp 63) (.tmp 65) rfl w.heap.size (.slice none 0 0) 0 [] rfl ⟨rfl, .inl ⟨rfl, rfl⟩⟩ ⟨_, 0, none⟩ 1 [.string q] rfl rfl (src_new _ _ _) (by intro u hu; simp at hu; rw [hu]; rfl) (by omega) (by have := Nat.le_trans HSz8.out HT9.out.size; simp; omega) ?_; intro vw W10 hown hg hvw; obtain ⟨A1, c1, rfl, -, -⟩ := own_sl hown; have hT10 : Tch W9 W10 [] := ((Tch.refl W9 []).alloc _).trans (Tch.of_grown' hg (fun g e => by cases e)); have HT10 := Lib.hid hT10; have HE10 := Lib.hid (hT10.blk HE9.out (by simp)); clear hT10; have HWt := Lib.hid hown; have HVw := Lib.hid (one_at hvw (w := eb + 1) (by have := HE9.out.lt; simp; omega)); clear hown hg hvw; obtain ⟨z0, z1, z2, z3, z4⟩ := HE10.out.k5; have f4 := HE10.out.frozen 4))
        obtain ⟨W11, hW11⟩ : ∃ W, W10.setCell ⟨eb, 4, none⟩ (.slice A1 1 c1) = W := ⟨_, rfl⟩
        rw [hW11]
        have h10 : Tch W10 W11 [eb] := hW11 ▸ (Tch.refl W10 [eb]).set_ (by simp) _
        have hT0 : Tch w W11 [] := ((HT8.out.trans HT9.out).trans HT10.out).trans_fre h10 (by have := HZ.out; simp; omega)
        have HT11 : Hid (Tch w W11 (wtB (mpV M (p, s, hi, lo) zEn))) := Lib.hid (hT0.mono (by simp))
        have HE11 : Hid (Blk W11 eb 68 #[.int .i64 1, .int .u64 0, .int .i64 0, .int .i64 1, .slice A1 1 c1]) := Lib.hid (hW11 ▸ HE10.out.set_ 4 _)
        have HK11 := Lib.hid (h10.blk (HT10.out.blk (HT9.out.blk HK8.out (by simp)) (by simp)) (by have := HZ.out; simp; omega))
        have HAc11 : Hid (W11.ownsRow w.heap.size 41 7 (.slice Aa 1 ca) 1 ([acI (p, s, hi, lo) 2 0 nilS8].flatMap acC)) := Lib.hid (own_tch (own_tch HAc.out HT10.out (by simp)) h10 (fun s hs e => by have := HNa.out s hs; rw [List.mem_singleton.1 e] at this; omega))
        have HW11 : Hid (EnW W11 ⟨1, 0, 0, 1, [q]⟩ (.agg #[.int .i64 1, .int .u64 0, .int .i64 0, .int .i64 1, .slice A1 1 c1])) := Lib.hid ⟨A1, c1, rfl, own_mono (own_tch HWt.out h10 (fun s hs e => by have := (HVw.out s hs).resolve_left (by simp [obI, Value.ownBlock]); rw [List.mem_singleton.1 e] at this; omega)) (Nat.zero_le _)⟩
        have HF11 : Hid (∀ s ∈ obI (.slice A1 1 c1), w.heap.size ≤ s) := Lib.hid (fun s hs => (own_geI HWt.out s hs).1)
        clear hT0 h10 hW11 f4 z0 z1 z2 z3 z4 k0 k1 k2 k3
        have HB := Lib.hid (HM.out.base (k := (p, s, hi, lo)) HT11.out)
        have hne : t ≠ m ∧ kb ≠ m ∧ eb ≠ m := ⟨HM.out.nd.1.1, by have := HZ.out; omega, by have := HZ.out; omega⟩
        have HC : Hid (∀ W, Tch W11 W [m] → W.cell? ⟨t, 0, none⟩ = some (.map (some m)) ∧ W.cell? ⟨kb, 0, none⟩ = some (.int .i64 p) ∧ W.cell? ⟨kb, 1, none⟩ = some (.bool s) ∧ W.cell? ⟨kb, 2, none⟩ = some (.int .u64 (hi : Int)) ∧ W.cell? ⟨kb, 3, none⟩ = some (.int .u64 (lo : Int)) ∧ W.cell? ⟨eb, 0, none⟩ = some (.int .i64 1) ∧ W.cell? ⟨eb, 1, none⟩ = some (.int .u64 0) ∧ W.cell? ⟨eb, 2, none⟩ = some (.int .i64 0) ∧ W.cell? ⟨eb, 3, none⟩ = some (.int .i64 1) ∧ W.cell? ⟨eb, 4, none⟩ = some (.slice A1 1 c1)) := Lib.hid (fun W hT => by
          have h1 := hT.blk HB.out.1 (by simpa using hne.1)
          have h2 := hT.blk HK11.out (by simpa using hne.2.1)
          have h3 := hT.blk HE11.out (by simpa using hne.2.2)
          exact ⟨(h1.cell 0).trans rfl, (h2.cell 0).trans rfl, (h2.cell 1).trans rfl, (h2.cell 2).trans rfl, (h2.cell 3).trans rfl, (h3.cell 0).trans rfl, (h3.cell 1).trans rfl, (h3.cell 2).trans rfl, (h3.cell 3).trans rfl, (h3.cell 4).trans rfl⟩)
        clear hne
        refine wp_region_held_drew (S := (fun W => W.cell? ⟨t, 0, none⟩ = some (.map (some m)) ∧ W.cell? ⟨kb, 0, none⟩ = some (.int .i64 p) ∧ W.cell? ⟨kb, 1, none⟩ = some (.bool s) ∧ W.cell? ⟨kb, 2, none⟩ = some (.int .u64 (hi : Int)) ∧ W.cell? ⟨kb, 3, none⟩ = some (.int .u64 (lo : Int)) ∧ W.cell? ⟨eb, 0, none⟩ = some (.int .i64 1) ∧ W.cell? ⟨eb, 1, none⟩ = some (.int .u64 0) ∧ W.cell? ⟨eb, 2, none⟩ = some (.int .i64 0) ∧ W.cell? ⟨eb, 3, none⟩ = some (.int .i64 1) ∧ W.cell? ⟨eb, 4, none⟩ = some (.slice A1 1 c1))) (by kernel_rfl) ?_ (fun hHeld => ?_)
        · ((first | exact HC.out _ (Tch.refl _ _).drew | exact HC.out _ HT12.out))
        refine tkH 0 (by assumption) ?_
        refine tkH 1 (by assumption) ?_
        refine tkH 2 (by assumption) ?_
        refine tkH 3 (by assumption) ?_
        refine tkH 4 (by assumption) ?_
        refine tkH 5 (by assumption) ?_
        refine wpAnyH_ready (rs := [6]) (by kernel_rfl) (by simp) ?_
        refine AllReadyH.cons (o := { dst := none, op := Go.Op.mapUpdate 61 (Go.Operand.tmp 81) (Go.Operand.tmp 82) (Go.Operand.tmp 83), type := 0, pos := "neigh.go:88", after := #[{ on := 3, ground := Go.Ground.data }, { on := 4, ground := Go.Ground.data }, { on := 5, ground := Go.Ground.data }, { on := 0, ground := Go.Ground.phase }, { on := 1, ground := Go.Ground.phase }, { on := 2, ground := Go.Ground.phase }, { on := 3, ground := Go.Ground.phase }, { on := 4, ground := Go.Ground.phase }, { on := 5, ground := Go.Ground.phase }], guard := none }) rfl (fun K hK => ?_) AllReadyH.nil
        rw [if_pos (by rfl)]
        (refine wpo_mset keyK_F (.tmp 81) (.tmp 82) (.tmp 83) 61 68 rfl Try.underlying61 rfl (p, s, hi, lo) rfl (.agg #[.int .i64 1, .int .u64 0, .int .i64 0, .int .i64 1, .slice A1 1 c1]) rfl HB.out.2 (fun W12 hM12 hT12 hs12 => ?_); have HM12 := Lib.hid hM12; have HT12 : Hid (Tch W11 W12 [m]) := Lib.hid (((Tch.refl W11 [m]).drew).trans hT12); clear hM12 hT12 hs12)
        refine hK.out _ _ ?_ (fun hHeld => ?_)
        · ((first | exact HC.out _ (Tch.refl _ _).drew | exact HC.out _ HT12.out))
        clear hK K
        try simp only [Act.put]
        refine wpAnyH_done (by kernel_rfl) ?_ _
        go_wp2
        go_ret2
        exact send_end HM.out HT11.out (e := ⟨1, 0, 0, 1, [q]⟩) HW11.out (fun s hs => .inr (HF11.out s hs)) HInv.out HM12.out HT12.out HAc11.out rfl HSs.out
    · have HWB : Hid (wtB (mpV M (p, s, hi, lo) zEn) = obI (.slice A n c)) := Lib.hid (by rw [HV.out]; rfl)
      have HLts : Hid (∀ s ∈ obI (.slice A n c), s < w.heap.size) := Lib.hid (own_lts HO.out)
      rcases hok with ⟨h1, hmac, hl0, ha, hw1, hw3⟩ | ⟨hwn, hmc, hst, hl, hk⟩
      · simp only at h1 hmac hl0 ha hw1 hw3
        subst h1
        rw [HLn.out] at hw1 hw3
        by_cases h3 : n = 3
        · subst h3
          obtain ⟨p0, rest, rfl⟩ : ∃ p0 rest, wts = p0 :: rest := by
            cases wts with
            | nil => have := HLn.out; simp at this
            | cons a r => exact ⟨a, r, rfl⟩
          obtain ⟨g, rfl⟩ := slice_some HO.out (by omega)
          have hs : sendT L (p, s, hi, lo) q = ([acI (p, s, hi, lo) 4 0 p0], 0, putT L (p, s, hi, lo) ⟨1, mac, lft, ask, rest ++ [q]⟩) := by
            unfold sendT
            rw [if_pos HR.out, hf]
            simp only
            unfold sendE
            rw [if_pos rfl, if_pos HLn.out]
            rfl
          have hInv := HM.out.inv.send HN.out q
          rw [hs] at hInv
          have HInv := Lib.hid hInv
          have HSs := Lib.hid hs
          have HG : Hid (g < w.heap.size) := Lib.hid (HLts.out g (by simp [obI, Value.ownBlock]))
          have HS15 : Hid (∀ W, Tch W5 W [] → W.cell? ⟨kb, 0, none⟩ = some (.int .i64 p) ∧ W.cell? ⟨kb, 1, none⟩ = some (.bool s) ∧ W.cell? ⟨kb, 2, none⟩ = some (.int .u64 (hi : Int)) ∧ W.cell? ⟨kb, 3, none⟩ = some (.int .u64 (lo : Int)) ∧ W.cell? ⟨eb, 4, none⟩ = some (.slice (some ⟨g, 0, none⟩) 3 c) ∧ W.cell? ⟨g, 0, none⟩ = some (.string p0)) := Lib.hid (fun W hT => by
            have h2 := hT.blk HK5.out (by simp)
            have h4 := hT.blk HE5.out (by simp)
            exact ⟨(h2.cell 0).trans rfl, (h2.cell 1).trans rfl, (h2.cell 2).trans rfl, (h2.cell 3).trans rfl, (h4.cell 4).trans rfl, own_cellN (own_tch HO.out (HT5w.out.trans hT) (by simp)) rfl⟩)
          clear hf hs hInv hmac hl0 ha hw1 hw3
          go_wp2_with fail
          clear z0 z1 z2 z3 z4 k0 k1 k2 k3
          refine wp_region_held_drew (S := (fun W => W.cell? ⟨kb, 0, none⟩ = some (.int .i64 p) ∧ W.cell? ⟨kb, 1, none⟩ = some (.bool s) ∧ W.cell? ⟨kb, 2, none⟩ = some (.int .u64 (hi : Int)) ∧ W.cell? ⟨kb, 3, none⟩ = some (.int .u64 (lo : Int)) ∧ W.cell? ⟨eb, 4, none⟩ = some (.slice (some ⟨g, 0, none⟩) 3 c) ∧ W.cell? ⟨g, 0, none⟩ = some (.string p0))) (by kernel_rfl) ?_ (fun hHeld => ?_)
          · ((first | exact HS15.out _ (Tch.refl _ _).drew | exact HS15.out _ HT9.out | exact HS15.out _ (HT8.out.alloc _) | exact HS15.out _ HT8.out))
          refine tkH 0 (by assumption) ?_
          refine tkH 1 (by assumption) ?_
          refine tkH 2 (by assumption) ?_
          refine tkH 3 (by assumption) ?_
          refine tkH 4 (by assumption) ?_
          refine tkH 5 (by assumption) ?_
          refine wpAnyH_ready (rs := [6]) (by kernel_rfl) (by simp) ?_
          refine AllReadyH.cons (o := { dst := some 55, op := Go.Op.call { callee := Go.Callee.value (Go.Operand.func 34), args := #[Go.Operand.tmp 50, Go.Operand.const (Go.Value.int Go.IntKind.i64 4), Go.Operand.const (Go.Value.int Go.IntKind.u64 0), Go.Operand.tmp 54], argTypes := #[70, 3, 31, 9] }, type := 41, pos := "neigh.go:78", after := #[{ on := 1, ground := Go.Ground.data }, { on := 5, ground := Go.Ground.data }], guard := none }) rfl (fun K hK => ?_) AllReadyH.nil
          go_simp
          (go_at_call 34; (with_reducible refine Calls.mono (act_at p s hi lo 4 0 p0 _) ?_); rintro e W8 ⟨rfl, hT8⟩; have HT8 : Hid (Tch W5 W8 []) := Lib.hid (((Tch.refl W5 []).drew).trans hT8); clear hT8)
          go_wp2_with fail
          refine hK.out _ _ ?_ (fun hHeld => ?_)
          · ((first | exact HS15.out _ (Tch.refl _ _).drew | exact HS15.out _ HT9.out | exact HS15.out _ (HT8.out.alloc _) | exact HS15.out _ HT8.out))
          clear hK K
          try simp only [Act.put, List.setIfInBounds_toArray, List.set_cons_zero, List.set_cons_succ]
          refine wpAnyH_ready (rs := [7]) (by kernel_rfl) (by simp) ?_
          refine AllReadyH.cons (o := { dst := some 56, op := Go.Op.buildSlice 34 1 #[(0, Go.Operand.tmp 55)], type := 34, pos := "neigh.go:78", after := #[{ on := 6, ground := Go.Ground.data }], guard := none }) rfl (fun K hK => ?_) AllReadyH.nil
          rw [if_pos (by rfl)]
          first | (refine wpo_apc 34 41 (.agg #[.int .i64 0, .int .i64 0, .bool false, .int .u64 0, .int .u64 0, .int .u64 0, .string ⟨#[]⟩]) 7 64 Try.underlying34 infoAc rfl (by decide) (by decide) rfl (.tmp 49) (.tmp 56) rfl w.heap.size (.slice none 0 0) 0 [] rfl ⟨rfl, .inl ⟨rfl, rfl⟩⟩ ⟨_, 0, none⟩ 1 [.int .i64 4, .int .i64 p, .bool s, .int .u64 (hi : Int), .int .u64 (lo : Int), .int .u64 0, .string p0] rfl rfl (src_new _ _ _) (acC_one ⟨4, (p, s, hi, lo), 0, p0⟩) (by decide) (by have := (HT5w.out.trans HT8.out).size; simp; omega) (fun va W9 hown hg hva => ?_); have HT9 : Hid (Tch W5 W9 []) := Lib.hid ((HT8.out.alloc _).trans (Tch.of_grown' hg (fun g e => by cases e))); obtain ⟨Aa, ca, rfl, -, -⟩ := own_sl hown; have HNa : Hid (∀ s ∈ obI (.slice Aa 1 ca), eb < s) := Lib.hid (fun s hs => (one_at hva (w := eb + 1) (by have := (HT8.out.blk HE5.out (by simp)).lt; simp; omega) s hs).resolve_left (by simp [obI, Value.ownBlock])); have HAc := Lib.hid hown; clear hown hg hva) | go_simp
          refine hK.out _ _ ?_ (fun hHeld => ?_)
          · ((first | exact HS15.out _ (Tch.refl _ _).drew | exact HS15.out _ HT9.out | exact HS15.out _ (HT8.out.alloc _) | exact HS15.out _ HT8.out))
          clear hK K
          try simp only [Act.put]
          refine wpAnyH_ready (rs := [8]) (by kernel_rfl) (by simp) ?_
          refine AllReadyH.cons (o := { dst := some 57, op := Go.Op.call { callee := Go.Callee.builtin Go.Builtin.append, args := #[Go.Operand.tmp 49, Go.Operand.tmp 56], argTypes := #[34, 34] }, type := 34, pos := "neigh.go:78", after := #[{ on := 0, ground := Go.Ground.data }, { on := 7, ground := Go.Ground.data }, { on := 6, ground := Go.Ground.chain }], guard := none }) rfl (fun K hK => ?_) AllReadyH.nil
          rw [if_pos (by rfl)]
          first | (refine wpo_apc 34 41 (.agg #[.int .i64 0, .int .i64 0, .bool false, .int .u64 0, .int .u64 0, .int .u64 0, .string ⟨#[]⟩]) 7 64 Try.underlying34 infoAc rfl (by decide) (by decide) rfl (.tmp 49) (.tmp 56) rfl w.heap.size (.slice none 0 0) 0 [] rfl ⟨rfl, .inl ⟨rfl, rfl⟩⟩ ⟨_, 0, none⟩ 1 [.int .i64 4, .int .i64 p, .bool s, .int .u64 (hi : Int), .int .u64 (lo : Int), .int .u64 0, .string p0] rfl rfl (src_new _ _ _) (acC_one ⟨4, (p, s, hi, lo), 0, p0⟩) (by decide) (by have := (HT5w.out.trans HT8.out).size; simp; omega) (fun va W9 hown hg hva => ?_); have HT9 : Hid (Tch W5 W9 []) := Lib.hid ((HT8.out.alloc _).trans (Tch.of_grown' hg (fun g e => by cases e))); obtain ⟨Aa, ca, rfl, -, -⟩ := own_sl hown; have HNa : Hid (∀ s ∈ obI (.slice Aa 1 ca), eb < s) := Lib.hid (fun s hs => (one_at hva (w := eb + 1) (by have := (HT8.out.blk HE5.out (by simp)).lt; simp; omega) s hs).resolve_left (by simp [obI, Value.ownBlock])); have HAc := Lib.hid hown; clear hown hg hva) | go_simp
          refine hK.out _ _ ?_ (fun hHeld => ?_)
          · ((first | exact HS15.out _ (Tch.refl _ _).drew | exact HS15.out _ HT9.out | exact HS15.out _ (HT8.out.alloc _) | exact HS15.out _ HT8.out))
          clear hK K
          try simp only [Act.put]
          refine tkH 9 (by assumption) ?_
          refine wpAnyH_done (by kernel_rfl) ?_ _
          have HE9 := Lib.hid (HT9.out.blk HE5.out (by simp))
          have HK9 : Hid (Blk W9 kb 70 #[.int .i64 p, .bool s, .int .u64 (hi : Int), .int .u64 (lo : Int)]) := Lib.hid (HT9.out.blk HK5.out (by simp))
          have HT9w : Hid (Tch w W9 []) := Lib.hid (HT5w.out.trans HT9.out)
          obtain ⟨z0, z1, z2, z3, z4⟩ := HE9.out.k5
          have HDl := Lib.hid (del3 g c (p0 :: rest) HLn.out W9 (own_tch HO.out HT9w.out (by simp)))
          go_wp2_with fail
          refine Calls.mono HDl.out ?_
          rintro e Wd ⟨rfl, hOd, hTd⟩
          have hgz : g ≠ eb ∧ g ≠ kb := by have := HG.out; have := HZ.out; omega
          have HEd := Lib.hid (hTd.blk HE9.out (by simpa using fun e => hgz.1 e.symm))
          have HKd := Lib.hid (hTd.blk HK9.out (by simpa using fun e => hgz.2 e.symm))
          have HOd : Hid (∀ W, Tch Wd W [eb] → W.ownsRow 0 9 1 (.slice (some ⟨g, 0, none⟩) 2 c) 2 (rest.map strC)) := Lib.hid (fun W hT => own_tch hOd hT (by simpa [obI, Value.ownBlock] using hgz.1))
          have HTd : Hid (Tch W9 Wd [g]) := Lib.hid hTd
          clear hOd hTd z0 z1 z2 z3 z4 hgz
          obtain ⟨We, hWe⟩ : ∃ W, Wd.setCell ⟨eb, 4, none⟩ (.slice (some ⟨g, 0, none⟩) 2 c) = W := ⟨_, rfl⟩
          have hTe : Tch Wd We [eb] := hWe ▸ (Tch.refl Wd [eb]).set_ (by simp) _
          have HTe := Lib.hid hTe
          have HEe : Hid (Blk We eb 68 #[.int .i64 1, .int .u64 mac, .int .i64 lft, .int .i64 ask, .slice (some ⟨g, 0, none⟩) 2 c]) := Lib.hid (hWe ▸ HEd.out.set_ 4 _)
          have HKe := Lib.hid (hTe.blk HKd.out (by have := HZ.out; simp; omega))
          have HWe := Lib.hid hWe
          obtain ⟨z0, z1, z2, z3, z4⟩ := HEd.out.k5
          have f4 := HEd.out.frozen 4
          clear hTe hWe
          go_wp2_with (first | (rw [HWe.out]; clear z0 z1 z2 z3 z4 f4; obtain ⟨z0, z1, z2, z3, z4⟩ := HEe.out.k5; have f4 := HEe.out.frozen 4) | (at_builtin; refine wpList_apc 52 9 (.string ⟨#[]⟩) 1 16 Try.underlying52 infoSt rfl (by decide) (by decide) _ rfl (.tmp 63) (.tmp 65) rfl 0 (.slice (some ⟨g, 0, none⟩) 2 c) 2 (rest.map strC) rfl ((HOd.out _ HTe.out).alloc _) ⟨_, 0, none⟩ 1 [.string q] rfl rfl (src_new _ _ _) (by intro u hu; simp at hu; rw [hu]; rfl) (by omega) (Nat.zero_le _) ?_; intro vw W10 hown hg hvw; obtain ⟨A1, c1, rfl, -, -⟩ := own_sl hown; have hT10 : Tch We W10 [g] := ((Tch.refl We [g]).alloc _).trans (Tch.of_grown' hg (fun g' e => by simp [Value.ownBlock] at e; simp [← e])); have HT10 := Lib.hid hT10; have HE10 := Lib.hid (hT10.blk HEe.out (by have := HG.out; have := HZ.out; simp; omega)); clear hT10 f4 z0 z1 z2 z3 z4; have HWt := Lib.hid hown; have HVw := Lib.hid (one_at hvw (w := eb + 1) (by have := HEe.out.lt; simp; omega)); clear hown hg hvw; obtain ⟨z0, z1, z2, z3, z4⟩ := HE10.out.k5; have f4 := HE10.out.frozen 4))
          obtain ⟨W11, hW11⟩ : ∃ W, W10.setCell ⟨eb, 4, none⟩ (.slice A1 3 c1) = W := ⟨_, rfl⟩
          rw [hW11]
          have h10 : Tch W10 W11 [eb] := hW11 ▸ (Tch.refl W10 [eb]).set_ (by simp) _
          have hT1 : Tch w W11 [g] := ((HT9w.out.mono (by simp)).trans HTd.out).trans_fre ((HTe.out.mono (T := [eb, g]) (by simp)).trans ((HT10.out.mono (by simp)).trans (h10.mono (by simp)))) (by have := HZ.out; simp; omega)
          have HT11 : Hid (Tch w W11 (wtB (mpV M (p, s, hi, lo) zEn))) := Lib.hid (by rw [HWB.out]; exact hT1.mono (by simp [obI, Value.ownBlock]))
          have HE11 : Hid (Blk W11 eb 68 #[.int .i64 1, .int .u64 mac, .int .i64 lft, .int .i64 ask, .slice A1 3 c1]) := Lib.hid (hW11 ▸ HE10.out.set_ 4 _)
          have HK11 := Lib.hid (h10.blk (HT10.out.blk HKe.out (by have := HG.out; have := HZ.out; simp; omega)) (by have := HZ.out; simp; omega))
          have HAc11 : Hid (W11.ownsRow w.heap.size 41 7 (.slice Aa 1 ca) 1 ([acI (p, s, hi, lo) 4 0 p0].flatMap acC)) := Lib.hid (own_tch (own_tch (own_tch (own_tch HAc.out HTd.out (fun s hs e => by have := HNa.out s hs; rw [List.mem_singleton.1 e] at this; have := HG.out; have := HZ.out; omega)) HTe.out (fun s hs e => by have := HNa.out s hs; rw [List.mem_singleton.1 e] at this; omega)) HT10.out (fun s hs e => by have := HNa.out s hs; rw [List.mem_singleton.1 e] at this; have := HG.out; have := HZ.out; omega)) h10 (fun s hs e => by have := HNa.out s hs; rw [List.mem_singleton.1 e] at this; omega))
          have HW11 : Hid (EnW W11 ⟨1, mac, lft, ask, rest ++ [q]⟩ (.agg #[.int .i64 1, .int .u64 mac, .int .i64 lft, .int .i64 ask, .slice A1 3 c1])) := Lib.hid (en_of (n := 3) (by have := HLn.out; simp at this ⊢; omega) rfl (by
            have h9 := own_tch HWt.out h10 (fun s hs e => by
              rw [List.mem_singleton.1 e] at hs
              rcases HVw.out eb hs with h | h
              · have : eb = g := by simpa [obI, Value.ownBlock] using h
                have := HG.out; have := HZ.out; omega
              · omega)
            simpa using h9))
          have HF11 : Hid (∀ s' ∈ obI (.slice A1 3 c1), s' ∈ wtB (mpV M (p, s, hi, lo) zEn) ∨ w.heap.size ≤ s') := Lib.hid (fun s hs => by
            rw [HWB.out]
            rcases HVw.out s hs with h | h
            · exact .inl h
            · exact .inr (by have := HZ.out; omega))
          clear hT1 h10 hW11 f4 z0 z1 z2 z3 z4
          have HB := Lib.hid (HM.out.base (k := (p, s, hi, lo)) HT11.out)
          have hne : t ≠ m ∧ kb ≠ m ∧ eb ≠ m := ⟨HM.out.nd.1.1, by have := HZ.out; omega, by have := HZ.out; omega⟩
          have HC : Hid (∀ W, Tch W11 W [m] → W.cell? ⟨t, 0, none⟩ = some (.map (some m)) ∧ W.cell? ⟨kb, 0, none⟩ = some (.int .i64 p) ∧ W.cell? ⟨kb, 1, none⟩ = some (.bool s) ∧ W.cell? ⟨kb, 2, none⟩ = some (.int .u64 (hi : Int)) ∧ W.cell? ⟨kb, 3, none⟩ = some (.int .u64 (lo : Int)) ∧ W.cell? ⟨eb, 0, none⟩ = some (.int .i64 1) ∧ W.cell? ⟨eb, 1, none⟩ = some (.int .u64 mac) ∧ W.cell? ⟨eb, 2, none⟩ = some (.int .i64 lft) ∧ W.cell? ⟨eb, 3, none⟩ = some (.int .i64 ask) ∧ W.cell? ⟨eb, 4, none⟩ = some (.slice A1 3 c1)) := Lib.hid (fun W hT => by
            have h1 := hT.blk HB.out.1 (by simpa using hne.1)
            have h2 := hT.blk HK11.out (by simpa using hne.2.1)
            have h3 := hT.blk HE11.out (by simpa using hne.2.2)
            exact ⟨(h1.cell 0).trans rfl, (h2.cell 0).trans rfl, (h2.cell 1).trans rfl, (h2.cell 2).trans rfl, (h2.cell 3).trans rfl, (h3.cell 0).trans rfl, (h3.cell 1).trans rfl, (h3.cell 2).trans rfl, (h3.cell 3).trans rfl, (h3.cell 4).trans rfl⟩)
          clear hne
          refine wp_region_held_drew (S := (fun W => W.cell? ⟨t, 0, none⟩ = some (.map (some m)) ∧ W.cell? ⟨kb, 0, none⟩ = some (.int .i64 p) ∧ W.cell? ⟨kb, 1, none⟩ = some (.bool s) ∧ W.cell? ⟨kb, 2, none⟩ = some (.int .u64 (hi : Int)) ∧ W.cell? ⟨kb, 3, none⟩ = some (.int .u64 (lo : Int)) ∧ W.cell? ⟨eb, 0, none⟩ = some (.int .i64 1) ∧ W.cell? ⟨eb, 1, none⟩ = some (.int .u64 mac) ∧ W.cell? ⟨eb, 2, none⟩ = some (.int .i64 lft) ∧ W.cell? ⟨eb, 3, none⟩ = some (.int .i64 ask) ∧ W.cell? ⟨eb, 4, none⟩ = some (.slice A1 3 c1))) (by kernel_rfl) ?_ (fun hHeld => ?_)
          · ((first | exact HC.out _ (Tch.refl _ _).drew | exact HC.out _ HT12.out))
          refine tkH 0 (by assumption) ?_
          refine tkH 1 (by assumption) ?_
          refine tkH 2 (by assumption) ?_
          refine tkH 3 (by assumption) ?_
          refine tkH 4 (by assumption) ?_
          refine tkH 5 (by assumption) ?_
          refine wpAnyH_ready (rs := [6]) (by kernel_rfl) (by simp) ?_
          refine AllReadyH.cons (o := { dst := none, op := Go.Op.mapUpdate 61 (Go.Operand.tmp 81) (Go.Operand.tmp 82) (Go.Operand.tmp 83), type := 0, pos := "neigh.go:88", after := #[{ on := 3, ground := Go.Ground.data }, { on := 4, ground := Go.Ground.data }, { on := 5, ground := Go.Ground.data }, { on := 0, ground := Go.Ground.phase }, { on := 1, ground := Go.Ground.phase }, { on := 2, ground := Go.Ground.phase }, { on := 3, ground := Go.Ground.phase }, { on := 4, ground := Go.Ground.phase }, { on := 5, ground := Go.Ground.phase }], guard := none }) rfl (fun K hK => ?_) AllReadyH.nil
          rw [if_pos (by rfl)]
          (refine wpo_mset keyK_F (.tmp 81) (.tmp 82) (.tmp 83) 61 68 rfl Try.underlying61 rfl (p, s, hi, lo) rfl (.agg #[.int .i64 1, .int .u64 mac, .int .i64 lft, .int .i64 ask, .slice A1 3 c1]) rfl HB.out.2 (fun W12 hM12 hT12 hs12 => ?_); have HM12 := Lib.hid hM12; have HT12 : Hid (Tch W11 W12 [m]) := Lib.hid (((Tch.refl W11 [m]).drew).trans hT12); clear hM12 hT12 hs12)
          refine hK.out _ _ ?_ (fun hHeld => ?_)
          · ((first | exact HC.out _ (Tch.refl _ _).drew | exact HC.out _ HT12.out))
          clear hK K
          try simp only [Act.put]
          refine wpAnyH_done (by kernel_rfl) ?_ _
          go_wp2
          go_ret2
          exact send_end HM.out HT11.out (e := ⟨1, mac, lft, ask, rest ++ [q]⟩) HW11.out (fun s' hs => HF11.out s' hs) HInv.out HM12.out HT12.out HAc11.out rfl HSs.out
        · have b3 : ((n : Int) == 3) = false := by simp; omega
          have hs : sendT L (p, s, hi, lo) q = ([], 0, putT L (p, s, hi, lo) ⟨1, mac, lft, ask, wts ++ [q]⟩) := by
            unfold sendT
            rw [if_pos HR.out, hf]
            simp only
            unfold sendE
            rw [if_pos rfl, if_neg (by simp only; rw [HLn.out]; exact h3)]
          have hInv := HM.out.inv.send HN.out q
          rw [hs] at hInv
          have HInv := Lib.hid hInv
          have HSs := Lib.hid hs
          have HN3 := Lib.hid (And.intro hw3 h3)
          clear hf hs hInv hmac hl0 ha hw1
          have f4 := HE5.out.frozen 4
          go_wp2_with (first | (at_builtin; refine wpList_apc 52 9 (.string ⟨#[]⟩) 1 16 Try.underlying52 infoSt rfl (by decide) (by decide) _ rfl (.tmp 63) (.tmp 65) rfl 0 (.slice A n c) n (wts.map strC) rfl ((own_tch HO.out HT5w.out (by simp)).alloc _) ⟨_, 0, none⟩ 1 [.string q] rfl rfl (src_new _ _ _) (by intro u hu; simp at hu; rw [hu]; rfl) (by omega) (Nat.zero_le _) ?_; intro vw W10 hown hg hvw; obtain ⟨A1, c1, rfl, -, -⟩ := own_sl hown; have hT10 : Tch W5 W10 (obI (.slice A n c)) := ((Tch.refl W5 _).alloc _).trans (Tch.of_grown' hg (fun g' e => by rw [obI_some e]; simp)); have HT10 := Lib.hid hT10; have HE10 := Lib.hid (hT10.blk HE5.out (fun e => by have := HLts.out _ e; have := HZ.out; omega)); clear hT10 f4 z0 z1 z2 z3 z4; obtain ⟨k0, k1, k2, k3⟩ := (HT10.out.blk HK5.out (fun e => by have := HLts.out _ e; have := HZ.out; omega)).k4; have HWt := Lib.hid hown; have HVw := Lib.hid (one_at hvw (w := eb + 1) (by have := HE5.out.lt; simp; omega)); clear hown hg hvw; obtain ⟨z0, z1, z2, z3, z4⟩ := HE10.out.k5; have f4 := HE10.out.frozen 4))
          obtain ⟨W11, hW11⟩ : ∃ W, W10.setCell ⟨eb, 4, none⟩ (.slice A1 (n + 1) c1) = W := ⟨_, rfl⟩
          rw [hW11]
          have h10 : Tch W10 W11 [eb] := hW11 ▸ (Tch.refl W10 [eb]).set_ (by simp) _
          have HT11 : Hid (Tch w W11 (wtB (mpV M (p, s, hi, lo) zEn))) := Lib.hid (by rw [HWB.out]; exact ((HT5w.out.mono (by simp)).trans HT10.out).trans_fre h10 (by have := HZ.out; simp; omega))
          have HE11 : Hid (Blk W11 eb 68 #[.int .i64 1, .int .u64 mac, .int .i64 lft, .int .i64 ask, .slice A1 (n + 1) c1]) := Lib.hid (hW11 ▸ HE10.out.set_ 4 _)
          have HK11 := Lib.hid (h10.blk (HT10.out.blk HK5.out (fun e => by have := HLts.out _ e; have := HZ.out; omega)) (by have := HZ.out; simp; omega))
          have HAc11 : Hid (W11.ownsRow w.heap.size 41 7 (.slice none 0 0) 0 (([] : List AcI).flatMap acC)) := Lib.hid ⟨rfl, .inl ⟨rfl, rfl⟩⟩
          have HW11 : Hid (EnW W11 ⟨1, mac, lft, ask, wts ++ [q]⟩ (.agg #[.int .i64 1, .int .u64 mac, .int .i64 lft, .int .i64 ask, .slice A1 (n + 1) c1])) := Lib.hid (en_of (n := n + 1) (by simp [HLn.out]) rfl (by
            have h9 := own_tch HWt.out h10 (fun s hs e => by
              rw [List.mem_singleton.1 e] at hs
              rcases HVw.out eb hs with h | h
              · have := HLts.out _ h; have := HZ.out; omega
              · omega)
            simpa using h9))
          have HF11 : Hid (∀ s' ∈ obI (.slice A1 (n + 1) c1), s' ∈ wtB (mpV M (p, s, hi, lo) zEn) ∨ w.heap.size ≤ s') := Lib.hid (fun s hs => by
            rw [HWB.out]
            rcases HVw.out s hs with h | h
            · exact .inl h
            · exact .inr (by have := HZ.out; omega))
          clear h10 hW11 f4 z0 z1 z2 z3 z4 k0 k1 k2 k3
          have HB := Lib.hid (HM.out.base (k := (p, s, hi, lo)) HT11.out)
          have hne : t ≠ m ∧ kb ≠ m ∧ eb ≠ m := ⟨HM.out.nd.1.1, by have := HZ.out; omega, by have := HZ.out; omega⟩
          have HC : Hid (∀ W, Tch W11 W [m] → W.cell? ⟨t, 0, none⟩ = some (.map (some m)) ∧ W.cell? ⟨kb, 0, none⟩ = some (.int .i64 p) ∧ W.cell? ⟨kb, 1, none⟩ = some (.bool s) ∧ W.cell? ⟨kb, 2, none⟩ = some (.int .u64 (hi : Int)) ∧ W.cell? ⟨kb, 3, none⟩ = some (.int .u64 (lo : Int)) ∧ W.cell? ⟨eb, 0, none⟩ = some (.int .i64 1) ∧ W.cell? ⟨eb, 1, none⟩ = some (.int .u64 mac) ∧ W.cell? ⟨eb, 2, none⟩ = some (.int .i64 lft) ∧ W.cell? ⟨eb, 3, none⟩ = some (.int .i64 ask) ∧ W.cell? ⟨eb, 4, none⟩ = some (.slice A1 (n + 1) c1)) := Lib.hid (fun W hT => by
            have h1 := hT.blk HB.out.1 (by simpa using hne.1)
            have h2 := hT.blk HK11.out (by simpa using hne.2.1)
            have h3 := hT.blk HE11.out (by simpa using hne.2.2)
            exact ⟨(h1.cell 0).trans rfl, (h2.cell 0).trans rfl, (h2.cell 1).trans rfl, (h2.cell 2).trans rfl, (h2.cell 3).trans rfl, (h3.cell 0).trans rfl, (h3.cell 1).trans rfl, (h3.cell 2).trans rfl, (h3.cell 3).trans rfl, (h3.cell 4).trans rfl⟩)
          clear hne
          refine wp_region_held_drew (S := (fun W => W.cell? ⟨t, 0, none⟩ = some (.map (some m)) ∧ W.cell? ⟨kb, 0, none⟩ = some (.int .i64 p) ∧ W.cell? ⟨kb, 1, none⟩ = some (.bool s) ∧ W.cell? ⟨kb, 2, none⟩ = some (.int .u64 (hi : Int)) ∧ W.cell? ⟨kb, 3, none⟩ = some (.int .u64 (lo : Int)) ∧ W.cell? ⟨eb, 0, none⟩ = some (.int .i64 1) ∧ W.cell? ⟨eb, 1, none⟩ = some (.int .u64 mac) ∧ W.cell? ⟨eb, 2, none⟩ = some (.int .i64 lft) ∧ W.cell? ⟨eb, 3, none⟩ = some (.int .i64 ask) ∧ W.cell? ⟨eb, 4, none⟩ = some (.slice A1 (n + 1) c1))) (by kernel_rfl) ?_ (fun hHeld => ?_)
          · ((first | exact HC.out _ (Tch.refl _ _).drew | exact HC.out _ HT12.out))
          refine tkH 0 (by assumption) ?_
          refine tkH 1 (by assumption) ?_
          refine tkH 2 (by assumption) ?_
          refine tkH 3 (by assumption) ?_
          refine tkH 4 (by assumption) ?_
          refine tkH 5 (by assumption) ?_
          refine wpAnyH_ready (rs := [6]) (by kernel_rfl) (by simp) ?_
          refine AllReadyH.cons (o := { dst := none, op := Go.Op.mapUpdate 61 (Go.Operand.tmp 81) (Go.Operand.tmp 82) (Go.Operand.tmp 83), type := 0, pos := "neigh.go:88", after := #[{ on := 3, ground := Go.Ground.data }, { on := 4, ground := Go.Ground.data }, { on := 5, ground := Go.Ground.data }, { on := 0, ground := Go.Ground.phase }, { on := 1, ground := Go.Ground.phase }, { on := 2, ground := Go.Ground.phase }, { on := 3, ground := Go.Ground.phase }, { on := 4, ground := Go.Ground.phase }, { on := 5, ground := Go.Ground.phase }], guard := none }) rfl (fun K hK => ?_) AllReadyH.nil
          rw [if_pos (by rfl)]
          (refine wpo_mset keyK_F (.tmp 81) (.tmp 82) (.tmp 83) 61 68 rfl Try.underlying61 rfl (p, s, hi, lo) rfl (.agg #[.int .i64 1, .int .u64 mac, .int .i64 lft, .int .i64 ask, .slice A1 (n + 1) c1]) rfl HB.out.2 (fun W12 hM12 hT12 hs12 => ?_); have HM12 := Lib.hid hM12; have HT12 : Hid (Tch W11 W12 [m]) := Lib.hid (((Tch.refl W11 [m]).drew).trans hT12); clear hM12 hT12 hs12)
          refine hK.out _ _ ?_ (fun hHeld => ?_)
          · ((first | exact HC.out _ (Tch.refl _ _).drew | exact HC.out _ HT12.out))
          clear hK K
          try simp only [Act.put]
          refine wpAnyH_done (by kernel_rfl) ?_ _
          go_wp2
          go_ret2
          exact send_end HM.out HT11.out (e := ⟨1, mac, lft, ask, wts ++ [q]⟩) HW11.out (fun s' hs => HF11.out s' hs) HInv.out HM12.out HT12.out HAc11.out rfl HSs.out
      · simp only at hwn hmc hst hl hk
        subst hwn
        obtain rfl : n = 0 := by have := HLn.out; simpa using this.symm
        by_cases h3 : st = 3
        · subst h3
          have hs : sendT L (p, s, hi, lo) q = ([acI (p, s, hi, lo) 1 mac q], 0, putT L (p, s, hi, lo) ⟨4, mac, 5, ask, []⟩) := by
            unfold sendT
            rw [if_pos HR.out, hf]
            simp only
            unfold sendE
            rw [if_neg (by simp), if_pos rfl]
          have hInv := HM.out.inv.send HN.out q
          rw [hs] at hInv
          have HInv := Lib.hid hInv
          have HSs := Lib.hid hs
          have ne1 : ¬ kb = eb := by have := HZ.out; omega
          have ne2 : ¬ eb = kb := by have := HZ.out; omega
          have f0 := HE5.out.frozen 0
          have f2 := HE5.out.frozen 2
          clear hf hs hInv hmc hst hl hk
          go_wp2_with fail
          obtain ⟨W7, hW7⟩ : ∃ W, (W5.setCell ⟨eb, 0, none⟩ (.int .i64 4)).setCell ⟨eb, 2, none⟩ (.int .i64 5) = W := ⟨_, rfl⟩
          rw [hW7]
          have h7 : Tch W5 W7 [eb] := hW7 ▸ ((Tch.refl W5 [eb]).set_ (by simp) _).set_ (by simp) _
          have HE7 : Hid (Blk W7 eb 68 #[.int .i64 4, .int .u64 mac, .int .i64 5, .int .i64 ask, .slice A 0 c]) := Lib.hid (hW7 ▸ (HE5.out.set_ 0 _).set_ 2 _)
          have HK7 := Lib.hid (h7.blk HK5.out (by simpa using ne1))
          have HT7 : Hid (Tch w W7 []) := Lib.hid (HT5w.out.trans_fre h7 (by have := HZ.out; simp; omega))
          clear h7 hW7 ne1 ne2 f0 f2 z0 z1 z2 z3 z4
          refine Calls.mono (act_at p s hi lo 1 mac q W7) ?_
          rintro e W8 ⟨rfl, hT8⟩
          have HE8 := Lib.hid (hT8.blk HE7.out (by simp))
          have HK8 : Hid (Blk W8 kb 70 #[.int .i64 p, .bool s, .int .u64 (hi : Int), .int .u64 (lo : Int)]) := Lib.hid (hT8.blk HK7.out (by simp))
          have HT8 : Hid (Tch w W8 []) := Lib.hid (HT7.out.trans hT8)
          have HSz8 : Hid (w.heap.size ≤ W8.heap.size) := Lib.hid HT8.out.size
          clear hT8 k0 k1 k2 k3
          go_wp2_with (first | (at_builtin; refine wpList_apc 34 41 (.agg #[.int .i64 0, .int .i64 0, .bool false, .int .u64 0, .int .u64 0, .int .u64 0, .string ⟨#[]⟩]) 7 64 Try.underlying34 infoAc rfl (by decide) (by decide) _ rfl (.tmp 70) (.tmp 76) rfl w.heap.size (.slice none 0 0) 0 [] rfl ⟨rfl, .inl ⟨rfl, rfl⟩⟩ ⟨_, 0, none⟩ 1 [.int .i64 1, .int .i64 p, .bool s, .int .u64 (hi : Int), .int .u64 (lo : Int), .int .u64 mac, .string q] rfl rfl (src_new _ _ _) (acC_one ⟨1, (p, s, hi, lo), mac, q⟩) (by decide) (by have := HSz8.out; simp; omega) ?_; intro va W9 hown hg hva; have hT9 : Tch W8 W9 [] := ((Tch.refl W8 []).alloc _).trans (Tch.of_grown' hg (fun g e => by cases e)); obtain ⟨Aa, ca, rfl, -, -⟩ := own_sl hown; have HNa : Hid (∀ s ∈ obI (.slice Aa 1 ca), eb < s) := Lib.hid (fun s hs => (one_at hva (w := eb + 1) (by have := HE8.out.lt; simp; omega) s hs).resolve_left (by simp [obI, Value.ownBlock])); have HAc := Lib.hid hown; have HT9 := Lib.hid hT9; have HE9 := Lib.hid (hT9.blk HE8.out (by simp)); obtain ⟨z0, z1, z2, z3, z4⟩ := HE9.out.k5; obtain ⟨k0, k1, k2, k3⟩ := (hT9.blk HK8.out (by simp)).k4; clear hown hg hva hT9))
          have HT11 : Hid (Tch w W9 (wtB (mpV M (p, s, hi, lo) zEn))) := Lib.hid ((HT8.out.trans HT9.out).mono (by simp))
          have HE11 := HE9
          have HK11 := Lib.hid (HT9.out.blk HK8.out (by simp))
          have HAc11 : Hid (W9.ownsRow w.heap.size 41 7 (.slice Aa 1 ca) 1 ([acI (p, s, hi, lo) 1 mac q].flatMap acC)) := HAc
          have HW11 : Hid (EnW W9 ⟨4, mac, 5, ask, []⟩ (.agg #[.int .i64 4, .int .u64 mac, .int .i64 5, .int .i64 ask, .slice A 0 c])) := Lib.hid ⟨A, c, rfl, own_tch HO.out (HT8.out.trans HT9.out) (by simp)⟩
          have HF11 : Hid (∀ s' ∈ obI (.slice A 0 c), s' ∈ wtB (mpV M (p, s, hi, lo) zEn) ∨ w.heap.size ≤ s') := Lib.hid (fun s hs => by rw [HWB.out]; exact .inl hs)
          clear z0 z1 z2 z3 z4 k0 k1 k2 k3
          have HB := Lib.hid (HM.out.base (k := (p, s, hi, lo)) HT11.out)
          have hne : t ≠ m ∧ kb ≠ m ∧ eb ≠ m := ⟨HM.out.nd.1.1, by have := HZ.out; omega, by have := HZ.out; omega⟩
          have HC : Hid (∀ W, Tch W9 W [m] → W.cell? ⟨t, 0, none⟩ = some (.map (some m)) ∧ W.cell? ⟨kb, 0, none⟩ = some (.int .i64 p) ∧ W.cell? ⟨kb, 1, none⟩ = some (.bool s) ∧ W.cell? ⟨kb, 2, none⟩ = some (.int .u64 (hi : Int)) ∧ W.cell? ⟨kb, 3, none⟩ = some (.int .u64 (lo : Int)) ∧ W.cell? ⟨eb, 0, none⟩ = some (.int .i64 4) ∧ W.cell? ⟨eb, 1, none⟩ = some (.int .u64 mac) ∧ W.cell? ⟨eb, 2, none⟩ = some (.int .i64 5) ∧ W.cell? ⟨eb, 3, none⟩ = some (.int .i64 ask) ∧ W.cell? ⟨eb, 4, none⟩ = some (.slice A 0 c)) := Lib.hid (fun W hT => by
            have h1 := hT.blk HB.out.1 (by simpa using hne.1)
            have h2 := hT.blk HK11.out (by simpa using hne.2.1)
            have h3 := hT.blk HE11.out (by simpa using hne.2.2)
            exact ⟨(h1.cell 0).trans rfl, (h2.cell 0).trans rfl, (h2.cell 1).trans rfl, (h2.cell 2).trans rfl, (h2.cell 3).trans rfl, (h3.cell 0).trans rfl, (h3.cell 1).trans rfl, (h3.cell 2).trans rfl, (h3.cell 3).trans rfl, (h3.cell 4).trans rfl⟩)
          clear hne
          refine wp_region_held_drew (S := (fun W => W.cell? ⟨t, 0, none⟩ = some (.map (some m)) ∧ W.cell? ⟨kb, 0, none⟩ = some (.int .i64 p) ∧ W.cell? ⟨kb, 1, none⟩ = some (.bool s) ∧ W.cell? ⟨kb, 2, none⟩ = some (.int .u64 (hi : Int)) ∧ W.cell? ⟨kb, 3, none⟩ = some (.int .u64 (lo : Int)) ∧ W.cell? ⟨eb, 0, none⟩ = some (.int .i64 4) ∧ W.cell? ⟨eb, 1, none⟩ = some (.int .u64 mac) ∧ W.cell? ⟨eb, 2, none⟩ = some (.int .i64 5) ∧ W.cell? ⟨eb, 3, none⟩ = some (.int .i64 ask) ∧ W.cell? ⟨eb, 4, none⟩ = some (.slice A 0 c))) (by kernel_rfl) ?_ (fun hHeld => ?_)
          · ((first | exact HC.out _ (Tch.refl _ _).drew | exact HC.out _ HT12.out))
          refine tkH 0 (by assumption) ?_
          refine tkH 1 (by assumption) ?_
          refine tkH 2 (by assumption) ?_
          refine tkH 3 (by assumption) ?_
          refine tkH 4 (by assumption) ?_
          refine tkH 5 (by assumption) ?_
          refine wpAnyH_ready (rs := [6]) (by kernel_rfl) (by simp) ?_
          refine AllReadyH.cons (o := { dst := none, op := Go.Op.mapUpdate 61 (Go.Operand.tmp 81) (Go.Operand.tmp 82) (Go.Operand.tmp 83), type := 0, pos := "neigh.go:88", after := #[{ on := 3, ground := Go.Ground.data }, { on := 4, ground := Go.Ground.data }, { on := 5, ground := Go.Ground.data }, { on := 0, ground := Go.Ground.phase }, { on := 1, ground := Go.Ground.phase }, { on := 2, ground := Go.Ground.phase }, { on := 3, ground := Go.Ground.phase }, { on := 4, ground := Go.Ground.phase }, { on := 5, ground := Go.Ground.phase }], guard := none }) rfl (fun K hK => ?_) AllReadyH.nil
          rw [if_pos (by rfl)]
          (refine wpo_mset keyK_F (.tmp 81) (.tmp 82) (.tmp 83) 61 68 rfl Try.underlying61 rfl (p, s, hi, lo) rfl (.agg #[.int .i64 4, .int .u64 mac, .int .i64 5, .int .i64 ask, .slice A 0 c]) rfl HB.out.2 (fun W12 hM12 hT12 hs12 => ?_); have HM12 := Lib.hid hM12; have HT12 : Hid (Tch W9 W12 [m]) := Lib.hid (((Tch.refl W9 [m]).drew).trans hT12); clear hM12 hT12 hs12)
          refine hK.out _ _ ?_ (fun hHeld => ?_)
          · ((first | exact HC.out _ (Tch.refl _ _).drew | exact HC.out _ HT12.out))
          clear hK K
          try simp only [Act.put]
          refine wpAnyH_done (by kernel_rfl) ?_ _
          go_wp2
          go_ret2
          exact send_end HM.out HT11.out (e := ⟨4, mac, 5, ask, []⟩) HW11.out (fun s' hs => HF11.out s' hs) HInv.out HM12.out HT12.out HAc11.out rfl HSs.out
        · have hs : sendT L (p, s, hi, lo) q = ([acI (p, s, hi, lo) 1 mac q], 0, putT L (p, s, hi, lo) ⟨st, mac, lft, ask, []⟩) := by
            unfold sendT
            rw [if_pos HR.out, hf]
            simp only
            unfold sendE
            rw [if_neg (by simp only; omega), if_neg h3]
          have hInv := HM.out.inv.send HN.out q
          rw [hs] at hInv
          have HInv := Lib.hid hInv
          have HSs := Lib.hid hs
          have n0 : (st == 0) = false := by simp; omega
          have n1 : (st == 1) = false := by simp; omega
          have n3 : (st == 3) = false := by simp; omega
          clear hf hs hInv hmc hst hl hk
          go_wp2_with fail
          clear z0 z1 z2 z3 z4
          refine Calls.mono (act_at p s hi lo 1 mac q W5) ?_
          rintro e W8 ⟨rfl, hT8⟩
          have HE8 := Lib.hid (hT8.blk HE5.out (by simp))
          have HK8 : Hid (Blk W8 kb 70 #[.int .i64 p, .bool s, .int .u64 (hi : Int), .int .u64 (lo : Int)]) := Lib.hid (hT8.blk HK5.out (by simp))
          have HT8 : Hid (Tch w W8 []) := Lib.hid (HT5w.out.trans hT8)
          have HSz8 : Hid (w.heap.size ≤ W8.heap.size) := Lib.hid HT8.out.size
          clear hT8 k0 k1 k2 k3
          go_wp2_with (first | (at_builtin; refine wpList_apc 34 41 (.agg #[.int .i64 0, .int .i64 0, .bool false, .int .u64 0, .int .u64 0, .int .u64 0, .string ⟨#[]⟩]) 7 64 Try.underlying34 infoAc rfl (by decide) (by decide) _ rfl (.tmp 70) (.tmp 76) rfl w.heap.size (.slice none 0 0) 0 [] rfl ⟨rfl, .inl ⟨rfl, rfl⟩⟩ ⟨_, 0, none⟩ 1 [.int .i64 1, .int .i64 p, .bool s, .int .u64 (hi : Int), .int .u64 (lo : Int), .int .u64 mac, .string q] rfl rfl (src_new _ _ _) (acC_one ⟨1, (p, s, hi, lo), mac, q⟩) (by decide) (by have := HSz8.out; simp; omega) ?_; intro va W9 hown hg hva; have hT9 : Tch W8 W9 [] := ((Tch.refl W8 []).alloc _).trans (Tch.of_grown' hg (fun g e => by cases e)); obtain ⟨Aa, ca, rfl, -, -⟩ := own_sl hown; have HNa : Hid (∀ s ∈ obI (.slice Aa 1 ca), eb < s) := Lib.hid (fun s hs => (one_at hva (w := eb + 1) (by have := HE8.out.lt; simp; omega) s hs).resolve_left (by simp [obI, Value.ownBlock])); have HAc := Lib.hid hown; have HT9 := Lib.hid hT9; have HE9 := Lib.hid (hT9.blk HE8.out (by simp)); obtain ⟨z0, z1, z2, z3, z4⟩ := HE9.out.k5; obtain ⟨k0, k1, k2, k3⟩ := (hT9.blk HK8.out (by simp)).k4; clear hown hg hva hT9))
          have HT11 : Hid (Tch w W9 (wtB (mpV M (p, s, hi, lo) zEn))) := Lib.hid ((HT8.out.trans HT9.out).mono (by simp))
          have HE11 := HE9
          have HK11 := Lib.hid (HT9.out.blk HK8.out (by simp))
          have HAc11 : Hid (W9.ownsRow w.heap.size 41 7 (.slice Aa 1 ca) 1 ([acI (p, s, hi, lo) 1 mac q].flatMap acC)) := HAc
          have HW11 : Hid (EnW W9 ⟨st, mac, lft, ask, []⟩ (.agg #[.int .i64 st, .int .u64 mac, .int .i64 lft, .int .i64 ask, .slice A 0 c])) := Lib.hid ⟨A, c, rfl, own_tch HO.out (HT8.out.trans HT9.out) (by simp)⟩
          have HF11 : Hid (∀ s' ∈ obI (.slice A 0 c), s' ∈ wtB (mpV M (p, s, hi, lo) zEn) ∨ w.heap.size ≤ s') := Lib.hid (fun s hs => by rw [HWB.out]; exact .inl hs)
          clear z0 z1 z2 z3 z4 k0 k1 k2 k3
          have HB := Lib.hid (HM.out.base (k := (p, s, hi, lo)) HT11.out)
          have hne : t ≠ m ∧ kb ≠ m ∧ eb ≠ m := ⟨HM.out.nd.1.1, by have := HZ.out; omega, by have := HZ.out; omega⟩
          have HC : Hid (∀ W, Tch W9 W [m] → W.cell? ⟨t, 0, none⟩ = some (.map (some m)) ∧ W.cell? ⟨kb, 0, none⟩ = some (.int .i64 p) ∧ W.cell? ⟨kb, 1, none⟩ = some (.bool s) ∧ W.cell? ⟨kb, 2, none⟩ = some (.int .u64 (hi : Int)) ∧ W.cell? ⟨kb, 3, none⟩ = some (.int .u64 (lo : Int)) ∧ W.cell? ⟨eb, 0, none⟩ = some (.int .i64 st) ∧ W.cell? ⟨eb, 1, none⟩ = some (.int .u64 mac) ∧ W.cell? ⟨eb, 2, none⟩ = some (.int .i64 lft) ∧ W.cell? ⟨eb, 3, none⟩ = some (.int .i64 ask) ∧ W.cell? ⟨eb, 4, none⟩ = some (.slice A 0 c)) := Lib.hid (fun W hT => by
            have h1 := hT.blk HB.out.1 (by simpa using hne.1)
            have h2 := hT.blk HK11.out (by simpa using hne.2.1)
            have h3 := hT.blk HE11.out (by simpa using hne.2.2)
            exact ⟨(h1.cell 0).trans rfl, (h2.cell 0).trans rfl, (h2.cell 1).trans rfl, (h2.cell 2).trans rfl, (h2.cell 3).trans rfl, (h3.cell 0).trans rfl, (h3.cell 1).trans rfl, (h3.cell 2).trans rfl, (h3.cell 3).trans rfl, (h3.cell 4).trans rfl⟩)
          clear hne
          refine wp_region_held_drew (S := (fun W => W.cell? ⟨t, 0, none⟩ = some (.map (some m)) ∧ W.cell? ⟨kb, 0, none⟩ = some (.int .i64 p) ∧ W.cell? ⟨kb, 1, none⟩ = some (.bool s) ∧ W.cell? ⟨kb, 2, none⟩ = some (.int .u64 (hi : Int)) ∧ W.cell? ⟨kb, 3, none⟩ = some (.int .u64 (lo : Int)) ∧ W.cell? ⟨eb, 0, none⟩ = some (.int .i64 st) ∧ W.cell? ⟨eb, 1, none⟩ = some (.int .u64 mac) ∧ W.cell? ⟨eb, 2, none⟩ = some (.int .i64 lft) ∧ W.cell? ⟨eb, 3, none⟩ = some (.int .i64 ask) ∧ W.cell? ⟨eb, 4, none⟩ = some (.slice A 0 c))) (by kernel_rfl) ?_ (fun hHeld => ?_)
          · ((first | exact HC.out _ (Tch.refl _ _).drew | exact HC.out _ HT12.out))
          refine tkH 0 (by assumption) ?_
          refine tkH 1 (by assumption) ?_
          refine tkH 2 (by assumption) ?_
          refine tkH 3 (by assumption) ?_
          refine tkH 4 (by assumption) ?_
          refine tkH 5 (by assumption) ?_
          refine wpAnyH_ready (rs := [6]) (by kernel_rfl) (by simp) ?_
          refine AllReadyH.cons (o := { dst := none, op := Go.Op.mapUpdate 61 (Go.Operand.tmp 81) (Go.Operand.tmp 82) (Go.Operand.tmp 83), type := 0, pos := "neigh.go:88", after := #[{ on := 3, ground := Go.Ground.data }, { on := 4, ground := Go.Ground.data }, { on := 5, ground := Go.Ground.data }, { on := 0, ground := Go.Ground.phase }, { on := 1, ground := Go.Ground.phase }, { on := 2, ground := Go.Ground.phase }, { on := 3, ground := Go.Ground.phase }, { on := 4, ground := Go.Ground.phase }, { on := 5, ground := Go.Ground.phase }], guard := none }) rfl (fun K hK => ?_) AllReadyH.nil
          rw [if_pos (by rfl)]
          (refine wpo_mset keyK_F (.tmp 81) (.tmp 82) (.tmp 83) 61 68 rfl Try.underlying61 rfl (p, s, hi, lo) rfl (.agg #[.int .i64 st, .int .u64 mac, .int .i64 lft, .int .i64 ask, .slice A 0 c]) rfl HB.out.2 (fun W12 hM12 hT12 hs12 => ?_); have HM12 := Lib.hid hM12; have HT12 : Hid (Tch W9 W12 [m]) := Lib.hid (((Tch.refl W9 [m]).drew).trans hT12); clear hM12 hT12 hs12)
          refine hK.out _ _ ?_ (fun hHeld => ?_)
          · ((first | exact HC.out _ (Tch.refl _ _).drew | exact HC.out _ HT12.out))
          clear hK K
          try simp only [Act.put]
          refine wpAnyH_done (by kernel_rfl) ?_ _
          go_wp2
          go_ret2
          exact send_end HM.out HT11.out (e := ⟨st, mac, lft, ask, []⟩) HW11.out (fun s' hs => HF11.out s' hs) HInv.out HM12.out HT12.out HAc11.out rfl HSs.out
end Go.Proofs.Ytlbkphnbpenbcaa
