/-
  The program's own cache of neighbours (layer 19): ask, pass.
-/
import Derived.Test.YtlbkphnbpenbcaaNgR
namespace Go.Proofs.Ytlbkphnbpenbcaa
open Go.RowKit
set_option linter.unusedVariables false

theorem ActS.up {w W1 W2 : World} {t : Nat} {S : List Nat} {r : List AcI × TbI} {e : Ending} (hT : Tch w W1 []) (h : ActS W1 W2 t S r e) : ActS w W2 t S r e := by
  obtain ⟨A, c, S', he, ho, hp, hg⟩ := h
  exact ⟨A, c, S', he, own_mono ho hT.size, hp, (Goes.of_nil hT S).trans_ hg⟩
def optT (L : TbI) (k : KyI) (o : Option EnI) : TbI := match o with | some f => putT L k f | none => delT L k
set_option maxRecDepth 100000 in
set_option maxHeartbeats 4000000 in
theorem askN {w : World} {t m : Nat} {M : List (KyI × Value)} {S : List Nat} {L : TbI} (hm : NgM w t m M S L) (k : KyI) (st mac lft ask : Int) (wts : List ByteArray) (A : Option Addr) (n c : Nat) (hn : wts.length = n) (ho : w.ownsRow 0 9 1 (.slice A n c) n (wts.map strC)) (hsub : ∀ s' ∈ obI (.slice A n c), s' ∈ wtB (mpV M k zEn)) (hw : ask = 3 → wtsK L k = wts) (hI : ¬ ask = 3 → InvT (putT L k ⟨st, mac, lft, ask + 1, wts⟩)) (ha : 0 ≤ ask ∧ ask ≤ 3) :
    Calls Try.prog 54 #[.pointer (some ⟨t, 0, none⟩), kyV k, .agg #[.int .i64 st, .int .u64 mac, .int .i64 lft, .int .i64 ask, .slice A n c]] w fun e w' => ActS w w' t S ((askE k ⟨st, mac, lft, ask, wts⟩).1, optT L k (askE k ⟨st, mac, lft, ask, wts⟩).2) e := by
  have HM := Lib.hid hm
  have HO := Lib.hid ho
  have HLn := Lib.hid hn
  have HSub := Lib.hid hsub
  have HAw := Lib.hid hw
  have HI := Lib.hid hI
  have HA := Lib.hid ha
  have HRm := Lib.hid (fun W (hW : Tch w W []) => removeN ⟨m, M, hm.tch hW (by simp)⟩ k 3)
  obtain ⟨p, s, hi, lo⟩ := k
  obtain ⟨W0, hW0⟩ : ∃ W, w.alloc (.cells #[.int .i64 p, .bool s, .int .u64 (hi : Int), .int .u64 (lo : Int)] 70) = W := ⟨_, rfl⟩
  obtain ⟨kb, hkb⟩ : ∃ kb, w.heap.size = kb := ⟨_, rfl⟩
  have hB0 : Blk W0 kb 70 #[.int .i64 p, .bool s, .int .u64 (hi : Int), .int .u64 (lo : Int)] := hW0 ▸ hkb ▸ Blk.new w _ _
  have hT0 : Tch w W0 [] := hW0 ▸ (Tch.refl w []).alloc _
  obtain ⟨W1, hW1⟩ : ∃ W, W0.alloc (.cells #[.int .i64 st, .int .u64 mac, .int .i64 lft, .int .i64 ask, .slice A n c] 68) = W := ⟨_, rfl⟩
  obtain ⟨eb, heb⟩ : ∃ eb, W0.heap.size = eb := ⟨_, rfl⟩
  have hE1 : Blk W1 eb 68 #[.int .i64 st, .int .u64 mac, .int .i64 lft, .int .i64 ask, .slice A n c] := hW1 ▸ heb ▸ Blk.new W0 _ _
  have hT1 : Tch W0 W1 [] := hW1 ▸ (Tch.refl W0 []).alloc _
  have HK1 : Hid (Blk W1 kb 70 #[.int .i64 p, .bool s, .int .u64 (hi : Int), .int .u64 (lo : Int)]) := Lib.hid (hT1.blk hB0 (by simp))
  have HE1 := Lib.hid hE1
  have HT1 : Hid (Tch w W1 []) := Lib.hid (hT0.trans hT1)
  have HZ : Hid (w.heap.size ≤ kb ∧ kb < eb ∧ eb < W1.heap.size ∧ t < w.heap.size ∧ m < w.heap.size) := Lib.hid (by
    have h1 : W0.heap.size = w.heap.size + 1 := by rw [← hW0]; simp
    exact ⟨by omega, by omega, hE1.lt, hm.lt t (by rw [hm.eS]; simp), hm.lt m (by rw [hm.eS]; simp)⟩)
  have HW := Lib.hid (And.intro (And.intro hW0 hkb) (And.intro hW1 heb))
  obtain ⟨z0, z1, z2, z3, z4⟩ := hE1.k5
  obtain ⟨k0, k1, k2, k3⟩ := HK1.out.k4
  have f3 := hE1.frozen 3
  clear hW0 hkb hB0 hT0 hW1 heb hE1 hT1 hm ho hn hsub hw hI
  unfold askE
  simp only
  by_cases h3 : ask = 3
  · subst h3
    rw [if_pos rfl]
    have hw := HAw.out rfl
    go_enter Try.func54, Try.ntmps54
    go_wp2_with (first | (rw [HW.out.1.1, HW.out.1.2]) | (rw [HW.out.2.1, HW.out.2.2]))
    refine Calls.mono (HRm.out W1 HT1.out) ?_
    rintro e W2 h2
    have HFin : Hid (ActS w W2 t S (wts.map (acI (p, s, hi, lo) 3 0), delT L (p, s, hi, lo)) e) := Lib.hid (ActS.up HT1.out (by rw [← hw]; exact h2))
    obtain ⟨A2, c2, S2, he, -⟩ := h2
    obtain ⟨n2, hn2⟩ : ∃ n2, ((wtsK L (p, s, hi, lo)).map (acI (p, s, hi, lo) 3 0)).length = n2 := ⟨_, rfl⟩
    simp only [hn2] at he
    subst he
    clear hn2 hw
    go_wp2
    go_ret
    exact HFin.out
  · rw [if_neg h3]
    have b3 : (ask == 3) = false := by simpa using h3
    have a1 : IntKind.i64.wrap (ask + 1) = ask + 1 := by rw [IntKind.wrap_i64] <;> omega
    have HInv := Lib.hid (HI.out h3)
    clear h3 ha
    go_enter Try.func54, Try.ntmps54
    go_wp2_with (first | (rw [HW.out.1.1, HW.out.1.2]) | (rw [HW.out.2.1, HW.out.2.2]))
    obtain ⟨W2, hW2⟩ : ∃ W, W1.setCell ⟨eb, 3, none⟩ (.int .i64 (ask + 1)) = W := ⟨_, rfl⟩
    rw [hW2]
    have h12 : Tch W1 W2 [eb] := hW2 ▸ (Tch.refl W1 [eb]).set_ (by simp) _
    have HE2 : Hid (Blk W2 eb 68 #[.int .i64 st, .int .u64 mac, .int .i64 lft, .int .i64 (ask + 1), .slice A n c]) := Lib.hid (hW2 ▸ HE1.out.set_ 3 _)
    have HK2 := Lib.hid (h12.blk HK1.out (by have := HZ.out; simp; omega))
    have HT2 : Hid (Tch w W2 []) := Lib.hid (HT1.out.trans_fre h12 (by have := HZ.out; simp; omega))
    have hne : t ≠ m ∧ kb ≠ m ∧ eb ≠ m := ⟨HM.out.nd.1.1, by have := HZ.out; omega, by have := HZ.out; omega⟩
    have HC : Hid (∀ W, Tch W2 W [m] → W.cell? ⟨t, 0, none⟩ = some (.map (some m)) ∧ W.cell? ⟨kb, 0, none⟩ = some (.int .i64 p) ∧ W.cell? ⟨kb, 1, none⟩ = some (.bool s) ∧ W.cell? ⟨kb, 2, none⟩ = some (.int .u64 (hi : Int)) ∧ W.cell? ⟨kb, 3, none⟩ = some (.int .u64 (lo : Int)) ∧ W.cell? ⟨eb, 0, none⟩ = some (.int .i64 st) ∧ W.cell? ⟨eb, 1, none⟩ = some (.int .u64 mac) ∧ W.cell? ⟨eb, 2, none⟩ = some (.int .i64 lft) ∧ W.cell? ⟨eb, 3, none⟩ = some (.int .i64 (ask + 1)) ∧ W.cell? ⟨eb, 4, none⟩ = some (.slice A n c)) := Lib.hid (fun W hT => by
      have h1 := hT.blk (HM.out.tch HT2.out (by simp)).bt (by simpa using hne.1)
      have h2 := hT.blk HK2.out (by simpa using hne.2.1)
      have h3 := hT.blk HE2.out (by simpa using hne.2.2)
      exact ⟨(h1.cell 0).trans rfl, (h2.cell 0).trans rfl, (h2.cell 1).trans rfl, (h2.cell 2).trans rfl, (h2.cell 3).trans rfl, (h3.cell 0).trans rfl, (h3.cell 1).trans rfl, (h3.cell 2).trans rfl, (h3.cell 3).trans rfl, (h3.cell 4).trans rfl⟩)
    have HMp : Hid (MpIs (fun k : KyI => kyV k) W2.drew m M) := Lib.hid ((HM.out.mp.tch HT2.out (by simp)).tch ((Tch.refl W2 []).drew) (by simp))
    clear h12 hW2 hne z0 z1 z2 z3 z4 k0 k1 k2 k3 f3
    refine wp_region_held_drew (S := (fun W => W.cell? ⟨t, 0, none⟩ = some (.map (some m)) ∧ W.cell? ⟨kb, 0, none⟩ = some (.int .i64 p) ∧ W.cell? ⟨kb, 1, none⟩ = some (.bool s) ∧ W.cell? ⟨kb, 2, none⟩ = some (.int .u64 (hi : Int)) ∧ W.cell? ⟨kb, 3, none⟩ = some (.int .u64 (lo : Int)) ∧ W.cell? ⟨eb, 0, none⟩ = some (.int .i64 st) ∧ W.cell? ⟨eb, 1, none⟩ = some (.int .u64 mac) ∧ W.cell? ⟨eb, 2, none⟩ = some (.int .i64 lft) ∧ W.cell? ⟨eb, 3, none⟩ = some (.int .i64 (ask + 1)) ∧ W.cell? ⟨eb, 4, none⟩ = some (.slice A n c))) (by kernel_rfl) ?_ (fun hHeld => ?_)
    · ((first | exact HC.out _ (Tch.refl _ _).drew | exact HC.out _ HT3.out))
    refine tkH 0 (by assumption) ?_
    refine tkH 1 (by assumption) ?_
    refine tkH 2 (by assumption) ?_
    refine tkH 3 (by assumption) ?_
    refine tkH 4 (by assumption) ?_
    refine tkH 5 (by assumption) ?_
    refine wpAnyH_ready (rs := [6]) (by kernel_rfl) (by simp) ?_
    refine AllReadyH.cons (o := { dst := none, op := Go.Op.mapUpdate 61 (Go.Operand.tmp 20) (Go.Operand.tmp 21) (Go.Operand.tmp 22), type := 0, pos := "tick.go:75", after := #[{ on := 3, ground := Go.Ground.data }, { on := 4, ground := Go.Ground.data }, { on := 5, ground := Go.Ground.data }, { on := 0, ground := Go.Ground.phase }, { on := 1, ground := Go.Ground.phase }, { on := 2, ground := Go.Ground.phase }, { on := 3, ground := Go.Ground.phase }, { on := 4, ground := Go.Ground.phase }, { on := 5, ground := Go.Ground.phase }], guard := none }) rfl (fun K hK => ?_) AllReadyH.nil
    rw [if_pos (by rfl)]
    (refine wpo_mset keyK_F (.tmp 20) (.tmp 21) (.tmp 22) 61 68 rfl Try.underlying61 rfl (p, s, hi, lo) rfl (.agg #[.int .i64 st, .int .u64 mac, .int .i64 lft, .int .i64 (ask + 1), .slice A n c]) rfl HMp.out (fun W3 hM3 hT3 hs3 => ?_); have HM3 := Lib.hid hM3; have HT3 : Hid (Tch W2 W3 [m]) := Lib.hid (((Tch.refl W2 [m]).drew).trans hT3); clear hM3 hT3 hs3)
    refine hK.out _ _ ?_ (fun hHeld => ?_)
    · ((first | exact HC.out _ (Tch.refl _ _).drew | exact HC.out _ HT3.out))
    clear hK K
    try simp only [Act.put]
    refine wpAnyH_done (by kernel_rfl) ?_ _
    obtain ⟨-, k0, k1, k2, k3, z0, z1, z2, z3, z4⟩ := HC.out W3 HT3.out
    go_wp2_with fail
    refine Calls.mono (act_at p s hi lo 2 mac ⟨#[]⟩ W3) ?_
    rintro e W4 ⟨rfl, hT4⟩
    have HT4 := Lib.hid hT4
    clear hT4 k0 k1 k2 k3 z0 z1 z2 z3 z4
    go_wp2
    go_ret
    exact sendS_end HM.out (HT2.out.mono (by simp)) (e := ⟨st, mac, lft, ask + 1, wts⟩) (en_of HLn.out rfl (own_tch HO.out HT2.out (by simp))) (fun s' hs => .inl (HSub.out s' hs)) HInv.out HM3.out HT3.out (HT4.out.alloc _) (acts := [acI (p, s, hi, lo) 2 mac nilS8]) (own_one rfl (((HT2.out.mono (by simp)).trans_fre HT3.out (S := [m]) (by simp)).trans (HT4.out.mono (by simp))).size) rfl rfl
set_option maxRecDepth 100000 in
set_option maxHeartbeats 4000000 in
theorem passN {w : World} {t : Nat} {S : List Nat} {L : TbI} (h : NgP w t S L) (k : KyI) (en : EnI) (hf : fnd L k = some en) :
    Calls Try.prog 37 #[.pointer (some ⟨t, 0, none⟩), kyV k] w fun e w' => ActS w w' t S ((tikE k en).1, optT L k (tikE k en).2) e := by
  obtain ⟨m, M, hm⟩ := h
  have hok := hm.inv.okF hf
  have HInv := Lib.hid (fun f (h : (tikE k en).2 = some f) => hm.inv.put hok.2.1 hok.2.2 (hok.1.tik h) (.inl (by rw [hf]; rfl)))
  obtain ⟨A, c, hv, ho⟩ := hm.at2 k
  have hwk : wtsK L k = en.wts := wts_some hf
  have hE : gtE L k = en := by unfold gtE; rw [hf]; rfl
  rw [hE] at hv ho
  obtain ⟨st, mac, lft, ask, wts⟩ := en
  obtain ⟨n, hln⟩ : ∃ n, wts.length = n := ⟨_, rfl⟩
  simp only [hln] at hv ho hwk
  have HOk := Lib.hid hok.1
  have HWk := Lib.hid hwk
  have HLn := Lib.hid hln
  have HM := Lib.hid hm
  have HV := Lib.hid hv
  have HO := Lib.hid ho
  have HWB : Hid (wtB (mpV M k zEn) = obI (.slice A n c)) := Lib.hid (by rw [hv]; rfl)
  obtain ⟨p, s, hi, lo⟩ := k
  obtain ⟨W0, hW0⟩ : ∃ W, w.alloc (.cells #[.int .i64 p, .bool s, .int .u64 (hi : Int), .int .u64 (lo : Int)] 70) = W := ⟨_, rfl⟩
  obtain ⟨kb, hkb⟩ : ∃ kb, w.heap.size = kb := ⟨_, rfl⟩
  have hB0 : Blk W0 kb 70 #[.int .i64 p, .bool s, .int .u64 (hi : Int), .int .u64 (lo : Int)] := hW0 ▸ hkb ▸ Blk.new w _ _
  have hT0 : Tch w W0 [] := hW0 ▸ (Tch.refl w []).alloc _
  have HB0 := Lib.hid hB0
  have HT0 := Lib.hid hT0
  obtain ⟨W4, hW4⟩ : ∃ W, (W0.alloc (.cells #[.int .i64 0, .int .u64 0, .int .i64 0, .int .i64 0, .slice none 0 0] 68)).drew = W := ⟨_, rfl⟩
  obtain ⟨eb, heb⟩ : ∃ eb, W0.heap.size = eb := ⟨_, rfl⟩
  have HEb : Hid (Blk W4 eb 68 #[.int .i64 0, .int .u64 0, .int .i64 0, .int .i64 0, .slice none 0 0]) := Lib.hid (hW4 ▸ heb ▸ (Blk.new W0 _ _).drew)
  have HT4 : Hid (Tch W0 W4 []) := Lib.hid (hW4 ▸ ((Tch.refl W0 []).alloc _).drew)
  have HZ : Hid (w.heap.size ≤ kb ∧ kb < eb ∧ W0.heap.size ≤ eb ∧ t < w.heap.size ∧ m < w.heap.size) := Lib.hid ⟨by omega, by have := hB0.lt; omega, by omega, hm.lt t (by rw [hm.eS]; simp), hm.lt m (by rw [hm.eS]; simp)⟩
  have HW := Lib.hid (And.intro (And.intro hW0 hkb) (And.intro hW4 heb))
  have HS : Hid (∀ W, Tch W0 W [] → W.cell? ⟨t, 0, none⟩ = some (.map (some m)) ∧ W.cell? ⟨kb, 0, none⟩ = some (.int .i64 p) ∧ W.cell? ⟨kb, 1, none⟩ = some (.bool s) ∧ W.cell? ⟨kb, 2, none⟩ = some (.int .u64 (hi : Int)) ∧ W.cell? ⟨kb, 3, none⟩ = some (.int .u64 (lo : Int)) ∧ (Instr.lookup 61 (.map (some m)) (.agg #[.int .i64 p, .bool s, .int .u64 (hi : Int), .int .u64 (lo : Int)]) false).run Try.prog W = .ok (.agg #[.int .i64 st, .int .u64 mac, .int .i64 lft, .int .i64 ask, .slice A n c]) W) := Lib.hid (fun W hT => by
    have hm' := HM.out.tch (HT0.out.trans hT) (by simp)
    have hx := hT.blk HB0.out (by simp)
    exact ⟨(hm'.bt.cell 0).trans rfl, (hx.cell 0).trans rfl, (hx.cell 1).trans rfl, (hx.cell 2).trans rfl, (hx.cell 3).trans rfl, by have := hm'.look (p, s, hi, lo); rw [HV.out] at this; exact this⟩)
  clear hW0 hkb hB0 hT0 hW4 heb hm hv ho hln hE hok hf hwk
  obtain ⟨r, hr⟩ : ∃ r, ((tikE (p, s, hi, lo) ⟨st, mac, lft, ask, wts⟩).1, optT L (p, s, hi, lo) (tikE (p, s, hi, lo) ⟨st, mac, lft, ask, wts⟩).2) = r := ⟨_, rfl⟩
  have HRr := Lib.hid hr
  rw [hr]
  clear hr
  go_enter Try.func37, Try.ntmps37
  go_wp2_with (first | (rw [HW.out.1.1, HW.out.1.2]))
  refine wp_region_held_drew (S := (fun W => W.cell? ⟨t, 0, none⟩ = some (.map (some m)) ∧ W.cell? ⟨kb, 0, none⟩ = some (.int .i64 p) ∧ W.cell? ⟨kb, 1, none⟩ = some (.bool s) ∧ W.cell? ⟨kb, 2, none⟩ = some (.int .u64 (hi : Int)) ∧ W.cell? ⟨kb, 3, none⟩ = some (.int .u64 (lo : Int)) ∧ (Instr.lookup 61 (.map (some m)) (.agg #[.int .i64 p, .bool s, .int .u64 (hi : Int), .int .u64 (lo : Int)]) false).run Try.prog W = .ok (.agg #[.int .i64 st, .int .u64 mac, .int .i64 lft, .int .i64 ask, .slice A n c]) W)) (by kernel_rfl) ?_ (fun hHeld => ?_)
  · ((first | exact HS.out _ (Tch.refl _ _).drew | exact HS.out _ HT5.out | exact HS.out _ HT4.out))
  refine tkH 0 (by assumption) ?_
  refine tkH 1 (by assumption) ?_
  refine tkH 2 (by assumption) ?_
  refine tkH 3 (by assumption) ?_
  refine tkH 4 (by assumption) ?_
  refine tkH 5 (by assumption) ?_
  refine wpAnyH_ready (rs := [6]) (by kernel_rfl) (by simp) ?_
  refine AllReadyH.cons (o := { dst := some 5, op := Go.Op.alloc 68, type := 0, pos := "tick.go:49", after := #[], guard := none }) rfl (fun K hK => ?_) AllReadyH.nil
  rw [if_pos (by rfl)]
  first | (refine wpo_sta 68 (.tmp 5) (.tmp 11) rfl eb 0 _ rfl rfl 68 _ HEb.out 5 (by kernel_rfl) rfl (by decide) (one5 rfl rfl rfl rfl rfl) (fun W5 hS5 => ?_); have HT5 : Hid (Tch W0 W5 []) := Lib.hid (HT4.out.trans_fre hS5.tch (by have := HZ.out; simp; omega)); have HE5 : Hid (Blk W5 eb 68 #[.int .i64 st, .int .u64 mac, .int .i64 lft, .int .i64 ask, .slice A n c]) := Lib.hid (sta_whole hS5 rfl); clear hS5) | (go_simp; rw [HW.out.2.1, HW.out.2.2])
  refine hK.out _ _ ?_ (fun hHeld => ?_)
  · ((first | exact HS.out _ (Tch.refl _ _).drew | exact HS.out _ HT5.out | exact HS.out _ HT4.out))
  clear hK K
  try simp only [Act.put]
  refine wpAnyH_ready (rs := [7]) (by kernel_rfl) (by simp) ?_
  refine AllReadyH.cons (o := { dst := none, op := Go.Op.store 68 (Go.Operand.tmp 5) (Go.Operand.tmp 11), type := 0, pos := "tick.go:49", after := #[{ on := 6, ground := Go.Ground.data }, { on := 5, ground := Go.Ground.data }, { on := 0, ground := Go.Ground.phase }, { on := 1, ground := Go.Ground.phase }, { on := 2, ground := Go.Ground.phase }, { on := 3, ground := Go.Ground.phase }, { on := 4, ground := Go.Ground.phase }, { on := 5, ground := Go.Ground.phase }, { on := 6, ground := Go.Ground.phase }], guard := none }) rfl (fun K hK => ?_) AllReadyH.nil
  rw [if_pos (by rfl)]
  first | (refine wpo_sta 68 (.tmp 5) (.tmp 11) rfl eb 0 _ rfl rfl 68 _ HEb.out 5 (by kernel_rfl) rfl (by decide) (one5 rfl rfl rfl rfl rfl) (fun W5 hS5 => ?_); have HT5 : Hid (Tch W0 W5 []) := Lib.hid (HT4.out.trans_fre hS5.tch (by have := HZ.out; simp; omega)); have HE5 : Hid (Blk W5 eb 68 #[.int .i64 st, .int .u64 mac, .int .i64 lft, .int .i64 ask, .slice A n c]) := Lib.hid (sta_whole hS5 rfl); clear hS5) | (go_simp; rw [HW.out.2.1, HW.out.2.2])
  refine hK.out _ _ ?_ (fun hHeld => ?_)
  · ((first | exact HS.out _ (Tch.refl _ _).drew | exact HS.out _ HT5.out | exact HS.out _ HT4.out))
  clear hK K
  try simp only [Act.put]
  refine wpAnyH_done (by kernel_rfl) ?_ _
  have HT5w : Hid (Tch w W5 []) := Lib.hid (HT0.out.trans HT5.out)
  have HK5 : Hid (Blk W5 kb 70 #[.int .i64 p, .bool s, .int .u64 (hi : Int), .int .u64 (lo : Int)]) := Lib.hid (HT5.out.blk HB0.out (by simp))
  clear HEb HT4 HS HT5 HB0
  obtain ⟨z0, z1, z2, z3, z4⟩ := HE5.out.k5
  obtain ⟨k0, k1, k2, k3⟩ := HK5.out.k4
  have hok := HOk.out
  by_cases h15 : st = 1 ∨ st = 5
  · have ht : tikE (p, s, hi, lo) ⟨st, mac, lft, ask, wts⟩ = askE (p, s, hi, lo) ⟨st, mac, lft, ask, wts⟩ := by unfold tikE; simp only; rw [if_pos h15]
    have hrr := HRr.out
    rw [ht] at hrr
    have HRr2 := Lib.hid hrr
    have HT15 := Lib.hid ht
    have hask : 0 ≤ ask ∧ ask ≤ 3 := by
      rcases hok with h | h
      · have := h.2.2.2.1; simp only at this; omega
      · exact h.2.2.2.2
    have HAsk := Lib.hid (askN (HM.out.tch HT5w.out (by simp)) (p, s, hi, lo) st mac lft ask wts A n c HLn.out (own_tch HO.out HT5w.out (by simp)) (fun s' hs => by rw [HWB.out]; exact hs) (fun _ => HWk.out) (fun h3 => HInv.out _ (by rw [HT15.out]; unfold askE; simp only; rw [if_neg h3])) hask)
    have HH : Hid (((st == 1) = true) ∨ ((st == 1) = false ∧ (st == 5) = true)) := Lib.hid (by
      rcases h15 with h | h
      · exact .inl (by simpa using h)
      · exact .inr (by subst h; decide))
    obtain ⟨n6, hn6⟩ : ∃ n6, (askE (p, s, hi, lo) ⟨st, mac, lft, ask, wts⟩).1.length = n6 := ⟨_, rfl⟩
    have HN6 := Lib.hid hn6
    clear hok hask h15 ht hrr hn6
    rcases HH.out with h | ⟨h, h5⟩
    all_goals
      go_wp2_with fail
      refine Calls.mono HAsk.out ?_
      rintro e W6 h6
      have HFin : Hid (ActS w W6 t S r e) := Lib.hid (ActS.up HT5w.out (by rw [← HRr2.out]; exact h6))
      obtain ⟨A6, c6, S6, he, -⟩ := h6
      simp only [HN6.out] at he
      subst he
      clear k0 k1 k2 k3 z0 z1 z2 z3 z4
      go_wp2
      go_ret
      exact HFin.out
  · have s1 : (st == 1) = false := by simp; omega
    have s5 : (st == 5) = false := by simp; omega
    rcases hok with h | ⟨hwn, hmc, hst, hl, hk⟩
    · exact absurd (Or.inl h.1) h15
    · simp only at hwn hmc hst hl hk
      subst hwn
      obtain rfl : n = 0 := by have := HLn.out; simpa using this.symm
      have f2 := HE5.out.frozen 2
      have l1 : IntKind.i64.wrap (lft - 1) = lft - 1 := by rw [IntKind.wrap_i64] <;> omega
      by_cases h2 : st = 2
      · subst h2
        by_cases h0 : lft - 1 = 0
        · have ht : tikE (p, s, hi, lo) ⟨2, mac, lft, ask, []⟩ = ([], some (stlE mac)) := by unfold tikE; simp [h0]
          have HT15 := Lib.hid ht
          have l0 : (lft - 1 == 0) = true := by simpa using h0
          obtain ⟨W6, hW6⟩ : ∃ W, W5.setCell ⟨eb, 2, none⟩ (.int .i64 (lft - 1)) = W := ⟨_, rfl⟩
          have h6 : Tch W5 W6 [eb] := hW6 ▸ (Tch.refl W5 [eb]).set_ (by simp) _
          have HE6 : Hid (Blk W6 eb 68 #[.int .i64 2, .int .u64 mac, .int .i64 (lft - 1), .int .i64 ask, .slice A 0 c]) := Lib.hid (hW6 ▸ HE5.out.set_ 2 _)
          have HK6a := Lib.hid (h6.blk HK5.out (by have := HZ.out; simp; omega))
          have HT6 : Hid (Tch w W6 []) := Lib.hid (HT5w.out.trans_fre h6 (by have := HZ.out; simp; omega))
          have HW6 := Lib.hid hW6
          clear ht h6 hW6 h15 hmc hst hl hk h0
          go_wp2_with (first | (rw [HW6.out]; clear z0 z1 z2 z3 z4 k0 k1 k2 k3 f2; obtain ⟨z0, z1, z2, z3, z4⟩ := HE6.out.k5))
          refine Calls.mono (stale_at mac _) ?_
          rintro e W7 ⟨rfl, hT7⟩
          have HE7 := Lib.hid (hT7.blk HE6.out (by simp))
          have HK7 := Lib.hid (hT7.blk HK6a.out (by simp))
          have HT7 : Hid (Tch w W7 []) := Lib.hid (HT6.out.trans hT7)
          clear hT7 z0 z1 z2 z3 z4
          go_wp2_with (first | (refine wpList_sta rfl 68 (.tmp 5) (.tmp 32) rfl eb 0 _ rfl rfl 68 _ HE7.out 5 (by kernel_rfl) rfl (by simp) (one5 rfl rfl rfl rfl rfl) ?_; intro W8 hS8; have HE8 : Hid (Blk W8 eb 68 #[.int .i64 3, .int .u64 mac, .int .i64 0, .int .i64 0, .slice none 0 0]) := Lib.hid (sta_whole hS8 rfl); have HK6 := Lib.hid (hS8.tch.blk HK7.out (by have := HZ.out; simp; omega)); have HT8 : Hid (Tch w W8 []) := Lib.hid (HT7.out.trans_fre hS8.tch (by have := HZ.out; simp; omega)); clear hS8))
          have hne : t ≠ m ∧ kb ≠ m ∧ eb ≠ m := ⟨HM.out.nd.1.1, by have := HZ.out; omega, by have := HZ.out; omega⟩
          have HC : Hid (∀ W', Tch W8 W' [m] → W'.cell? ⟨t, 0, none⟩ = some (.map (some m)) ∧ W'.cell? ⟨kb, 0, none⟩ = some (.int .i64 p) ∧ W'.cell? ⟨kb, 1, none⟩ = some (.bool s) ∧ W'.cell? ⟨kb, 2, none⟩ = some (.int .u64 (hi : Int)) ∧ W'.cell? ⟨kb, 3, none⟩ = some (.int .u64 (lo : Int)) ∧ W'.cell? ⟨eb, 0, none⟩ = some (.int .i64 3) ∧ W'.cell? ⟨eb, 1, none⟩ = some (.int .u64 mac) ∧ W'.cell? ⟨eb, 2, none⟩ = some (.int .i64 0) ∧ W'.cell? ⟨eb, 3, none⟩ = some (.int .i64 0) ∧ W'.cell? ⟨eb, 4, none⟩ = some (.slice none 0 0)) := Lib.hid (fun W' hT => by
            have h1 := hT.blk (HM.out.tch HT8.out (by simp)).bt (by simpa using hne.1)
            have h2 := hT.blk HK6.out (by simpa using hne.2.1)
            have h3 := hT.blk HE8.out (by simpa using hne.2.2)
            exact ⟨(h1.cell 0).trans rfl, (h2.cell 0).trans rfl, (h2.cell 1).trans rfl, (h2.cell 2).trans rfl, (h2.cell 3).trans rfl, (h3.cell 0).trans rfl, (h3.cell 1).trans rfl, (h3.cell 2).trans rfl, (h3.cell 3).trans rfl, (h3.cell 4).trans rfl⟩)
          have HMp : Hid (MpIs (fun k : KyI => kyV k) W8.drew m M) := Lib.hid ((HM.out.mp.tch HT8.out (by simp)).tch ((Tch.refl W8 []).drew) (by simp))
          clear hne
          refine wp_region_held_drew (S := (fun W => W.cell? ⟨t, 0, none⟩ = some (.map (some m)) ∧ W.cell? ⟨kb, 0, none⟩ = some (.int .i64 p) ∧ W.cell? ⟨kb, 1, none⟩ = some (.bool s) ∧ W.cell? ⟨kb, 2, none⟩ = some (.int .u64 (hi : Int)) ∧ W.cell? ⟨kb, 3, none⟩ = some (.int .u64 (lo : Int)) ∧ W.cell? ⟨eb, 0, none⟩ = some (.int .i64 3) ∧ W.cell? ⟨eb, 1, none⟩ = some (.int .u64 mac) ∧ W.cell? ⟨eb, 2, none⟩ = some (.int .i64 0) ∧ W.cell? ⟨eb, 3, none⟩ = some (.int .i64 0) ∧ W.cell? ⟨eb, 4, none⟩ = some (.slice none 0 0))) (by kernel_rfl) ?_ (fun hHeld => ?_)
          · ((first | exact HC.out _ (Tch.refl _ _).drew | exact HC.out _ HT12.out))
          refine tkH 0 (by assumption) ?_
          refine tkH 1 (by assumption) ?_
          refine tkH 2 (by assumption) ?_
          refine tkH 3 (by assumption) ?_
          refine tkH 4 (by assumption) ?_
          refine tkH 5 (by assumption) ?_
          refine wpAnyH_ready (rs := [6]) (by kernel_rfl) (by simp) ?_
          refine AllReadyH.cons (o := { dst := none, op := Go.Op.mapUpdate 61 (Go.Operand.tmp 51) (Go.Operand.tmp 52) (Go.Operand.tmp 53), type := 0, pos := "tick.go:64", after := #[{ on := 3, ground := Go.Ground.data }, { on := 4, ground := Go.Ground.data }, { on := 5, ground := Go.Ground.data }, { on := 0, ground := Go.Ground.phase }, { on := 1, ground := Go.Ground.phase }, { on := 2, ground := Go.Ground.phase }, { on := 3, ground := Go.Ground.phase }, { on := 4, ground := Go.Ground.phase }, { on := 5, ground := Go.Ground.phase }], guard := none }) rfl (fun K hK => ?_) AllReadyH.nil
          rw [if_pos (by rfl)]
          (refine wpo_mset keyK_F (.tmp 51) (.tmp 52) (.tmp 53) 61 68 rfl Try.underlying61 rfl (p, s, hi, lo) rfl (.agg #[.int .i64 3, .int .u64 mac, .int .i64 0, .int .i64 0, .slice none 0 0]) rfl HMp.out (fun W12 hM12 hT12 hs12 => ?_); have HM12 := Lib.hid hM12; have HT12 : Hid (Tch W8 W12 [m]) := Lib.hid (((Tch.refl W8 [m]).drew).trans hT12); clear hM12 hT12 hs12)
          refine hK.out _ _ ?_ (fun hHeld => ?_)
          · ((first | exact HC.out _ (Tch.refl _ _).drew | exact HC.out _ HT12.out))
          clear hK K
          try simp only [Act.put]
          refine wpAnyH_done (by kernel_rfl) ?_ _
          go_wp2
          go_ret
          exact sendS_end HM.out (HT8.out.mono (by simp)) (e := stlE mac) ⟨none, 0, rfl, ⟨rfl, .inl ⟨rfl, rfl⟩⟩⟩ (by simp [wtB, obI, Value.ownBlock]) (HInv.out _ (by rw [HT15.out])) HM12.out HT12.out (Tch.refl _ _) (acts := []) ⟨rfl, .inl ⟨rfl, rfl⟩⟩ rfl (by rw [← HRr.out, HT15.out]; rfl)
        · have ht : tikE (p, s, hi, lo) ⟨2, mac, lft, ask, []⟩ = ([], some ⟨2, mac, lft - 1, ask, []⟩) := by unfold tikE; simp [h0]
          have HT15 := Lib.hid ht
          have l0 : (lft - 1 == 0) = false := by simpa using h0
          clear ht h15 hmc hst hl hk h0
          go_wp2_with fail
          obtain ⟨W6, hW6⟩ : ∃ W, W5.setCell ⟨eb, 2, none⟩ (.int .i64 (lft - 1)) = W := ⟨_, rfl⟩
          rw [hW6]
          have h6 : Tch W5 W6 [eb] := hW6 ▸ (Tch.refl W5 [eb]).set_ (by simp) _
          have HE6 : Hid (Blk W6 eb 68 #[.int .i64 2, .int .u64 mac, .int .i64 (lft - 1), .int .i64 ask, .slice A 0 c]) := Lib.hid (hW6 ▸ HE5.out.set_ 2 _)
          have HK6 := Lib.hid (h6.blk HK5.out (by have := HZ.out; simp; omega))
          have HT6 : Hid (Tch w W6 []) := Lib.hid (HT5w.out.trans_fre h6 (by have := HZ.out; simp; omega))
          clear h6 hW6 z0 z1 z2 z3 z4 k0 k1 k2 k3 f2
          have hne : t ≠ m ∧ kb ≠ m ∧ eb ≠ m := ⟨HM.out.nd.1.1, by have := HZ.out; omega, by have := HZ.out; omega⟩
          have HC : Hid (∀ W', Tch W6 W' [m] → W'.cell? ⟨t, 0, none⟩ = some (.map (some m)) ∧ W'.cell? ⟨kb, 0, none⟩ = some (.int .i64 p) ∧ W'.cell? ⟨kb, 1, none⟩ = some (.bool s) ∧ W'.cell? ⟨kb, 2, none⟩ = some (.int .u64 (hi : Int)) ∧ W'.cell? ⟨kb, 3, none⟩ = some (.int .u64 (lo : Int)) ∧ W'.cell? ⟨eb, 0, none⟩ = some (.int .i64 2) ∧ W'.cell? ⟨eb, 1, none⟩ = some (.int .u64 mac) ∧ W'.cell? ⟨eb, 2, none⟩ = some (.int .i64 (lft - 1)) ∧ W'.cell? ⟨eb, 3, none⟩ = some (.int .i64 ask) ∧ W'.cell? ⟨eb, 4, none⟩ = some (.slice A 0 c)) := Lib.hid (fun W' hT => by
            have h1 := hT.blk (HM.out.tch HT6.out (by simp)).bt (by simpa using hne.1)
            have h2 := hT.blk HK6.out (by simpa using hne.2.1)
            have h3 := hT.blk HE6.out (by simpa using hne.2.2)
            exact ⟨(h1.cell 0).trans rfl, (h2.cell 0).trans rfl, (h2.cell 1).trans rfl, (h2.cell 2).trans rfl, (h2.cell 3).trans rfl, (h3.cell 0).trans rfl, (h3.cell 1).trans rfl, (h3.cell 2).trans rfl, (h3.cell 3).trans rfl, (h3.cell 4).trans rfl⟩)
          have HMp : Hid (MpIs (fun k : KyI => kyV k) W6.drew m M) := Lib.hid ((HM.out.mp.tch HT6.out (by simp)).tch ((Tch.refl W6 []).drew) (by simp))
          clear hne
          refine wp_region_held_drew (S := (fun W => W.cell? ⟨t, 0, none⟩ = some (.map (some m)) ∧ W.cell? ⟨kb, 0, none⟩ = some (.int .i64 p) ∧ W.cell? ⟨kb, 1, none⟩ = some (.bool s) ∧ W.cell? ⟨kb, 2, none⟩ = some (.int .u64 (hi : Int)) ∧ W.cell? ⟨kb, 3, none⟩ = some (.int .u64 (lo : Int)) ∧ W.cell? ⟨eb, 0, none⟩ = some (.int .i64 2) ∧ W.cell? ⟨eb, 1, none⟩ = some (.int .u64 mac) ∧ W.cell? ⟨eb, 2, none⟩ = some (.int .i64 (lft - 1)) ∧ W.cell? ⟨eb, 3, none⟩ = some (.int .i64 ask) ∧ W.cell? ⟨eb, 4, none⟩ = some (.slice A 0 c))) (by kernel_rfl) ?_ (fun hHeld => ?_)
          · ((first | exact HC.out _ (Tch.refl _ _).drew | exact HC.out _ HT12.out))
          refine tkH 0 (by assumption) ?_
          refine tkH 1 (by assumption) ?_
          refine tkH 2 (by assumption) ?_
          refine tkH 3 (by assumption) ?_
          refine tkH 4 (by assumption) ?_
          refine tkH 5 (by assumption) ?_
          refine wpAnyH_ready (rs := [6]) (by kernel_rfl) (by simp) ?_
          refine AllReadyH.cons (o := { dst := none, op := Go.Op.mapUpdate 61 (Go.Operand.tmp 51) (Go.Operand.tmp 52) (Go.Operand.tmp 53), type := 0, pos := "tick.go:64", after := #[{ on := 3, ground := Go.Ground.data }, { on := 4, ground := Go.Ground.data }, { on := 5, ground := Go.Ground.data }, { on := 0, ground := Go.Ground.phase }, { on := 1, ground := Go.Ground.phase }, { on := 2, ground := Go.Ground.phase }, { on := 3, ground := Go.Ground.phase }, { on := 4, ground := Go.Ground.phase }, { on := 5, ground := Go.Ground.phase }], guard := none }) rfl (fun K hK => ?_) AllReadyH.nil
          rw [if_pos (by rfl)]
          (refine wpo_mset keyK_F (.tmp 51) (.tmp 52) (.tmp 53) 61 68 rfl Try.underlying61 rfl (p, s, hi, lo) rfl (.agg #[.int .i64 2, .int .u64 mac, .int .i64 (lft - 1), .int .i64 ask, .slice A 0 c]) rfl HMp.out (fun W12 hM12 hT12 hs12 => ?_); have HM12 := Lib.hid hM12; have HT12 : Hid (Tch W6 W12 [m]) := Lib.hid (((Tch.refl W6 [m]).drew).trans hT12); clear hM12 hT12 hs12)
          refine hK.out _ _ ?_ (fun hHeld => ?_)
          · ((first | exact HC.out _ (Tch.refl _ _).drew | exact HC.out _ HT12.out))
          clear hK K
          try simp only [Act.put]
          refine wpAnyH_done (by kernel_rfl) ?_ _
          go_wp2
          go_ret
          exact sendS_end HM.out (HT6.out.mono (by simp)) (e := ⟨2, mac, lft - 1, ask, []⟩) ⟨A, c, rfl, own_tch HO.out HT6.out (by simp)⟩ (fun s' hs => .inl (by rw [HWB.out]; exact hs)) (HInv.out _ (by rw [HT15.out])) HM12.out HT12.out (Tch.refl _ _) (acts := []) ⟨rfl, .inl ⟨rfl, rfl⟩⟩ rfl (by rw [← HRr.out, HT15.out]; rfl)
      · have s2 : (st == 2) = false := by simpa using h2
        by_cases h4 : st = 4
        · subst h4
          by_cases h0 : lft - 1 = 0
          · have ht : tikE (p, s, hi, lo) ⟨4, mac, lft, ask, []⟩ = ([acI (p, s, hi, lo) 2 mac nilS8], some ⟨5, mac, 0, 1, []⟩) := by unfold tikE; simp [h0]
            have hrr := HRr.out
            rw [ht] at hrr
            have HRr2 := Lib.hid hrr
            have HT15 := Lib.hid ht
            have l0 : (lft - 1 == 0) = true := by simpa using h0
            obtain ⟨W6, hW6⟩ : ∃ W, W5.setCell ⟨eb, 2, none⟩ (.int .i64 (lft - 1)) = W := ⟨_, rfl⟩
            have h6 : Tch W5 W6 [eb] := hW6 ▸ (Tch.refl W5 [eb]).set_ (by simp) _
            have HE6 : Hid (Blk W6 eb 68 #[.int .i64 4, .int .u64 mac, .int .i64 (lft - 1), .int .i64 ask, .slice A 0 c]) := Lib.hid (hW6 ▸ HE5.out.set_ 2 _)
            have HK6 := Lib.hid (h6.blk HK5.out (by have := HZ.out; simp; omega))
            have HT6 : Hid (Tch w W6 []) := Lib.hid (HT5w.out.trans_fre h6 (by have := HZ.out; simp; omega))
            have HAsk := Lib.hid (askN (HM.out.tch HT6.out (by simp)) (p, s, hi, lo) 5 mac 0 0 [] none 0 0 rfl ⟨rfl, .inl ⟨rfl, rfl⟩⟩ (by simp [obI, Value.ownBlock]) (fun h => by simp at h) (fun _ => HInv.out _ (by rw [HT15.out]; rfl)) ⟨by simp, by simp⟩)
            have HW6 := Lib.hid hW6
            clear ht h6 hW6 h15 hmc hst hl hk h0 h2
            go_wp2_with (first | (rw [HW6.out]; clear z0 z1 z2 z3 z4 k0 k1 k2 k3 f2; obtain ⟨z0, z1, z2, z3, z4⟩ := HE6.out.k5; obtain ⟨k0, k1, k2, k3⟩ := HK6.out.k4))
            refine Calls.mono HAsk.out ?_
            rintro e W7 h7
            have HFin : Hid (ActS w W7 t S r e) := Lib.hid (ActS.up HT6.out (by rw [← HRr2.out]; exact h7))
            obtain ⟨A7, c7, S7, he, -⟩ := h7
            obtain ⟨n7, hn7⟩ : ∃ n7, (askE (p, s, hi, lo) ⟨5, mac, 0, 0, []⟩).1.length = n7 := ⟨_, rfl⟩
            simp only [hn7] at he
            subst he
            clear k0 k1 k2 k3 z0 z1 z2 z3 z4 hn7
            go_wp2
            go_ret
            exact HFin.out
          · have ht : tikE (p, s, hi, lo) ⟨4, mac, lft, ask, []⟩ = ([], some ⟨4, mac, lft - 1, ask, []⟩) := by unfold tikE; simp [h0]
            have HT15 := Lib.hid ht
            have l0 : (lft - 1 == 0) = false := by simpa using h0
            clear ht h15 hmc hst hl hk h0 h2
            go_wp2_with fail
            obtain ⟨W6, hW6⟩ : ∃ W, W5.setCell ⟨eb, 2, none⟩ (.int .i64 (lft - 1)) = W := ⟨_, rfl⟩
            rw [hW6]
            have h6 : Tch W5 W6 [eb] := hW6 ▸ (Tch.refl W5 [eb]).set_ (by simp) _
            have HE6 : Hid (Blk W6 eb 68 #[.int .i64 4, .int .u64 mac, .int .i64 (lft - 1), .int .i64 ask, .slice A 0 c]) := Lib.hid (hW6 ▸ HE5.out.set_ 2 _)
            have HK6 := Lib.hid (h6.blk HK5.out (by have := HZ.out; simp; omega))
            have HT6 : Hid (Tch w W6 []) := Lib.hid (HT5w.out.trans_fre h6 (by have := HZ.out; simp; omega))
            clear h6 hW6 z0 z1 z2 z3 z4 k0 k1 k2 k3 f2
            have hne : t ≠ m ∧ kb ≠ m ∧ eb ≠ m := ⟨HM.out.nd.1.1, by have := HZ.out; omega, by have := HZ.out; omega⟩
            have HC : Hid (∀ W', Tch W6 W' [m] → W'.cell? ⟨t, 0, none⟩ = some (.map (some m)) ∧ W'.cell? ⟨kb, 0, none⟩ = some (.int .i64 p) ∧ W'.cell? ⟨kb, 1, none⟩ = some (.bool s) ∧ W'.cell? ⟨kb, 2, none⟩ = some (.int .u64 (hi : Int)) ∧ W'.cell? ⟨kb, 3, none⟩ = some (.int .u64 (lo : Int)) ∧ W'.cell? ⟨eb, 0, none⟩ = some (.int .i64 4) ∧ W'.cell? ⟨eb, 1, none⟩ = some (.int .u64 mac) ∧ W'.cell? ⟨eb, 2, none⟩ = some (.int .i64 (lft - 1)) ∧ W'.cell? ⟨eb, 3, none⟩ = some (.int .i64 ask) ∧ W'.cell? ⟨eb, 4, none⟩ = some (.slice A 0 c)) := Lib.hid (fun W' hT => by
              have h1 := hT.blk (HM.out.tch HT6.out (by simp)).bt (by simpa using hne.1)
              have h2 := hT.blk HK6.out (by simpa using hne.2.1)
              have h3 := hT.blk HE6.out (by simpa using hne.2.2)
              exact ⟨(h1.cell 0).trans rfl, (h2.cell 0).trans rfl, (h2.cell 1).trans rfl, (h2.cell 2).trans rfl, (h2.cell 3).trans rfl, (h3.cell 0).trans rfl, (h3.cell 1).trans rfl, (h3.cell 2).trans rfl, (h3.cell 3).trans rfl, (h3.cell 4).trans rfl⟩)
            have HMp : Hid (MpIs (fun k : KyI => kyV k) W6.drew m M) := Lib.hid ((HM.out.mp.tch HT6.out (by simp)).tch ((Tch.refl W6 []).drew) (by simp))
            clear hne
            refine wp_region_held_drew (S := (fun W => W.cell? ⟨t, 0, none⟩ = some (.map (some m)) ∧ W.cell? ⟨kb, 0, none⟩ = some (.int .i64 p) ∧ W.cell? ⟨kb, 1, none⟩ = some (.bool s) ∧ W.cell? ⟨kb, 2, none⟩ = some (.int .u64 (hi : Int)) ∧ W.cell? ⟨kb, 3, none⟩ = some (.int .u64 (lo : Int)) ∧ W.cell? ⟨eb, 0, none⟩ = some (.int .i64 4) ∧ W.cell? ⟨eb, 1, none⟩ = some (.int .u64 mac) ∧ W.cell? ⟨eb, 2, none⟩ = some (.int .i64 (lft - 1)) ∧ W.cell? ⟨eb, 3, none⟩ = some (.int .i64 ask) ∧ W.cell? ⟨eb, 4, none⟩ = some (.slice A 0 c))) (by kernel_rfl) ?_ (fun hHeld => ?_)
            · ((first | exact HC.out _ (Tch.refl _ _).drew | exact HC.out _ HT12.out))
            refine tkH 0 (by assumption) ?_
            refine tkH 1 (by assumption) ?_
            refine tkH 2 (by assumption) ?_
            refine tkH 3 (by assumption) ?_
            refine tkH 4 (by assumption) ?_
            refine tkH 5 (by assumption) ?_
            refine wpAnyH_ready (rs := [6]) (by kernel_rfl) (by simp) ?_
            refine AllReadyH.cons (o := { dst := none, op := Go.Op.mapUpdate 61 (Go.Operand.tmp 51) (Go.Operand.tmp 52) (Go.Operand.tmp 53), type := 0, pos := "tick.go:64", after := #[{ on := 3, ground := Go.Ground.data }, { on := 4, ground := Go.Ground.data }, { on := 5, ground := Go.Ground.data }, { on := 0, ground := Go.Ground.phase }, { on := 1, ground := Go.Ground.phase }, { on := 2, ground := Go.Ground.phase }, { on := 3, ground := Go.Ground.phase }, { on := 4, ground := Go.Ground.phase }, { on := 5, ground := Go.Ground.phase }], guard := none }) rfl (fun K hK => ?_) AllReadyH.nil
            rw [if_pos (by rfl)]
            (refine wpo_mset keyK_F (.tmp 51) (.tmp 52) (.tmp 53) 61 68 rfl Try.underlying61 rfl (p, s, hi, lo) rfl (.agg #[.int .i64 4, .int .u64 mac, .int .i64 (lft - 1), .int .i64 ask, .slice A 0 c]) rfl HMp.out (fun W12 hM12 hT12 hs12 => ?_); have HM12 := Lib.hid hM12; have HT12 : Hid (Tch W6 W12 [m]) := Lib.hid (((Tch.refl W6 [m]).drew).trans hT12); clear hM12 hT12 hs12)
            refine hK.out _ _ ?_ (fun hHeld => ?_)
            · ((first | exact HC.out _ (Tch.refl _ _).drew | exact HC.out _ HT12.out))
            clear hK K
            try simp only [Act.put]
            refine wpAnyH_done (by kernel_rfl) ?_ _
            go_wp2
            go_ret
            exact sendS_end HM.out (HT6.out.mono (by simp)) (e := ⟨4, mac, lft - 1, ask, []⟩) ⟨A, c, rfl, own_tch HO.out HT6.out (by simp)⟩ (fun s' hs => .inl (by rw [HWB.out]; exact hs)) (HInv.out _ (by rw [HT15.out])) HM12.out HT12.out (Tch.refl _ _) (acts := []) ⟨rfl, .inl ⟨rfl, rfl⟩⟩ rfl (by rw [← HRr.out, HT15.out]; rfl)
        · have ht : tikE (p, s, hi, lo) ⟨st, mac, lft, ask, []⟩ = ([], some ⟨st, mac, lft, ask, []⟩) := by unfold tikE; simp only; rw [if_neg h15, if_neg h2, if_neg h4]
          have HT15 := Lib.hid ht
          have s4 : (st == 4) = false := by simpa using h4
          have HK6 := HK5
          clear ht h15 hmc hst hl hk h2 h4
          go_wp2_with fail
          clear z0 z1 z2 z3 z4 k0 k1 k2 k3 f2
          have hne : t ≠ m ∧ kb ≠ m ∧ eb ≠ m := ⟨HM.out.nd.1.1, by have := HZ.out; omega, by have := HZ.out; omega⟩
          have HC : Hid (∀ W', Tch W5 W' [m] → W'.cell? ⟨t, 0, none⟩ = some (.map (some m)) ∧ W'.cell? ⟨kb, 0, none⟩ = some (.int .i64 p) ∧ W'.cell? ⟨kb, 1, none⟩ = some (.bool s) ∧ W'.cell? ⟨kb, 2, none⟩ = some (.int .u64 (hi : Int)) ∧ W'.cell? ⟨kb, 3, none⟩ = some (.int .u64 (lo : Int)) ∧ W'.cell? ⟨eb, 0, none⟩ = some (.int .i64 st) ∧ W'.cell? ⟨eb, 1, none⟩ = some (.int .u64 mac) ∧ W'.cell? ⟨eb, 2, none⟩ = some (.int .i64 lft) ∧ W'.cell? ⟨eb, 3, none⟩ = some (.int .i64 ask) ∧ W'.cell? ⟨eb, 4, none⟩ = some (.slice A 0 c)) := Lib.hid (fun W' hT => by
            have h1 := hT.blk (HM.out.tch HT5w.out (by simp)).bt (by simpa using hne.1)
            have h2 := hT.blk HK6.out (by simpa using hne.2.1)
            have h3 := hT.blk HE5.out (by simpa using hne.2.2)
            exact ⟨(h1.cell 0).trans rfl, (h2.cell 0).trans rfl, (h2.cell 1).trans rfl, (h2.cell 2).trans rfl, (h2.cell 3).trans rfl, (h3.cell 0).trans rfl, (h3.cell 1).trans rfl, (h3.cell 2).trans rfl, (h3.cell 3).trans rfl, (h3.cell 4).trans rfl⟩)
          have HMp : Hid (MpIs (fun k : KyI => kyV k) W5.drew m M) := Lib.hid ((HM.out.mp.tch HT5w.out (by simp)).tch ((Tch.refl W5 []).drew) (by simp))
          clear hne
          refine wp_region_held_drew (S := (fun W => W.cell? ⟨t, 0, none⟩ = some (.map (some m)) ∧ W.cell? ⟨kb, 0, none⟩ = some (.int .i64 p) ∧ W.cell? ⟨kb, 1, none⟩ = some (.bool s) ∧ W.cell? ⟨kb, 2, none⟩ = some (.int .u64 (hi : Int)) ∧ W.cell? ⟨kb, 3, none⟩ = some (.int .u64 (lo : Int)) ∧ W.cell? ⟨eb, 0, none⟩ = some (.int .i64 st) ∧ W.cell? ⟨eb, 1, none⟩ = some (.int .u64 mac) ∧ W.cell? ⟨eb, 2, none⟩ = some (.int .i64 lft) ∧ W.cell? ⟨eb, 3, none⟩ = some (.int .i64 ask) ∧ W.cell? ⟨eb, 4, none⟩ = some (.slice A 0 c))) (by kernel_rfl) ?_ (fun hHeld => ?_)
          · ((first | exact HC.out _ (Tch.refl _ _).drew | exact HC.out _ HT12.out))
          refine tkH 0 (by assumption) ?_
          refine tkH 1 (by assumption) ?_
          refine tkH 2 (by assumption) ?_
          refine tkH 3 (by assumption) ?_
          refine tkH 4 (by assumption) ?_
          refine tkH 5 (by assumption) ?_
          refine wpAnyH_ready (rs := [6]) (by kernel_rfl) (by simp) ?_
          refine AllReadyH.cons (o := { dst := none, op := Go.Op.mapUpdate 61 (Go.Operand.tmp 51) (Go.Operand.tmp 52) (Go.Operand.tmp 53), type := 0, pos := "tick.go:64", after := #[{ on := 3, ground := Go.Ground.data }, { on := 4, ground := Go.Ground.data }, { on := 5, ground := Go.Ground.data }, { on := 0, ground := Go.Ground.phase }, { on := 1, ground := Go.Ground.phase }, { on := 2, ground := Go.Ground.phase }, { on := 3, ground := Go.Ground.phase }, { on := 4, ground := Go.Ground.phase }, { on := 5, ground := Go.Ground.phase }], guard := none }) rfl (fun K hK => ?_) AllReadyH.nil
          rw [if_pos (by rfl)]
          (refine wpo_mset keyK_F (.tmp 51) (.tmp 52) (.tmp 53) 61 68 rfl Try.underlying61 rfl (p, s, hi, lo) rfl (.agg #[.int .i64 st, .int .u64 mac, .int .i64 lft, .int .i64 ask, .slice A 0 c]) rfl HMp.out (fun W12 hM12 hT12 hs12 => ?_); have HM12 := Lib.hid hM12; have HT12 : Hid (Tch W5 W12 [m]) := Lib.hid (((Tch.refl W5 [m]).drew).trans hT12); clear hM12 hT12 hs12)
          refine hK.out _ _ ?_ (fun hHeld => ?_)
          · ((first | exact HC.out _ (Tch.refl _ _).drew | exact HC.out _ HT12.out))
          clear hK K
          try simp only [Act.put]
          refine wpAnyH_done (by kernel_rfl) ?_ _
          go_wp2
          go_ret
          exact sendS_end HM.out (HT5w.out.mono (by simp)) (e := ⟨st, mac, lft, ask, []⟩) ⟨A, c, rfl, own_tch HO.out HT5w.out (by simp)⟩ (fun s' hs => .inl (by rw [HWB.out]; exact hs)) (HInv.out _ (by rw [HT15.out])) HM12.out HT12.out (Tch.refl _ _) (acts := []) ⟨rfl, .inl ⟨rfl, rfl⟩⟩ rfl (by rw [← HRr.out, HT15.out]; rfl)
end Go.Proofs.Ytlbkphnbpenbcaa
