/-
  The program's own cache of neighbours (layer 19): settle.
-/
import Derived.Test.YtlbkphnbpenbcaaNgE
namespace Go.Proofs.Ytlbkphnbpenbcaa
open Go.RowKit
set_option linter.unusedVariables false

theorem fieldEn (a b c d : Value) (A : Option Addr) (n k : Nat) (W : World) : (Instr.field 68 (.agg #[a, b, c, d, .slice A n k]) 4).run Try.prog W = .ok (.slice A n k) W := by kernel_rfl
theorem Goes.trans_ {w w1 w2 : World} {S S1 S2 : List Nat} (h : Goes w w1 S S1) (k : Goes w1 w2 S1 S2) : Goes w w2 S S2 :=
  ⟨h.tch.trans_fre k.tch (fun s hs => h.fre s hs), fun s hs => by
    rcases k.fre s hs with h1 | h1
    · exact h.fre s h1
    · exact .inr (Nat.le_trans h.tch.size h1)⟩
theorem Goes.of_nil {w w1 : World} (h : Tch w w1 []) (S : List Nat) : Goes w w1 S S := .of_tch (h.mono (by simp))
theorem upd_upd (L : TbI) (k : KyI) (a b : EnI) : updT (updT L k a) k b = updT L k b := by
  unfold updT
  rw [List.map_map]
  refine List.map_congr_left fun x hx => ?_
  simp only [Function.comp]
  by_cases h : x.1 = k
  · simp [h]
  · simp [h]
theorem put_put (L : TbI) (k : KyI) (a b : EnI) : putT (putT L k a) k b = putT L k b := by
  have h1 : (fnd (putT L k a) k).isSome := by rw [fnd_put, if_pos rfl]; rfl
  have e1 : putT (putT L k a) k b = updT (putT L k a) k b := if_pos h1
  rw [e1]
  unfold putT
  by_cases h : (fnd L k).isSome = true
  · rw [if_pos h, if_pos h, upd_upd]
  · rw [if_neg h, if_neg h]
    have h0 : ∀ x ∈ L, ¬ x.1 = k := fnd_none.1 (by simpa using h)
    unfold updT insT
    rw [List.map_append, List.map_cons, if_pos rfl]
    congr 1
    · conv => rhs; rw [← List.map_id (L.takeWhile fun x => ltB x.1 k)]
      exact List.map_congr_left fun x hx => by rw [if_neg (h0 x ((List.takeWhile_sublist _).subset hx))]; rfl
    · congr 1
      conv => rhs; rw [← List.map_id (L.dropWhile fun x => ltB x.1 k)]
      exact List.map_congr_left fun x hx => by rw [if_neg (h0 x ((List.dropWhile_sublist _).subset hx))]; rfl
theorem fls_snoc (k : KyI) : ∀ (ws : List ByteArray) (e : EnI) (p : ByteArray), flsE k e (ws ++ [p]) = ((flsE k e ws).1 ++ (sendE k (flsE k e ws).2 p).1, (sendE k (flsE k e ws).2 p).2)
  | [], e, p => by simp [flsE]
  | q :: r, e, p => by
    rw [List.cons_append, flsE, fls_snoc k r, flsE]
    simp [List.append_assoc]
theorem send_put {L : TbI} {k : KyI} (hk : rgtK k = true) (e : EnI) (p : ByteArray) : sendT (putT L k e) k p = ((sendE k e p).1, 0, putT L k (sendE k e p).2) := by
  unfold sendT
  rw [if_pos hk, fnd_put, if_pos rfl]
  simp only
  rw [put_put]
theorem sendE_one (k : KyI) (e : EnI) (p : ByteArray) : (sendE k e p).1.length ≤ 1 := by
  unfold sendE
  split
  · split <;> simp
  · split <;> simp
theorem fls_len (k : KyI) : ∀ (ws : List ByteArray) (e : EnI), (flsE k e ws).1.length ≤ ws.length
  | [], e => by simp [flsE]
  | q :: r, e => by
    rw [flsE, List.length_append, List.length_cons]
    have := sendE_one k e q
    have := fls_len k r (sendE k e q).2
    omega
theorem wts_few {L : TbI} (h : InvT L) (k : KyI) : (wtsK L k).length ≤ 3 := by
  unfold wtsK
  cases hf : fnd L k with
  | none => simp
  | some e =>
    rcases (h.okF hf).1 with ⟨-, -, -, -, -, h3⟩ | ⟨h3, -⟩
    · exact h3
    · simp [h3]
theorem wts_gt (L : TbI) (k : KyI) : wtsK L k = (gtE L k).wts := by unfold wtsK gtE; cases fnd L k <;> rfl
/-- What a call that tells no error tells and leaves. -/
def ActS (w w' : World) (t : Nat) (S : List Nat) (r : List AcI × TbI) (e : Ending) : Prop :=
  ∃ A c S', e = .returned (.slice A r.1.length c) ∧ w'.ownsRow w.heap.size 41 7 (.slice A r.1.length c) r.1.length (r.1.flatMap acC) ∧ NgP w' t S' r.2 ∧ Goes w w' S S'
theorem acts_of {w w' : World} {t : Nat} {S S' : List Nat} {r : List AcI × TbI} {acts : List AcI} {L' : TbI} {A : Option Addr} {n c : Nat} (hr : r = (acts, L')) (ho : w'.ownsRow w.heap.size 41 7 (.slice A n c) n (acts.flatMap acC)) (hn : acts.length = n) (hp : NgP w' t S' L') (hg : Goes w w' S S') : ActS w w' t S r (.returned (.slice A n c)) := by
  subst hr hn
  exact ⟨A, c, S', rfl, ho, hp, hg⟩
set_option maxRecDepth 100000 in
set_option maxHeartbeats 4000000 in
theorem settleN {w : World} {t : Nat} {S : List Nat} {L : TbI} (h : NgP w t S L) (k : KyI) (hk : rgtK k = true) (hn : KyN k) (st mac lft : Int) (he : OkE ⟨st, mac, lft, 0, []⟩) (hl : (fnd L k).isSome ∨ L.length < 64) :
    Calls Try.prog 41 #[.pointer (some ⟨t, 0, none⟩), kyV k, .agg #[.int .i64 st, .int .u64 mac, .int .i64 lft, .int .i64 0, .slice none 0 0]] w fun e w' => ActS w w' t S (setT L k ⟨st, mac, lft, 0, []⟩ (wtsK L k)) e := by
  have HP := Lib.hid h
  obtain ⟨m, M, hm⟩ := h
  have h3 := wts_few hm.inv k
  have HInv := Lib.hid (hm.inv.put hk hn he hl)
  obtain ⟨A, c, hv, ho⟩ := hm.at2 k
  rw [wts_gt] at h3 ⊢
  obtain ⟨⟨st0, mac0, lft0, ask0, wts⟩, hE⟩ : ∃ e, gtE L k = e := ⟨_, rfl⟩
  rw [hE] at hv ho h3 ⊢
  simp only at h3 ⊢
  obtain ⟨n, hln⟩ : ∃ n, wts.length = n := ⟨_, rfl⟩
  simp only [hln] at hv ho h3
  obtain ⟨e0, he0⟩ : ∃ e0, (⟨st, mac, lft, 0, []⟩ : EnI) = e0 := ⟨_, rfl⟩
  have HE0 := Lib.hid he0
  rw [he0] at HInv ⊢
  have HLn := Lib.hid hln
  have HN3 := Lib.hid h3
  have HM := Lib.hid hm
  have HV := Lib.hid hv
  have HO := Lib.hid ho
  have HK := Lib.hid (And.intro hk hn)
  have HWB : Hid (wtB (mpV M k zEn) = obI (.slice A n c)) := Lib.hid (by rw [hv]; rfl)
  have HLts : Hid (∀ s ∈ obI (.slice A n c), s < w.heap.size) := Lib.hid (own_lts ho)
  obtain ⟨p, s, hi, lo⟩ := k
  obtain ⟨W0, hW0⟩ : ∃ W, w.alloc (.cells #[.int .i64 p, .bool s, .int .u64 (hi : Int), .int .u64 (lo : Int)] 70) = W := ⟨_, rfl⟩
  obtain ⟨kb, hkb⟩ : ∃ kb, w.heap.size = kb := ⟨_, rfl⟩
  have hB0 : Blk W0 kb 70 #[.int .i64 p, .bool s, .int .u64 (hi : Int), .int .u64 (lo : Int)] := hW0 ▸ hkb ▸ Blk.new w _ _
  have hT0 : Tch w W0 [] := hW0 ▸ (Tch.refl w []).alloc _
  obtain ⟨W1, hW1⟩ : ∃ W, W0.alloc (.cells #[.int .i64 st, .int .u64 mac, .int .i64 lft, .int .i64 0, .slice none 0 0] 68) = W := ⟨_, rfl⟩
  obtain ⟨eb, heb⟩ : ∃ eb, W0.heap.size = eb := ⟨_, rfl⟩
  have hE1 : Blk W1 eb 68 #[.int .i64 st, .int .u64 mac, .int .i64 lft, .int .i64 0, .slice none 0 0] := hW1 ▸ heb ▸ Blk.new W0 _ _
  have hT1 : Tch W0 W1 [] := hW1 ▸ (Tch.refl W0 []).alloc _
  have HK1 : Hid (Blk W1 kb 70 #[.int .i64 p, .bool s, .int .u64 (hi : Int), .int .u64 (lo : Int)]) := Lib.hid (hT1.blk hB0 (by simp))
  have HE1 := Lib.hid hE1
  have HT1 : Hid (Tch w W1 []) := Lib.hid (hT0.trans hT1)
  have HZ : Hid (w.heap.size ≤ kb ∧ kb < eb ∧ eb < W1.heap.size ∧ t < w.heap.size ∧ m < w.heap.size) := Lib.hid (by
    have h1 : W0.heap.size = w.heap.size + 1 := by rw [← hW0]; simp
    exact ⟨by omega, by omega, hE1.lt, hm.lt t (by rw [hm.eS]; simp), hm.lt m (by rw [hm.eS]; simp)⟩)
  have HW := Lib.hid (And.intro (And.intro hW0 hkb) (And.intro hW1 heb))
  have HS : Hid (∀ W, Tch W1 W [] → W.cell? ⟨t, 0, none⟩ = some (.map (some m)) ∧ W.cell? ⟨kb, 0, none⟩ = some (.int .i64 p) ∧ W.cell? ⟨kb, 1, none⟩ = some (.bool s) ∧ W.cell? ⟨kb, 2, none⟩ = some (.int .u64 (hi : Int)) ∧ W.cell? ⟨kb, 3, none⟩ = some (.int .u64 (lo : Int)) ∧ (Instr.lookup 61 (.map (some m)) (.agg #[.int .i64 p, .bool s, .int .u64 (hi : Int), .int .u64 (lo : Int)]) false).run Try.prog W = .ok (.agg #[.int .i64 st0, .int .u64 mac0, .int .i64 lft0, .int .i64 ask0, .slice A n c]) W) := Lib.hid (fun W hT => by
    have hm' := HM.out.tch (HT1.out.trans hT) (by simp)
    have hx := hT.blk HK1.out (by simp)
    exact ⟨(hm'.bt.cell 0).trans rfl, (hx.cell 0).trans rfl, (hx.cell 1).trans rfl, (hx.cell 2).trans rfl, (hx.cell 3).trans rfl, by have := hm'.look (p, s, hi, lo); rw [HV.out] at this; exact this⟩)
  clear hW0 hkb hB0 hT0 hW1 heb hE1 hT1 hm hv ho hln h3 hE he0 he hl hk hn
  have hfld := fun W => fieldEn (.int .i64 st0) (.int .u64 mac0) (.int .i64 lft0) (.int .i64 ask0) A n c W
  go_enter Try.func41, Try.ntmps41
  go_wp2_with (first | (rw [HW.out.1.1, HW.out.1.2]) | (rw [HW.out.2.1, HW.out.2.2]))
  refine wp_region_held_drew (S := (fun W => W.cell? ⟨t, 0, none⟩ = some (.map (some m)) ∧ W.cell? ⟨kb, 0, none⟩ = some (.int .i64 p) ∧ W.cell? ⟨kb, 1, none⟩ = some (.bool s) ∧ W.cell? ⟨kb, 2, none⟩ = some (.int .u64 (hi : Int)) ∧ W.cell? ⟨kb, 3, none⟩ = some (.int .u64 (lo : Int)) ∧ (Instr.lookup 61 (.map (some m)) (.agg #[.int .i64 p, .bool s, .int .u64 (hi : Int), .int .u64 (lo : Int)]) false).run Try.prog W = .ok (.agg #[.int .i64 st0, .int .u64 mac0, .int .i64 lft0, .int .i64 ask0, .slice A n c]) W)) (by kernel_rfl) ?_ (fun hHeld => ?_)
  · ((exact HS.out _ (Tch.refl _ _).drew))
  refine tkH 0 (by assumption) ?_
  refine tkH 1 (by assumption) ?_
  refine tkH 2 (by assumption) ?_
  refine tkH 3 (by assumption) ?_
  refine tkH 4 (by assumption) ?_
  refine tkH 5 (by assumption) ?_
  refine tkH 6 (by assumption) ?_
  refine tkH 7 (by assumption) ?_
  refine wpAnyH_done (by kernel_rfl) ?_ _
  obtain ⟨W2, hW2⟩ : ∃ W, W1.drew = W := ⟨_, rfl⟩
  rw [hW2]
  have HT2 : Hid (Tch W1 W2 []) := Lib.hid (hW2 ▸ (Tch.refl W1 []).drew)
  clear hW2
  have hne : t ≠ m ∧ kb ≠ m ∧ eb ≠ m := ⟨HM.out.nd.1.1, by have := HZ.out; omega, by have := HZ.out; omega⟩
  have HMp : Hid (MpIs (fun k : KyI => kyV k) W2.drew m M) := Lib.hid ((HM.out.tch (HT1.out.trans HT2.out) (by simp)).mp.tch ((Tch.refl W2 []).drew) (by simp))
  have HC : Hid (∀ W, Tch W2 W [m] → W.cell? ⟨t, 0, none⟩ = some (.map (some m)) ∧ W.cell? ⟨kb, 0, none⟩ = some (.int .i64 p) ∧ W.cell? ⟨kb, 1, none⟩ = some (.bool s) ∧ W.cell? ⟨kb, 2, none⟩ = some (.int .u64 (hi : Int)) ∧ W.cell? ⟨kb, 3, none⟩ = some (.int .u64 (lo : Int)) ∧ W.cell? ⟨eb, 0, none⟩ = some (.int .i64 st) ∧ W.cell? ⟨eb, 1, none⟩ = some (.int .u64 mac) ∧ W.cell? ⟨eb, 2, none⟩ = some (.int .i64 lft) ∧ W.cell? ⟨eb, 3, none⟩ = some (.int .i64 0) ∧ W.cell? ⟨eb, 4, none⟩ = some (.slice none 0 0)) := Lib.hid (fun W hT => by
    have h1 := hT.blk (HM.out.tch (HT1.out.trans HT2.out) (by simp)).bt (by simpa using hne.1)
    have h2 := hT.blk (HT2.out.blk HK1.out (by simp)) (by simpa using hne.2.1)
    have h3 := hT.blk (HT2.out.blk HE1.out (by simp)) (by simpa using hne.2.2)
    exact ⟨(h1.cell 0).trans rfl, (h2.cell 0).trans rfl, (h2.cell 1).trans rfl, (h2.cell 2).trans rfl, (h2.cell 3).trans rfl, (h3.cell 0).trans rfl, (h3.cell 1).trans rfl, (h3.cell 2).trans rfl, (h3.cell 3).trans rfl, (h3.cell 4).trans rfl⟩)
  go_wp2_with fail
  refine wp_region_held_drew (S := (fun W => W.cell? ⟨t, 0, none⟩ = some (.map (some m)) ∧ W.cell? ⟨kb, 0, none⟩ = some (.int .i64 p) ∧ W.cell? ⟨kb, 1, none⟩ = some (.bool s) ∧ W.cell? ⟨kb, 2, none⟩ = some (.int .u64 (hi : Int)) ∧ W.cell? ⟨kb, 3, none⟩ = some (.int .u64 (lo : Int)) ∧ W.cell? ⟨eb, 0, none⟩ = some (.int .i64 st) ∧ W.cell? ⟨eb, 1, none⟩ = some (.int .u64 mac) ∧ W.cell? ⟨eb, 2, none⟩ = some (.int .i64 lft) ∧ W.cell? ⟨eb, 3, none⟩ = some (.int .i64 0) ∧ W.cell? ⟨eb, 4, none⟩ = some (.slice none 0 0))) (by kernel_rfl) ?_ (fun hHeld => ?_)
  · ((first | exact HC.out _ (Tch.refl _ _).drew | exact HC.out _ HT3.out))
  refine tkH 0 (by assumption) ?_
  refine tkH 1 (by assumption) ?_
  refine tkH 2 (by assumption) ?_
  refine tkH 3 (by assumption) ?_
  refine tkH 4 (by assumption) ?_
  refine tkH 5 (by assumption) ?_
  refine wpAnyH_ready (rs := [6]) (by kernel_rfl) (by simp) ?_
  refine AllReadyH.cons (o := { dst := none, op := Go.Op.mapUpdate 61 (Go.Operand.tmp 23) (Go.Operand.tmp 24) (Go.Operand.tmp 25), type := 0, pos := "neigh.go:137", after := #[{ on := 3, ground := Go.Ground.data }, { on := 4, ground := Go.Ground.data }, { on := 5, ground := Go.Ground.data }, { on := 0, ground := Go.Ground.phase }, { on := 1, ground := Go.Ground.phase }, { on := 2, ground := Go.Ground.phase }, { on := 3, ground := Go.Ground.phase }, { on := 4, ground := Go.Ground.phase }, { on := 5, ground := Go.Ground.phase }], guard := none }) rfl (fun K hK => ?_) AllReadyH.nil
  rw [if_pos (by rfl)]
  (refine wpo_mset keyK_F (.tmp 23) (.tmp 24) (.tmp 25) 61 68 rfl Try.underlying61 rfl (p, s, hi, lo) rfl (.agg #[.int .i64 st, .int .u64 mac, .int .i64 lft, .int .i64 0, .slice none 0 0]) rfl HMp.out (fun W3 hM3 hT3 hs3 => ?_); have HM3 := Lib.hid hM3; have HT3 : Hid (Tch W2 W3 [m]) := Lib.hid (((Tch.refl W2 [m]).drew).trans hT3); clear hM3 hT3 hs3)
  refine hK.out _ _ ?_ (fun hHeld => ?_)
  · ((first | exact HC.out _ (Tch.refl _ _).drew | exact HC.out _ HT3.out))
  clear hK K
  try simp only [Act.put]
  refine wpAnyH_done (by kernel_rfl) ?_ _
  have hTw : Tch w W2 [] := HT1.out.trans HT2.out
  obtain ⟨S3, hP3, hG3, hI3, hF3⟩ := HM.out.set_f (p := (p, s, hi, lo)) (e := e0) (hTw.mono (by simp)) (v := .agg #[.int .i64 st, .int .u64 mac, .int .i64 lft, .int .i64 0, .slice none 0 0]) (by rw [← HE0.out]; exact ⟨none, 0, rfl, ⟨rfl, .inl ⟨rfl, rfl⟩⟩⟩) rfl HInv.out HM3.out HT3.out
  rw [HWB.out] at hF3
  have HP3 := Lib.hid hP3
  have HG3 := Lib.hid hG3
  have HF3 := Lib.hid hF3
  have HKS : Hid (kb ∉ S3) := Lib.hid (fun e => by have := HM.out.lt kb (hI3 kb e); have := HZ.out; omega)
  have HO3 : Hid (W3.ownsRow 0 9 1 (.slice A n c) n (wts.map strC)) := Lib.hid (own_tch (own_tch HO.out hTw (by simp)) HT3.out (fun s' hs e => (HM.out.sub_ (p, s, hi, lo) s' (by rw [HWB.out]; exact hs)).2.2 (List.mem_singleton.1 e)))
  have HK3 : Hid (Blk W3 kb 70 #[.int .i64 p, .bool s, .int .u64 (hi : Int), .int .u64 (lo : Int)]) := Lib.hid (HT3.out.blk (HT2.out.blk HK1.out (by simp)) (by simpa using hne.2.1))
  have HKb : Hid (kb < W3.heap.size ∧ w.heap.size ≤ W3.heap.size) := Lib.hid ⟨HK3.out.lt, hG3.tch.size⟩
  clear hTw hP3 hG3 hF3 hne HC HMp HS HM3 HT3 HT2 HT1 HE1 HK1 HW HInv
  obtain ⟨B3, hB3⟩ : ∃ B, W3.heap.size = B := ⟨_, rfl⟩
  have HB3 := Lib.hid hB3
  clear hB3 hI3
  have hnI : IntKind.i64.wrap (n : Int) = (n : Int) := by have := HN3.out; rw [IntKind.wrap_i64]; omega
  go_wp2_with fail
  go_loopw [8, 28] (fun av iv wr => ∃ (i : Nat) (A5 : Option Addr) (c5 : Nat) (S5 : List Nat), av = .slice A5 (flsE (p, s, hi, lo) e0 (wts.take i)).1.length c5 ∧ iv = .int .i64 (i : Int) ∧ i ≤ n ∧ Hid (wr.ownsRow B3 41 7 (.slice A5 (flsE (p, s, hi, lo) e0 (wts.take i)).1.length c5) (flsE (p, s, hi, lo) e0 (wts.take i)).1.length ((flsE (p, s, hi, lo) e0 (wts.take i)).1.flatMap acC)) ∧ Hid (NgP wr t S5 (putT L (p, s, hi, lo) (flsE (p, s, hi, lo) e0 (wts.take i)).2)) ∧ Hid (Goes W3 wr S3 S5) ∧ Hid (∀ s' ∈ obI (.slice A5 (flsE (p, s, hi, lo) e0 (wts.take i)).1.length c5), s' ∉ S5)) (fun _ iv _ => n - (intOf iv).toNat)
  case atStart => exact ⟨0, none, 0, S3, rfl, rfl, Nat.zero_le _, Lib.hid ⟨rfl, .inl ⟨rfl, rfl⟩⟩, HP3, Lib.hid (Goes.of_tch (Tch.refl _ _)), Lib.hid (by simp [obI, Value.ownBlock])⟩
  case round =>
    obtain ⟨i, A5, c5, S5, rfl, rfl, hi5, hR5, hP5, hG5, hD5⟩ := hrel
    by_cases hin : i < n
    · have iI : (i : Int) < (n : Int) := by omega
      have i0 : (0 : Int) ≤ (i : Int) := by omega
      have i1 : IntKind.i64.wrap ((i : Int) + 1) = (i : Int) + 1 := by have := HN3.out; rw [IntKind.wrap_i64]; omega
      have HI := Lib.hid (And.intro i1 hin)
      obtain ⟨x, hx⟩ : ∃ x, wts[i]? = some x := ⟨_, List.getElem?_eq_getElem (by rw [HLn.out]; exact hin)⟩
      have hTk : wts.take (i + 1) = wts.take i ++ [x] := by rw [List.take_add_one, hx]; rfl
      have hsn := fls_snoc (p, s, hi, lo) (wts.take i) e0 x
      rw [← hTk] at hsn
      have hl5 : (flsE (p, s, hi, lo) e0 (wts.take i)).1.length ≤ 3 := by have := fls_len (p, s, hi, lo) (wts.take i) e0; rw [List.length_take] at this; have := HN3.out; omega
      obtain ⟨a5, ha5⟩ : ∃ a5, (flsE (p, s, hi, lo) e0 (wts.take i)).1 = a5 := ⟨_, rfl⟩
      obtain ⟨f5, hf5⟩ : ∃ f5, (flsE (p, s, hi, lo) e0 (wts.take i)).2 = f5 := ⟨_, rfl⟩
      rw [ha5, hf5] at hsn
      rw [ha5] at hR5 hD5 hl5 ⊢
      rw [hf5] at hP5
      have hsx := sendE_one (p, s, hi, lo) f5 x
      have hsd := send_put (L := L) HK.out.1 f5 x
      have HSn := Lib.hid hsn
      have HSd := Lib.hid hsd
      have HSx := Lib.hid (And.intro hl5 hsx)
      obtain ⟨n5, hn5⟩ : ∃ n5, a5.length = n5 := ⟨_, rfl⟩
      rw [hn5] at hR5 hD5 ⊢
      have HN5 := Lib.hid hn5
      obtain ⟨g, rfl⟩ := slice_some HO3.out (by omega)
      have hkb : kb ∉ S5 := fun e => by
        rcases hG5.out.fre kb e with h | h
        · exact HKS.out h
        · have := HKb.out; omega
      have HOr : Hid (wr.ownsRow 0 9 1 (.slice (some ⟨g, 0, none⟩) n c) n (wts.map strC)) := Lib.hid (own_tch HO3.out hG5.out.tch HF3.out)
      have HKr : Hid (Blk wr kb 70 #[.int .i64 p, .bool s, .int .u64 (hi : Int), .int .u64 (lo : Int)]) := Lib.hid (hG5.out.tch.blk HK3.out HKS.out)
      have cx : wr.cell? ⟨g, i, none⟩ = some (.string x) := own_cellN HOr.out (by rw [List.getElem?_map, hx]; rfl)
      obtain ⟨k0, k1, k2, k3⟩ := HKr.out.k4
      have HSe := Lib.hid (sendN hP5.out (p, s, hi, lo) HK.out.2 x)
      rw [hsd] at HSe
      obtain ⟨a6, ha6⟩ : ∃ a6, (sendE (p, s, hi, lo) f5 x).1 = a6 := ⟨_, rfl⟩
      obtain ⟨f6, hf6⟩ : ∃ f6, (sendE (p, s, hi, lo) f5 x).2 = f6 := ⟨_, rfl⟩
      rw [ha6, hf6] at HSe HSn
      rw [ha6] at HSx
      clear hx hTk hsn hl5 ha5 hf5 hsx hsd hn5 hkb ha6 hf6 HSd
      go_wp2_with fail
      refine Calls.mono HSe.out ?_
      rintro e W6 ⟨A6, c6, S6, rfl, hO6, hP6, hG6⟩
      simp only at hO6 hP6
      have HO6 := Lib.hid hO6
      have HP6 := Lib.hid hP6
      have HG6 := Lib.hid hG6
      have hR6 : W6.ownsRow B3 41 7 (.slice A5 n5 c5) n5 (a5.flatMap acC) := own_tch hR5.out hG6.tch hD5.out
      have HR6 := Lib.hid hR6
      have HG36 : Hid (Goes W3 W6 S3 S6) := Lib.hid (hG5.out.trans_ hG6)
      have HD6 : Hid (∀ s' ∈ obI (.slice A5 n5 c5), s' ∉ S6) := Lib.hid (fun s' hs e => by
        rcases hG6.fre s' e with h | h
        · exact hD5.out s' hs h
        · have := own_lts hR5.out s' hs; omega)
      have HB6 : Hid (B3 ≤ W6.heap.size) := Lib.hid (by have := HB3.out; have := HG36.out.tch.size; omega)
      clear hO6 hP6 hG6 hR6 k0 k1 k2 k3 cx
      obtain ⟨n6, hn6⟩ : ∃ n6, a6.length = n6 := ⟨_, rfl⟩
      simp only [hn6] at HO6 HSx ⊢
      have HN6 := Lib.hid hn6
      clear hn6
      go_wp2_with (first | (at_builtin; (refine wpList_apm 34 41 (.agg #[.int .i64 0, .int .i64 0, .bool false, .int .u64 0, .int .u64 0, .int .u64 0, .string ⟨#[]⟩]) 7 64 Try.underlying34 infoAc rfl (by decide) (by decide) _ rfl (.tmp 42) (.tmp 43) rfl B3 (.slice A5 n5 c5) n5 _ rfl HR6.out wr.heap.size (.slice A6 n6 c6) n6 (a6.flatMap acC) rfl HO6.out (flat_one acC_one _) (by have := HSx.out; have := HN5.out; omega) HB6.out ?_; intro v7 W7 hown hg hv; obtain ⟨A7, c7, rfl, -, -⟩ := own_sl hown; have HO7 := Lib.hid hown; have HT7 : Hid (Tch W6 W7 (obI (.slice A5 n5 c5))) := Lib.hid (Tch.of_grown' hg (fun g e => by rw [obI_some e]; simp)); have HV7 := Lib.hid (one_at hv (Nat.le_refl _)); clear hown hg hv)))
      go_roundw
      case rel =>
        have hP7 := HP6.out.tch HT7.out (fun s' hs e => HD6.out s' e hs)
        refine ⟨i + 1, A7, c7, S6, by rw [HSn.out]; simp [HN5.out, HN6.out], by go_num, HI.out.2, Lib.hid ?_, Lib.hid ?_, Lib.hid ?_, Lib.hid ?_⟩
        · rw [HSn.out]
          simp only [List.length_append, List.flatMap_append, HN5.out, HN6.out]
          exact HO7.out
        · rw [HSn.out]; exact hP7
        · exact ⟨HG36.out.tch.trans_fre HT7.out (fun s' hs => .inr (by have := (own_geI HR6.out s' hs).1; have := HB3.out; omega)), HG36.out.fre⟩
        · rw [HSn.out]
          simp only [List.length_append, HN5.out, HN6.out]
          intro s' hs e
          rcases HV7.out s' hs with h | h
          · exact HD6.out s' h e
          · have := HP6.out.lt s' e; omega
      case measure => have := HI.out.2; simp [intOf]; omega
    · have iI : ¬ (i : Int) < (n : Int) := by omega
      obtain rfl : i = n := by omega
      have hall : wts.take i = wts := List.take_of_length_le (by rw [HLn.out]; exact Nat.le_refl _)
      rw [hall] at hR5 hP5 hD5 ⊢
      go_wp2
      go_ret
      exact acts_of (acts := (flsE (p, s, hi, lo) e0 wts).1) rfl (own_mono hR5.out (by have := HB3.out; have := HKb.out; omega)) rfl hP5.out (HG3.out.trans_ hG5.out)
end Go.Proofs.Ytlbkphnbpenbcaa
