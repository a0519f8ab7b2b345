/-
  The program's own cache of neighbours (layer 19): State, Send.
-/
import Derived.Test.YtlbkphnbpenbcaaNgB
import Derived.Test.YtlbkphnbpenbcaaTk
namespace Go.Proofs.Ytlbkphnbpenbcaa
open Go.RowKit
set_option linter.unusedVariables false

theorem one5 {a b c d e : Value} (ha : a.oneCell' = true) (hb : b.oneCell' = true) (hc : c.oneCell' = true) (hd : d.oneCell' = true) (he : e.oneCell' = true) : ∀ v ∈ (#[a, b, c, d, e] : Array Value).toList, v.oneCell' = true := by
  intro v hv; simp at hv; rcases hv with rfl | rfl | rfl | rfl | rfl <;> assumption
theorem staT_gt (L : TbI) (k : KyI) : staT L k = ((gtE L k).st, (gtE L k).mac) := by unfold staT gtE; cases fnd L k <;> rfl
set_option maxRecDepth 100000 in
set_option maxHeartbeats 4000000 in
theorem stateN {w : World} {t : Nat} {S : List Nat} {L : TbI} (h : NgP w t S L) (k : KyI) :
    Calls Try.prog 13 #[.pointer (some ⟨t, 0, none⟩), .int .i64 k.1, adV k.2] w fun e w' => e = .returned (.tuple #[.int .i64 (staT L k).1, .int .u64 (staT L k).2]) ∧ Tch w w' [] := by
  obtain ⟨m, M, hm⟩ := h
  rw [staT_gt]
  obtain ⟨A, c, hv, ho⟩ := hm.at2 k
  obtain ⟨⟨st, mac, lft, ask, wts⟩, hE⟩ : ∃ e, gtE L k = e := ⟨_, rfl⟩
  rw [hE] at hv ho ⊢
  obtain ⟨n, hn⟩ : ∃ n, wts.length = n := ⟨_, rfl⟩
  simp only [hn] at hv
  obtain ⟨p, s, hi, lo⟩ := k
  obtain ⟨W0, hW0⟩ : ∃ W, w.alloc (.cells #[.bool s, .int .u64 (hi : Int), .int .u64 (lo : Int)] 30) = W := ⟨_, rfl⟩
  obtain ⟨xb, hxb⟩ : ∃ xb, w.heap.size = xb := ⟨_, rfl⟩
  have hX : Blk W0 xb 30 #[.bool s, .int .u64 (hi : Int), .int .u64 (lo : Int)] := hW0 ▸ hxb ▸ Blk.new w _ _
  have hT0 : Tch w W0 [] := hW0 ▸ (Tch.refl w []).alloc _
  obtain ⟨W1, hW1⟩ : ∃ W, (W0.alloc (.cells #[.int .i64 0, .int .u64 0, .int .i64 0, .int .i64 0, .slice none 0 0] 68)).drew = W := ⟨_, rfl⟩
  obtain ⟨eb, heb⟩ : ∃ eb, W0.heap.size = eb := ⟨_, rfl⟩
  have HEb : Hid (Blk W1 eb 68 #[.int .i64 0, .int .u64 0, .int .i64 0, .int .i64 0, .slice none 0 0]) := Lib.hid (hW1 ▸ heb ▸ (Blk.new W0 _ _).drew)
  have HT1 : Hid (Tch W0 W1 []) := Lib.hid (hW1 ▸ ((Tch.refl W0 []).alloc _).drew)
  have hle : W0.heap.size ≤ eb := by omega
  have HLe := Lib.hid hle
  have HS : Hid (∀ W, Tch W0 W [] → W.cell? ⟨t, 0, none⟩ = some (.map (some m)) ∧ W.cell? ⟨xb, 0, none⟩ = some (.bool s) ∧ W.cell? ⟨xb, 1, none⟩ = some (.int .u64 (hi : Int)) ∧ W.cell? ⟨xb, 2, none⟩ = some (.int .u64 (lo : Int)) ∧ (Instr.lookup 61 (.map (some m)) (.agg #[.int .i64 p, .bool s, .int .u64 (hi : Int), .int .u64 (lo : Int)]) false).run Try.prog W = .ok (.agg #[.int .i64 st, .int .u64 mac, .int .i64 lft, .int .i64 ask, .slice A n c]) W) := Lib.hid (fun W hT => by
    have hm' := (hm.tch hT0 (by simp)).tch hT (by simp)
    have hx := hT.blk hX (by simp)
    exact ⟨(hm'.bt.cell 0).trans rfl, (hx.cell 0).trans rfl, (hx.cell 1).trans rfl, (hx.cell 2).trans rfl, by have := hm'.look (p, s, hi, lo); rw [hv] at this; exact this⟩)
  have HW := Lib.hid (And.intro (And.intro hW0 hxb) (And.intro hW1 heb))
  have HT0 := Lib.hid hT0
  clear hW0 hxb hW1 heb hX hT0 hm hv ho hle hn hE
  go_enter Try.func13, Try.ntmps13
  go_wp2_with (first | (rw [HW.out.1.1, HW.out.1.2]))
  refine wp_region_held_drew (S := (fun W => W.cell? ⟨t, 0, none⟩ = some (.map (some m)) ∧ W.cell? ⟨xb, 0, none⟩ = some (.bool s) ∧ W.cell? ⟨xb, 1, none⟩ = some (.int .u64 (hi : Int)) ∧ W.cell? ⟨xb, 2, none⟩ = some (.int .u64 (lo : Int)) ∧ (Instr.lookup 61 (.map (some m)) (.agg #[.int .i64 p, .bool s, .int .u64 (hi : Int), .int .u64 (lo : Int)]) false).run Try.prog W = .ok (.agg #[.int .i64 st, .int .u64 mac, .int .i64 lft, .int .i64 ask, .slice A n c]) W)) (by kernel_rfl) ?_ (fun hHeld => ?_)
  · ((first | exact HS.out _ (Tch.refl _ _).drew | exact HS.out _ HT2.out | exact HS.out _ HT1.out))
  refine tkH 0 (by assumption) ?_
  refine tkH 1 (by assumption) ?_
  refine tkH 2 (by assumption) ?_
  refine tkH 3 (by assumption) ?_
  refine tkH 4 (by assumption) ?_
  refine tkH 5 (by assumption) ?_
  refine tkH 6 (by assumption) ?_
  refine tkH 7 (by assumption) ?_
  refine wpAnyH_ready (rs := [8]) (by kernel_rfl) (by simp) ?_
  refine AllReadyH.cons (o := { dst := some 8, op := Go.Op.alloc 68, type := 0, pos := "neigh.go:149", after := #[], guard := none }) rfl (fun K hK => ?_) AllReadyH.nil
  rw [if_pos (by rfl)]
  first | (refine wpo_sta 68 (.tmp 8) (.tmp 16) rfl eb 0 _ rfl rfl 68 _ HEb.out 5 (by kernel_rfl) rfl (by decide) (one5 rfl rfl rfl rfl rfl) (fun w2 hS2 => ?_); have HT2 : Hid (Tch W0 w2 []) := Lib.hid (HT1.out.trans_fre hS2.tch (by have := HLe.out; simp; omega)); have HS2 := Lib.hid hS2; clear hS2) | (go_simp; rw [HW.out.2.1, HW.out.2.2])
  refine hK.out _ _ ?_ (fun hHeld => ?_)
  · ((first | exact HS.out _ (Tch.refl _ _).drew | exact HS.out _ HT2.out | exact HS.out _ HT1.out))
  clear hK K
  try simp only [Act.put]
  refine wpAnyH_ready (rs := [9]) (by kernel_rfl) (by simp) ?_
  refine AllReadyH.cons (o := { dst := none, op := Go.Op.store 68 (Go.Operand.tmp 8) (Go.Operand.tmp 16), type := 0, pos := "neigh.go:149", after := #[{ on := 8, ground := Go.Ground.data }, { on := 7, ground := Go.Ground.data }, { on := 0, ground := Go.Ground.phase }, { on := 1, ground := Go.Ground.phase }, { on := 2, ground := Go.Ground.phase }, { on := 3, ground := Go.Ground.phase }, { on := 4, ground := Go.Ground.phase }, { on := 5, ground := Go.Ground.phase }, { on := 6, ground := Go.Ground.phase }, { on := 7, ground := Go.Ground.phase }, { on := 8, ground := Go.Ground.phase }], guard := none }) rfl (fun K hK => ?_) AllReadyH.nil
  rw [if_pos (by rfl)]
  first | (refine wpo_sta 68 (.tmp 8) (.tmp 16) rfl eb 0 _ rfl rfl 68 _ HEb.out 5 (by kernel_rfl) rfl (by decide) (one5 rfl rfl rfl rfl rfl) (fun w2 hS2 => ?_); have HT2 : Hid (Tch W0 w2 []) := Lib.hid (HT1.out.trans_fre hS2.tch (by have := HLe.out; simp; omega)); have HS2 := Lib.hid hS2; clear hS2) | (go_simp; rw [HW.out.2.1, HW.out.2.2])
  refine hK.out _ _ ?_ (fun hHeld => ?_)
  · ((first | exact HS.out _ (Tch.refl _ _).drew | exact HS.out _ HT2.out | exact HS.out _ HT1.out))
  clear hK K
  try simp only [Act.put]
  refine wpAnyH_done (by kernel_rfl) ?_ _
  obtain ⟨z0, z1, z2, z3, z4⟩ := (sta_whole HS2.out rfl).k5
  go_wp2_with fail
  go_quiet (fail)
  have HT3 : Hid (Tch w (w2.drewN nq) []) := Lib.hid ((HT0.out.trans HT2.out).drewN nq)
  go_wp2
  go_ret2
  exact ⟨rfl, HT3.out⟩

end Go.Proofs.Ytlbkphnbpenbcaa
