/-
  The program's own cache of neighbours (layer 19): remove, ask, pass.
-/
import Derived.Test.YtlbkphnbpenbcaaNgO
namespace Go.Proofs.Ytlbkphnbpenbcaa
open Go.RowKit
set_option linter.unusedVariables false

theorem acC_flat (l : List AcI) : (l.flatMap acC).length = l.length * 7 := flatk_len acC_len l
theorem del_end {w W8 W9 : World} {t m : Nat} {M : List (KyI × Value)} {S : List Nat} {L : TbI} (hm : NgM w t m M S L) {k : KyI} (hT : Tch w W8 []) (hM : MpIs (fun k => kyV k) W9 m (mpDel M k)) (hT2 : Tch W8 W9 [m]) {A : Option Addr} {n c : Nat} {acts : List AcI} (ho : W8.ownsRow w.heap.size 41 7 (.slice A n c) n (acts.flatMap acC)) (hn : acts.length = n) {r : List AcI × TbI} (hr : r = (acts, delT L k)) : ActS w W9 t S r (.returned (.slice A n c)) := by
  obtain ⟨S', h1, h2⟩ := (hm.tch hT (by simp)).del_ hM hT2
  exact acts_of hr (own_tch ho hT2 (own_above ho (hm.lt m (by rw [hm.eS]; simp)))) hn h1 ((Goes.of_nil hT S).trans_ h2)
theorem sendS_end {w W8 W9 : World} {t m : Nat} {M : List (KyI × Value)} {S : List Nat} {L : TbI} (hm : NgM w t m M S L) {k : KyI} (hT : Tch w W8 (wtB (mpV M k zEn))) {e : EnI} {v : Value} (hv : EnW W8 e v) (hf : ∀ s ∈ wtB v, s ∈ wtB (mpV M k zEn) ∨ w.heap.size ≤ s) (hI : InvT (putT L k e)) (hM : MpIs (fun k => kyV k) W9 m (mpPut M k v)) (hT2 : Tch W8 W9 [m]) {W10 : World} (hT3 : Tch W9 W10 []) {A : Option Addr} {n c : Nat} {acts : List AcI} (ho : W10.ownsRow w.heap.size 41 7 (.slice A n c) n (acts.flatMap acC)) (hn : acts.length = n) {r : List AcI × TbI} (hr : r = (acts, putT L k e)) : ActS w W10 t S r (.returned (.slice A n c)) := by
  obtain ⟨S', h1, h2⟩ := hm.set_ hT hv hf hI hM hT2
  exact acts_of hr ho hn (h1.tch hT3 (by simp)) (h2.trans_ (Goes.of_nil hT3 S'))
set_option maxRecDepth 100000 in
set_option maxHeartbeats 4000000 in
theorem removeN {w : World} {t : Nat} {S : List Nat} {L : TbI} (h : NgP w t S L) (k : KyI) (kind : Int) :
    Calls Try.prog 38 #[.pointer (some ⟨t, 0, none⟩), kyV k, .int .i64 kind] w fun e w' => ActS w w' t S ((wtsK L k).map (acI k kind 0), delT L k) e := by
  obtain ⟨m, M, hm⟩ := h
  have h3 := wts_few hm.inv k
  obtain ⟨A, c, hv, ho⟩ := hm.at2 k
  rw [wts_gt] at h3 ⊢
  obtain ⟨⟨st, mac, lft, ask, wts⟩, hE⟩ : ∃ e, gtE L k = e := ⟨_, rfl⟩
  rw [hE] at hv ho h3 ⊢
  simp only at h3 ⊢
  obtain ⟨n, hln⟩ : ∃ n, wts.length = n := ⟨_, rfl⟩
  simp only [hln] at hv ho h3
  have HLn := Lib.hid hln
  have HN3 := Lib.hid h3
  have HM := Lib.hid hm
  have HV := Lib.hid hv
  have HO := Lib.hid ho
  obtain ⟨p, s, hi, lo⟩ := k
  obtain ⟨W0, hW0⟩ : ∃ W, w.alloc (.cells #[.int .i64 p, .bool s, .int .u64 (hi : Int), .int .u64 (lo : Int)] 70) = W := ⟨_, rfl⟩
  obtain ⟨kb, hkb⟩ : ∃ kb, w.heap.size = kb := ⟨_, rfl⟩
  have hB0 : Blk W0 kb 70 #[.int .i64 p, .bool s, .int .u64 (hi : Int), .int .u64 (lo : Int)] := hW0 ▸ hkb ▸ Blk.new w _ _
  have hT0 : Tch w W0 [] := hW0 ▸ (Tch.refl w []).alloc _
  have HB0 := Lib.hid hB0
  have HT0 := Lib.hid hT0
  have HZ : Hid (w.heap.size ≤ kb ∧ kb < W0.heap.size ∧ t < w.heap.size ∧ m < w.heap.size) := Lib.hid ⟨by omega, hB0.lt, hm.lt t (by rw [hm.eS]; simp), hm.lt m (by rw [hm.eS]; simp)⟩
  have HW := Lib.hid (And.intro hW0 hkb)
  have HS : Hid (∀ W, Tch W0 W [] → W.cell? ⟨t, 0, none⟩ = some (.map (some m)) ∧ W.cell? ⟨kb, 0, none⟩ = some (.int .i64 p) ∧ W.cell? ⟨kb, 1, none⟩ = some (.bool s) ∧ W.cell? ⟨kb, 2, none⟩ = some (.int .u64 (hi : Int)) ∧ W.cell? ⟨kb, 3, none⟩ = some (.int .u64 (lo : Int)) ∧ (Instr.lookup 61 (.map (some m)) (.agg #[.int .i64 p, .bool s, .int .u64 (hi : Int), .int .u64 (lo : Int)]) false).run Try.prog W = .ok (.agg #[.int .i64 st, .int .u64 mac, .int .i64 lft, .int .i64 ask, .slice A n c]) W) := Lib.hid (fun W hT => by
    have hm' := HM.out.tch (HT0.out.trans hT) (by simp)
    have hx := hT.blk HB0.out (by simp)
    exact ⟨(hm'.bt.cell 0).trans rfl, (hx.cell 0).trans rfl, (hx.cell 1).trans rfl, (hx.cell 2).trans rfl, (hx.cell 3).trans rfl, by have := hm'.look (p, s, hi, lo); rw [HV.out] at this; exact this⟩)
  clear hW0 hkb hB0 hT0 hm hv ho hln h3 hE
  have hfld := fun W => fieldEn (.int .i64 st) (.int .u64 mac) (.int .i64 lft) (.int .i64 ask) A n c W
  have hnI : IntKind.i64.wrap (n : Int) = (n : Int) := by have := HN3.out; rw [IntKind.wrap_i64]; omega
  go_enter Try.func38, Try.ntmps38
  go_wp2_with (first | (rw [HW.out.1, HW.out.2]))
  refine wp_region_held_drew (S := (fun W => W.cell? ⟨t, 0, none⟩ = some (.map (some m)) ∧ W.cell? ⟨kb, 0, none⟩ = some (.int .i64 p) ∧ W.cell? ⟨kb, 1, none⟩ = some (.bool s) ∧ W.cell? ⟨kb, 2, none⟩ = some (.int .u64 (hi : Int)) ∧ W.cell? ⟨kb, 3, none⟩ = some (.int .u64 (lo : Int)) ∧ (Instr.lookup 61 (.map (some m)) (.agg #[.int .i64 p, .bool s, .int .u64 (hi : Int), .int .u64 (lo : Int)]) false).run Try.prog W = .ok (.agg #[.int .i64 st, .int .u64 mac, .int .i64 lft, .int .i64 ask, .slice A n c]) W)) (by kernel_rfl) ?_ (fun hHeld => ?_)
  · ((exact HS.out _ (Tch.refl _ _).drew))
  refine tkH 0 (by assumption) ?_
  refine tkH 1 (by assumption) ?_
  refine tkH 2 (by assumption) ?_
  refine tkH 3 (by assumption) ?_
  refine tkH 4 (by assumption) ?_
  refine tkH 5 (by assumption) ?_
  refine tkH 6 (by assumption) ?_
  refine tkH 7 (by assumption) ?_
  refine tkH 8 (by assumption) ?_
  refine wpAnyH_done (by kernel_rfl) ?_ _
  obtain ⟨W1, hW1⟩ : ∃ W, W0.drew = W := ⟨_, rfl⟩
  rw [hW1]
  have HT1 : Hid (Tch W0 W1 []) := Lib.hid (hW1 ▸ (Tch.refl W0 []).drew)
  obtain ⟨B1, hB1⟩ : ∃ B, W1.heap.size = B := ⟨_, rfl⟩
  have HB1 := Lib.hid hB1
  clear hW1 hB1
  go_wp2_with fail
  go_loopw [7, 18] (fun av iv wr => ∃ (i : Nat) (A5 : Option Addr) (c5 : Nat), av = .slice A5 i c5 ∧ iv = .int .i64 (i : Int) ∧ i ≤ n ∧ Hid (wr.ownsRow B1 41 7 (.slice A5 i c5) i (((wts.take i).map (acI (p, s, hi, lo) kind 0)).flatMap acC)) ∧ Hid (Tch W1 wr [])) (fun _ iv _ => n - (intOf iv).toNat)
  case atStart => exact ⟨0, none, 0, rfl, rfl, Nat.zero_le _, Lib.hid ⟨rfl, .inl ⟨rfl, rfl⟩⟩, Lib.hid (Tch.refl _ _)⟩
  case round =>
    obtain ⟨i, A5, c5, rfl, rfl, hi5, hR5, hT5⟩ := hrel
    by_cases hin : i < n
    · have iI : (i : Int) < (n : Int) := by omega
      have i0 : (0 : Int) ≤ (i : Int) := by omega
      have i1 : IntKind.i64.wrap ((i : Int) + 1) = (i : Int) + 1 := by have := HN3.out; rw [IntKind.wrap_i64]; omega
      have HI := Lib.hid (And.intro i1 hin)
      obtain ⟨x, hx⟩ : ∃ x, wts[i]? = some x := ⟨_, List.getElem?_eq_getElem (by rw [HLn.out]; exact hin)⟩
      have hTk : (wts.take (i + 1)).map (acI (p, s, hi, lo) kind 0) = (wts.take i).map (acI (p, s, hi, lo) kind 0) ++ [acI (p, s, hi, lo) kind 0 x] := by rw [List.take_add_one, hx]; simp
      have HTk := Lib.hid hTk
      obtain ⟨g, rfl⟩ := slice_some HO.out (by omega)
      have cx : wr.cell? ⟨g, i, none⟩ = some (.string x) := own_cellN (own_tch HO.out ((HT0.out.trans HT1.out).trans hT5.out) (by simp)) (by rw [List.getElem?_map, hx]; rfl)
      have HKr : Hid (Blk wr kb 70 #[.int .i64 p, .bool s, .int .u64 (hi : Int), .int .u64 (lo : Int)]) := Lib.hid ((HT1.out.trans hT5.out).blk HB0.out (by simp))
      obtain ⟨k0, k1, k2, k3⟩ := HKr.out.k4
      have HSz : Hid (B1 ≤ wr.heap.size) := Lib.hid (by have := HB1.out; have := hT5.out.size; omega)
      clear hx hTk
      go_wp2_with fail
      refine Calls.mono (act_at p s hi lo kind 0 x wr) ?_
      rintro e W6 ⟨rfl, hT6⟩
      have HT6 := Lib.hid hT6
      have HR6 : Hid (W6.ownsRow B1 41 7 (.slice A5 i c5) i (((wts.take i).map (acI (p, s, hi, lo) kind 0)).flatMap acC)) := Lib.hid (own_tch hR5.out hT6 (by simp))
      clear hT6 k0 k1 k2 k3 cx
      go_wp2_with (first | (at_builtin; refine wpList_apc 34 41 (.agg #[.int .i64 0, .int .i64 0, .bool false, .int .u64 0, .int .u64 0, .int .u64 0, .string ⟨#[]⟩]) 7 64 Try.underlying34 infoAc rfl (by decide) (by decide) _ rfl (.tmp 22) (.tmp 27) rfl B1 (.slice A5 i c5) i _ rfl (HR6.out.alloc _) ⟨_, 0, none⟩ 1 [.int .i64 kind, .int .i64 p, .bool s, .int .u64 (hi : Int), .int .u64 (lo : Int), .int .u64 0, .string x] rfl rfl (src_new _ _ _) (acC_one ⟨kind, (p, s, hi, lo), 0, x⟩) (by have := HN3.out; have := HI.out.2; omega) (by have := HSz.out; have := HT6.out.size; simp; omega) ?_; intro v7 W7 hown hg hv; obtain ⟨A7, c7, rfl, -, -⟩ := own_sl hown; have HO7 := Lib.hid hown; have HT7 : Hid (Tch W6 W7 (obI (.slice A5 i c5))) := Lib.hid (((Tch.refl W6 _).alloc _).trans (Tch.of_grown' hg (fun g e => by rw [obI_some e]; simp))); clear hown hg hv))
      go_roundw
      case rel => exact ⟨i + 1, A7, c7, rfl, by go_num, HI.out.2, Lib.hid (by rw [HTk.out, List.flatMap_append]; exact HO7.out), Lib.hid ((hT5.out.trans HT6.out).trans_fre HT7.out (fun s' hs => .inr (by have := (own_geI HR6.out s' hs).1; have := HB1.out; omega)))⟩
      case measure => have := HI.out.2; simp [intOf]; omega
    · have iI : ¬ (i : Int) < (n : Int) := by omega
      obtain rfl : i = n := by omega
      have hall : wts.take i = wts := List.take_of_length_le (by rw [HLn.out]; exact Nat.le_refl _)
      rw [hall] at hR5
      have hTw : Tch w wr [] := (HT0.out.trans HT1.out).trans hT5.out
      have hne : t ≠ m ∧ kb ≠ m := ⟨HM.out.nd.1.1, by have := HZ.out; omega⟩
      have HC : Hid (∀ W, Tch wr W [m] → W.cell? ⟨t, 0, none⟩ = some (.map (some m)) ∧ W.cell? ⟨kb, 0, none⟩ = some (.int .i64 p) ∧ W.cell? ⟨kb, 1, none⟩ = some (.bool s) ∧ W.cell? ⟨kb, 2, none⟩ = some (.int .u64 (hi : Int)) ∧ W.cell? ⟨kb, 3, none⟩ = some (.int .u64 (lo : Int))) := Lib.hid (fun W hT => by
        have h1 := hT.blk (HM.out.tch hTw (by simp)).bt (by simpa using hne.1)
        have h2 := hT.blk ((HT1.out.trans hT5.out).blk HB0.out (by simp)) (by simpa using hne.2)
        exact ⟨(h1.cell 0).trans rfl, (h2.cell 0).trans rfl, (h2.cell 1).trans rfl, (h2.cell 2).trans rfl, (h2.cell 3).trans rfl⟩)
      have HTw := Lib.hid hTw
      have HMp : Hid (MpIs (fun k : KyI => kyV k) wr.drew m M) := Lib.hid ((HM.out.mp.tch hTw (by simp)).tch ((Tch.refl wr []).drew) (by simp))
      clear hTw hne hall
      go_wp2_with fail
      refine wp_region_held_drew (S := (fun W => W.cell? ⟨t, 0, none⟩ = some (.map (some m)) ∧ W.cell? ⟨kb, 0, none⟩ = some (.int .i64 p) ∧ W.cell? ⟨kb, 1, none⟩ = some (.bool s) ∧ W.cell? ⟨kb, 2, none⟩ = some (.int .u64 (hi : Int)) ∧ W.cell? ⟨kb, 3, none⟩ = some (.int .u64 (lo : Int)))) (by kernel_rfl) ?_ (fun hHeld => ?_)
      · ((first | exact HC.out _ (Tch.refl _ _).drew | exact HC.out _ HT8.out))
      refine tkH 0 (by assumption) ?_
      refine tkH 1 (by assumption) ?_
      refine tkH 2 (by assumption) ?_
      refine tkH 3 (by assumption) ?_
      refine tkH 4 (by assumption) ?_
      refine wpAnyH_ready (rs := [5]) (by kernel_rfl) (by simp) ?_
      refine AllReadyH.cons (o := { dst := none, op := Go.Op.call { callee := Go.Callee.builtin Go.Builtin.delete, args := #[Go.Operand.tmp 33, Go.Operand.tmp 34], argTypes := #[61, 70] }, type := 0, pos := "tick.go:86", after := #[{ on := 3, ground := Go.Ground.data }, { on := 4, ground := Go.Ground.data }], guard := none }) rfl (fun K hK => ?_) AllReadyH.nil
      rw [if_pos (by rfl)]
      (refine wpo_mdel keyK_F (.tmp 33) (.tmp 34) 61 68 rfl Try.underlying61 rfl (p, s, hi, lo) rfl HMp.out (fun W8 hM8 hT8 hs8 => ?_); have HM8 := Lib.hid hM8; have HT8 : Hid (Tch wr W8 [m]) := Lib.hid (((Tch.refl wr [m]).drew).trans hT8); clear hM8 hT8 hs8)
      refine hK.out _ _ ?_ (fun hHeld => ?_)
      · ((first | exact HC.out _ (Tch.refl _ _).drew | exact HC.out _ HT8.out))
      clear hK K
      try simp only [Act.put]
      refine wpAnyH_done (by kernel_rfl) ?_ _
      go_wp2
      go_ret
      exact del_end HM.out HTw.out HM8.out HT8.out (acts := wts.map (acI (p, s, hi, lo) kind 0)) (own_mono hR5.out (by have := HB1.out; have := (HT0.out.trans HT1.out).size; omega)) (by rw [List.length_map]; exact HLn.out) rfl
end Go.Proofs.Ytlbkphnbpenbcaa
