/-
  The program's own cache of neighbours (layer 19): Known.
-/
import Derived.Test.YtlbkphnbpenbcaaNgO
import Derived.Test.YtlbkphnbpenbcaaNgK
namespace Go.Proofs.Ytlbkphnbpenbcaa
open Go.RowKit
set_option linter.unusedVariables false

def neC (x : KyI × EnI) : List Value := [.int .i64 x.1.1, .bool x.1.2.1, .int .u64 (x.1.2.2.1 : Int), .int .u64 (x.1.2.2.2 : Int), .int .i64 x.2.st, .int .u64 x.2.mac]
theorem neC_len (x : KyI × EnI) : (neC x).length = 6 := rfl
theorem neC_one (x : KyI × EnI) : ∀ u ∈ neC x, u.oneCell' = true := by
  intro u hu
  unfold neC at hu
  simp at hu
  rcases hu with rfl | rfl | rfl | rfl | rfl | rfl <;> rfl
theorem infoNe : (Try.prog.info? 48).map (fun i => (i.zero, i.size, i.bytes)) = some (some (.agg #[.int .i64 0, .bool false, .int .u64 0, .int .u64 0, .int .i64 0, .int .u64 0]), 6, 48) := by kernel_rfl
set_option maxRecDepth 100000 in
set_option maxHeartbeats 4000000 in
theorem knownN {w : World} {t : Nat} {S : List Nat} {L : TbI} (h : NgP w t S L) :
    Calls Try.prog 15 #[.pointer (some ⟨t, 0, none⟩)] w fun e w' => ∃ A c, e = .returned (.slice A L.length c) ∧ w'.ownsRow w.heap.size 48 6 (.slice A L.length c) L.length (L.flatMap neC) ∧ Tch w w' [] := by
  have HKs := Lib.hid (keysN h)
  obtain ⟨m, M, hm⟩ := h
  have HM := Lib.hid hm
  obtain ⟨n, hn⟩ : ∃ n, L.length = n := ⟨_, rfl⟩
  have HLn := Lib.hid hn
  have HN64 : Hid (n ≤ 64) := Lib.hid (hn ▸ hm.inv.len)
  rw [hn] at HKs ⊢
  clear hm hn
  go_enter Try.func15, Try.ntmps15
  go_wp2_with fail
  refine Calls.mono HKs.out ?_
  rintro e W1 ⟨Ak, ck, rfl, hok, hT1⟩
  have HKo := Lib.hid hok
  have HT1 := Lib.hid hT1
  obtain ⟨B1, hB1⟩ : ∃ B, W1.heap.size = B := ⟨_, rfl⟩
  have HB1 := Lib.hid hB1
  have hnI : IntKind.i64.wrap (n : Int) = (n : Int) := by have := HN64.out; rw [IntKind.wrap_i64]; omega
  clear hok hT1 hB1
  go_wp2_with fail
  go_loopw [3, 10] (fun av iv wr => ∃ (i : Nat) (A5 : Option Addr) (c5 : Nat), av = .slice A5 i c5 ∧ iv = .int .i64 (i : Int) ∧ i ≤ n ∧ Hid (wr.ownsRow B1 48 6 (.slice A5 i c5) i ((L.take i).flatMap neC)) ∧ Hid (Tch W1 wr [])) (fun _ iv _ => n - (intOf iv).toNat)
  case atStart => exact ⟨0, none, 0, rfl, rfl, Nat.zero_le _, Lib.hid ⟨rfl, .inl ⟨rfl, rfl⟩⟩, Lib.hid (Tch.refl _ _)⟩
  case round =>
    obtain ⟨i, A5, c5, rfl, rfl, hi5, hR5, hT5⟩ := hrel
    by_cases hin : i < n
    · have iI : (i : Int) < (n : Int) := by omega
      have i0 : (0 : Int) ≤ (i : Int) := by omega
      have i1 : IntKind.i64.wrap ((i : Int) + 1) = (i : Int) + 1 := by have := HN64.out; rw [IntKind.wrap_i64]; omega
      have HI := Lib.hid (And.intro i1 hin)
      obtain ⟨x, hx⟩ : ∃ x, L[i]? = some x := ⟨_, List.getElem?_eq_getElem (by rw [HLn.out]; exact hin)⟩
      obtain ⟨k, en⟩ := x
      have HTk : Hid ((L.take (i + 1)).flatMap neC = (L.take i).flatMap neC ++ neC (k, en)) := Lib.hid (by rw [List.take_add_one, hx, List.flatMap_append]; simp)
      obtain ⟨g, rfl⟩ := slice_some HKo.out (by omega)
      have HKr : Hid (wr.ownsRow w.heap.size 70 4 (.slice (some ⟨g, 0, none⟩) n ck) n ((L.map Prod.fst).flatMap kyC)) := Lib.hid (own_tch HKo.out hT5.out (by simp))
      have hcell : ∀ j u, (kyC k)[j]? = some u → wr.cell? ⟨g, i * 4 + j, none⟩ = some u := fun j u hj => own_cellN HKr.out (by
        have hj4 : j < 4 := (List.getElem?_eq_some_iff.1 hj).1
        rw [flatk_at (n := 4) (f := kyC) (fun _ => rfl) (x := k) (by rw [List.getElem?_map, hx]; rfl) hj4, hj])
      have c0 := hcell 0 _ rfl
      have c1 := hcell 1 _ rfl
      have c2 := hcell 2 _ rfl
      have c3 := hcell 3 _ rfl
      rw [Nat.add_zero] at c0
      clear hcell
      have hTw : Tch w wr [] := HT1.out.trans hT5.out
      have HTw := Lib.hid hTw
      have hf : fnd L k = some en := (fnd_iff HM.out.inv).2 (List.mem_of_getElem? hx)
      obtain ⟨A, c, hv, -⟩ := HM.out.at2 k
      have hE : gtE L k = en := by unfold gtE; rw [hf]; rfl
      rw [hE] at hv
      have HV := Lib.hid hv
      obtain ⟨st, mac, lft, ask, wts⟩ := en
      obtain ⟨nw, hnw⟩ : ∃ nw, wts.length = nw := ⟨_, rfl⟩
      simp only [hnw] at HV
      obtain ⟨W2, hW2⟩ : ∃ W, wr.alloc (.cells #[.int .i64 0, .bool false, .int .u64 0, .int .u64 0] 70) = W := ⟨_, rfl⟩
      obtain ⟨kb, hkb⟩ : ∃ kb, wr.heap.size = kb := ⟨_, rfl⟩
      have HK2 : Hid (Blk W2 kb 70 #[.int .i64 0, .bool false, .int .u64 0, .int .u64 0]) := Lib.hid (hW2 ▸ hkb ▸ Blk.new wr _ _)
      have HT2 : Hid (Tch wr W2 []) := Lib.hid (hW2 ▸ (Tch.refl wr []).alloc _)
      have HW2 := Lib.hid (And.intro hW2 hkb)
      clear hx hW2 hkb hTw hf hE hv hnw
      obtain ⟨p, s, hi, lo⟩ := k
      go_wp2_with (first | (rw [HW2.out.1, HW2.out.2]) | (refine wpList_sta rfl 70 (.tmp 5) (.tmp 13) rfl kb 0 _ rfl rfl 70 _ HK2.out 4 (by kernel_rfl) rfl (by decide) (one4 rfl rfl rfl rfl) ?_; intro W3 hS3; have HK3 : Hid (Blk W3 kb 70 #[.int .i64 p, .bool s, .int .u64 (hi : Int), .int .u64 (lo : Int)]) := Lib.hid (sta_whole hS3 rfl); have HT3 : Hid (Tch wr W3 []) := Lib.hid (HT2.out.trans_fre hS3.tch (by have := HW2.out.2; simp; omega)); clear hS3; clear c0 c1 c2 c3))
      obtain ⟨W4, hW4⟩ : ∃ W, (W3.alloc (.cells #[.int .i64 0, .int .u64 0, .int .i64 0, .int .i64 0, .slice none 0 0] 68)).drew = W := ⟨_, rfl⟩
      obtain ⟨eb, heb⟩ : ∃ eb, W3.heap.size = eb := ⟨_, rfl⟩
      have HEb : Hid (Blk W4 eb 68 #[.int .i64 0, .int .u64 0, .int .i64 0, .int .i64 0, .slice none 0 0]) := Lib.hid (hW4 ▸ heb ▸ (Blk.new W3 _ _).drew)
      have HT4 : Hid (Tch W3 W4 []) := Lib.hid (hW4 ▸ ((Tch.refl W3 []).alloc _).drew)
      have HW4 := Lib.hid (And.intro hW4 heb)
      have HLe : Hid (W3.heap.size ≤ eb) := Lib.hid (by omega)
      have HS : Hid (∀ W, Tch W3 W [] → W.cell? ⟨t, 0, none⟩ = some (.map (some m)) ∧ W.cell? ⟨kb, 0, none⟩ = some (.int .i64 p) ∧ W.cell? ⟨kb, 1, none⟩ = some (.bool s) ∧ W.cell? ⟨kb, 2, none⟩ = some (.int .u64 (hi : Int)) ∧ W.cell? ⟨kb, 3, none⟩ = some (.int .u64 (lo : Int)) ∧ (Instr.lookup 61 (.map (some m)) (.agg #[.int .i64 p, .bool s, .int .u64 (hi : Int), .int .u64 (lo : Int)]) false).run Try.prog W = .ok (.agg #[.int .i64 st, .int .u64 mac, .int .i64 lft, .int .i64 ask, .slice A nw c]) W) := Lib.hid (fun W hT => by
        have hm' := HM.out.tch ((HTw.out.trans HT3.out).trans hT) (by simp)
        have hx := hT.blk HK3.out (by simp)
        exact ⟨(hm'.bt.cell 0).trans rfl, (hx.cell 0).trans rfl, (hx.cell 1).trans rfl, (hx.cell 2).trans rfl, (hx.cell 3).trans rfl, by have := hm'.look (p, s, hi, lo); rw [HV.out] at this; exact this⟩)
      clear hW4 heb
      refine wp_region_held_drew (S := (fun W => W.cell? ⟨t, 0, none⟩ = some (.map (some m)) ∧ W.cell? ⟨kb, 0, none⟩ = some (.int .i64 p) ∧ W.cell? ⟨kb, 1, none⟩ = some (.bool s) ∧ W.cell? ⟨kb, 2, none⟩ = some (.int .u64 (hi : Int)) ∧ W.cell? ⟨kb, 3, none⟩ = some (.int .u64 (lo : Int)) ∧ (Instr.lookup 61 (.map (some m)) (.agg #[.int .i64 p, .bool s, .int .u64 (hi : Int), .int .u64 (lo : Int)]) false).run Try.prog W = .ok (.agg #[.int .i64 st, .int .u64 mac, .int .i64 lft, .int .i64 ask, .slice A nw c]) W)) (by kernel_rfl) ?_ (fun hHeld => ?_)
      · ((first | exact HS.out _ (Tch.refl _ _).drew | exact HS.out _ HT5.out | exact HS.out _ HT4.out))
      refine tkH 0 (by assumption) ?_
      refine tkH 1 (by assumption) ?_
      refine tkH 2 (by assumption) ?_
      refine tkH 3 (by assumption) ?_
      refine tkH 4 (by assumption) ?_
      refine tkH 5 (by assumption) ?_
      refine wpAnyH_ready (rs := [6]) (by kernel_rfl) (by simp) ?_
      refine AllReadyH.cons (o := { dst := some 6, op := Go.Op.alloc 68, type := 0, pos := "tick.go:32", after := #[], guard := none }) rfl (fun K hK => ?_) AllReadyH.nil
      rw [if_pos (by rfl)]
      first | (refine wpo_sta 68 (.tmp 6) (.tmp 19) rfl eb 0 _ rfl rfl 68 _ HEb.out 5 (by kernel_rfl) rfl (by decide) (one5 rfl rfl rfl rfl rfl) (fun W5 hS5 => ?_); have HT5 : Hid (Tch W3 W5 []) := Lib.hid (HT4.out.trans_fre hS5.tch (by have := HLe.out; simp; omega)); have HE5 : Hid (Blk W5 eb 68 #[.int .i64 st, .int .u64 mac, .int .i64 lft, .int .i64 ask, .slice A nw c]) := Lib.hid (sta_whole hS5 rfl); clear hS5) | (go_simp; rw [HW4.out.1, HW4.out.2])
      refine hK.out _ _ ?_ (fun hHeld => ?_)
      · ((first | exact HS.out _ (Tch.refl _ _).drew | exact HS.out _ HT5.out | exact HS.out _ HT4.out))
      clear hK K
      try simp only [Act.put]
      refine wpAnyH_ready (rs := [7]) (by kernel_rfl) (by simp) ?_
      refine AllReadyH.cons (o := { dst := none, op := Go.Op.store 68 (Go.Operand.tmp 6) (Go.Operand.tmp 19), type := 0, pos := "tick.go:32", after := #[{ on := 6, ground := Go.Ground.data }, { on := 5, ground := Go.Ground.data }, { on := 0, ground := Go.Ground.phase }, { on := 1, ground := Go.Ground.phase }, { on := 2, ground := Go.Ground.phase }, { on := 3, ground := Go.Ground.phase }, { on := 4, ground := Go.Ground.phase }, { on := 5, ground := Go.Ground.phase }, { on := 6, ground := Go.Ground.phase }], guard := none }) rfl (fun K hK => ?_) AllReadyH.nil
      rw [if_pos (by rfl)]
      first | (refine wpo_sta 68 (.tmp 6) (.tmp 19) rfl eb 0 _ rfl rfl 68 _ HEb.out 5 (by kernel_rfl) rfl (by decide) (one5 rfl rfl rfl rfl rfl) (fun W5 hS5 => ?_); have HT5 : Hid (Tch W3 W5 []) := Lib.hid (HT4.out.trans_fre hS5.tch (by have := HLe.out; simp; omega)); have HE5 : Hid (Blk W5 eb 68 #[.int .i64 st, .int .u64 mac, .int .i64 lft, .int .i64 ask, .slice A nw c]) := Lib.hid (sta_whole hS5 rfl); clear hS5) | (go_simp; rw [HW4.out.1, HW4.out.2])
      refine hK.out _ _ ?_ (fun hHeld => ?_)
      · ((first | exact HS.out _ (Tch.refl _ _).drew | exact HS.out _ HT5.out | exact HS.out _ HT4.out))
      clear hK K
      try simp only [Act.put]
      refine wpAnyH_done (by kernel_rfl) ?_ _
      obtain ⟨z0, z1, z2, z3, z4⟩ := HE5.out.k5
      obtain ⟨k0, k1, k2, k3⟩ := (HT5.out.blk HK3.out (by simp)).k4
      have HTr5 : Hid (Tch wr W5 []) := Lib.hid (HT3.out.trans HT5.out)
      have HR6 : Hid (W5.ownsRow B1 48 6 (.slice A5 i c5) i ((L.take i).flatMap neC)) := Lib.hid (own_tch hR5.out HTr5.out (by simp))
      have HSz : Hid (B1 ≤ W5.heap.size) := Lib.hid (by have := HB1.out; have := (hT5.out.trans HTr5.out).size; omega)
      go_wp2_with (first | (at_builtin; refine wpList_apc 44 48 (.agg #[.int .i64 0, .bool false, .int .u64 0, .int .u64 0, .int .i64 0, .int .u64 0]) 6 48 Try.underlying44 infoNe rfl (by decide) (by decide) _ rfl (.tmp 20) (.tmp 30) rfl B1 (.slice A5 i c5) i _ rfl (HR6.out.alloc _) ⟨_, 0, none⟩ 1 [.int .i64 p, .bool s, .int .u64 (hi : Int), .int .u64 (lo : Int), .int .i64 st, .int .u64 mac] rfl rfl (src_new _ _ _) (neC_one ((p, s, hi, lo), ⟨st, mac, lft, ask, wts⟩)) (by have := HN64.out; have := HI.out.2; omega) (by have := HSz.out; simp; omega) ?_; intro v7 W7 hown hg hv; obtain ⟨A7, c7, rfl, -, -⟩ := own_sl hown; have HO7 := Lib.hid hown; have HT7 : Hid (Tch W5 W7 (obI (.slice A5 i c5))) := Lib.hid (((Tch.refl W5 _).alloc _).trans (Tch.of_grown' hg (fun g e => by rw [obI_some e]; simp))); clear hown hg hv))
      go_roundw
      case rel => exact ⟨i + 1, A7, c7, rfl, by go_num, HI.out.2, Lib.hid (by rw [HTk.out]; exact HO7.out), Lib.hid ((hT5.out.trans HTr5.out).trans_fre HT7.out (fun s' hs => .inr (by have := (own_geI HR6.out s' hs).1; have := HB1.out; omega)))⟩
      case measure => have := HI.out.2; simp [intOf]; omega
    · have iI : ¬ (i : Int) < (n : Int) := by omega
      obtain rfl : i = n := by omega
      have hall : L.take i = L := List.take_of_length_le (by rw [HLn.out]; exact Nat.le_refl _)
      rw [hall] at hR5
      clear hall
      go_wp2
      go_ret
      exact ⟨A5, c5, rfl, own_mono hR5.out (by have := HB1.out; have := HT1.out.size; omega), HT1.out.trans hT5.out⟩
end Go.Proofs.Ytlbkphnbpenbcaa
