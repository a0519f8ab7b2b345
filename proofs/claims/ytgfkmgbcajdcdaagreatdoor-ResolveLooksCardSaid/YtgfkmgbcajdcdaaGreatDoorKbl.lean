/-
  Several texts in one: TrAb.
-/
import Derived.Test.YtgfkmgbcajdcdaaGreatDoorKbk
import Derived.StillTailTactics
namespace Go.Proofs.YtgfkmgbcajdcdaaGreatDoor
open Go.RowKit Ifs
set_option linter.unusedVariables false

theorem addr_add0 (b j : Nat) : Addr.add ⟨b, 0, none⟩ j = ⟨b, j, none⟩ := by
  unfold Addr.add
  by_cases h : j = 0
  · subst h; rfl
  · simp [h]
theorem infoPt : (Tryz.prog.info? 218).map (fun i => (i.zero, i.size, i.bytes)) = some (some (.agg #[.int .i64 0, .int .i64 0, .slice none 0 0]), 3, 40) := by kernel_rfl
theorem infoNd : (Tryz.prog.info? 192).map (fun i => (i.zero, i.size, i.bytes)) = some (some (.agg #[.int .u64 0, .int .u64 0, .int .i64 0, .int .i64 0]), 4, 32) := by kernel_rfl
theorem infoIt : (Tryz.prog.info? 3).map (fun i => (i.zero, i.size, i.bytes)) = some (some (.int .i64 0), 1, 8) := by kernel_rfl
theorem obI_same {u v : Value} (h : u.ownBlock = v.ownBlock) : obI u = obI v := by unfold obI; rw [h]
theorem storeN_node {p : PtN} {P : List PtN} {LV : List Int} {i : Nat} (h : slotR p.d p.rs i ≠ []) : storeN p P LV (i + 1) = ⟨(storeN p P LV i).nm ||| 2 ^ i, (storeN p P LV i).lm, (storeN p P LV i).P ++ [slotP p i], (storeN p P LV i).LV⟩ := by
  show stepN p (storeN p P LV i) i = _
  unfold stepN
  rw [if_pos h]
theorem storeN_leaf {p : PtN} {P : List PtN} {LV : List Int} {i : Nat} (h : slotR p.d p.rs i = []) (h2 : (storeN p P LV i).lm = 0 ∨ (storeN p P LV i).LV[(storeN p P LV i).LV.length - 1]? ≠ some (slotN p.d p.rs p.nx i)) : storeN p P LV (i + 1) = ⟨(storeN p P LV i).nm, (storeN p P LV i).lm ||| 2 ^ i, (storeN p P LV i).P, (storeN p P LV i).LV ++ [slotN p.d p.rs p.nx i]⟩ := by
  show stepN p (storeN p P LV i) i = _
  unfold stepN
  rw [if_neg (not_not_intro h), if_pos h2]
theorem storeN_none {p : PtN} {P : List PtN} {LV : List Int} {i : Nat} (h : slotR p.d p.rs i = []) (h2 : ¬ ((storeN p P LV i).lm = 0 ∨ (storeN p P LV i).LV[(storeN p P LV i).LV.length - 1]? ≠ some (slotN p.d p.rs p.nx i))) : storeN p P LV (i + 1) = storeN p P LV i := by
  show stepN p (storeN p P LV i) i = _
  unfold stepN
  rw [if_neg (not_not_intro h), if_neg h2]
theorem storeN_lt (p : PtN) (P : List PtN) (LV : List Int) {i : Nat} (h : i ≤ 64) : (storeN p P LV i).nm < 2 ^ 64 ∧ (storeN p P LV i).lm < 2 ^ 64 :=
  have hs := storeN_ok p P LV i
  ⟨Nat.lt_pow_two_of_testBit _ fun j hj => hs.nb j (by omega), Nat.lt_pow_two_of_testBit _ fun j hj => hs.lb j (by omega)⟩
set_option maxRecDepth 100000 in
set_option maxHeartbeats 8000000 in
theorem store_any (g pb tb base cc : Nat) (AP AN AL : Option Addr) (nP cP nN cN nL cL : Nat) (N : List NdN) (P : List PrI) (LV : List Int) (p : PrI) (w : World)
    (hB : BuI w base g pb tb AP AN AL nP cP nN cN nL cL N P LV) (hp : PrOk w g p) (hP : PosN p.1 cc (p.2.2.2.map rtN)) (hd : p.1 ≤ 21) (hn : nP ≤ 2000 ∧ nN ≤ 2000 ∧ nL ≤ 200000) (hbase : base ≤ w.heap.size) (hpb : base ≤ pb ∧ base ≤ tb) :
    Calls Tryz.prog 153 #[.agg (prC p).toArray, .pointer (some ⟨pb, 0, none⟩), .pointer (some ⟨tb, 0, none⟩)] w fun e w' => e = .returned (.tuple #[]) ∧
      ∃ AP' AN' AL' nP' cP' nN' cN' nL' cL', ∃ P' : List PrI, P'.map ptP = (storeN (ptP p) (P.map ptP) LV 64).P ∧ BuI w' base g pb tb AP' AN' AL' nP' cP' nN' cN' nL' cL' (N ++ [⟨P.length, (storeN (ptP p) (P.map ptP) LV 64).nm, LV.length, (storeN (ptP p) (P.map ptP) LV 64).lm⟩]) P' (storeN (ptP p) (P.map ptP) LV 64).LV ∧ Below base w w' := by
  obtain ⟨d, nx, x, rs⟩ := p
  obtain ⟨⟨A, n, c, hx, hn9, hR⟩, hok⟩ := hp
  simp only at hx hR hok hP hd
  subst hx
  simp only [prC]
  obtain ⟨xb, hxb⟩ : ∃ b, w.heap.size = b := ⟨_, rfl⟩
  obtain ⟨W2, hW2⟩ : ∃ W, (w.alloc (.cells #[.int .i64 (d : Int), .int .i64 nx, .slice A n c] 218)).alloc (.cells #[.int .u64 0, .int .u64 0, .int .i64 (nP : Int), .int .i64 (nL : Int)] 192) = W := ⟨_, rfl⟩
  have hT2 : Tch w W2 [] := hW2 ▸ ((Tch.refl w []).alloc _).alloc _
  have HT2 := Lib.hid hT2
  have HBx : Hid (Blk W2 xb 218 #[.int .i64 (d : Int), .int .i64 nx, .slice A n c]) := Lib.hid (hW2 ▸ hxb ▸ (Blk.new w _ _).alloc _)
  have HBn : Hid (Blk W2 (xb + 1) 192 #[.int .u64 0, .int .u64 0, .int .i64 (nP : Int), .int .i64 (nL : Int)]) := Lib.hid (by
    have h9 := Blk.new (w.alloc (.cells #[.int .i64 (d : Int), .int .i64 nx, .slice A n c] 218)) 192 #[.int .u64 0, .int .u64 0, .int .i64 (nP : Int), .int .i64 (nL : Int)]
    rw [World.size_alloc, hW2, hxb] at h9; exact h9)
  have HSl := Lib.hid (slots_any g d cc nx A n c rs W2 (hR.tch hT2 hB.gl (by simp)) (Nat.lt_of_lt_of_le hB.gl hT2.size) hP hok hd hn9)
  have HB := Lib.hid hB
  have HB2 := Lib.hid (hB.tch0 hT2)
  have HN := Lib.hid hn
  have HW2 := Lib.hid hW2
  have HX : Hid (w.heap.size = xb ∧ base ≤ xb) := Lib.hid ⟨hxb, by omega⟩
  have HPB := Lib.hid hpb
  have HRs : Hid (rs.length ≤ 1000 ∧ ∀ r ∈ rs, PvOk r.1) := Lib.hid ⟨by rw [hR.len]; exact hn9, hok⟩
  have a0 : (w.alloc (.cells #[.int .i64 (d : Int), .int .i64 nx, .slice A n c] 218)).cell? ⟨pb, 0, none⟩ = some (.slice AP nP cP) := (((Tch.refl w []).alloc (.cells #[.int .i64 (d : Int), .int .i64 nx, .slice A n c] 218)).blk hB.pc (by simp)).cell 0 |>.trans rfl
  have a1 : (w.alloc (.cells #[.int .i64 (d : Int), .int .i64 nx, .slice A n c] 218)).cell? ⟨tb, 1, none⟩ = some (.slice AL nL cL) := (((Tch.refl w []).alloc (.cells #[.int .i64 (d : Int), .int .i64 nx, .slice A n c] 218)).blk hB.tc (by simp)).cell 1 |>.trans rfl
  have b0 := (HBx.out.cell 0).trans (show _ = some (Value.int .i64 (d : Int)) from rfl)
  have b1 := (HBx.out.cell 1).trans (show _ = some (Value.int .i64 nx) from rfl)
  have b2 := (HBx.out.cell 2).trans (show _ = some (Value.slice A n c) from rfl)
  clear hB hn hbase hT2 hW2 hR hok hP hpb
  go_enter Tryz.func153, Tryz.ntmps153
  go_wp2_with (first
    | (rw [HW2.out]; (with_reducible refine Calls.mono HSl.out ?_); rintro e w3 ⟨cs, rfl, hpt, hT3⟩; have HPt := Lib.hid hpt; have HT3 := Lib.hid hT3; clear hT3 hpt b0 b1 b2)
    | (refine wpList_sta rfl 220 (.tmp 5) (.tmp 15) rfl w3.heap.size 0 cs rfl rfl 220 _ (Blk.new w3 _ _) 192 arSz HPt.out.size (by rw [zero_ar.1]; decide) HPt.out.one ?_; intro w4 hs4; have HC4 := Lib.hid (sta_whole hs4 (by rw [zero_ar.1, HPt.out.size])); have HT4 : Hid (Tch w3 w4 []) := Lib.hid (((Tch.refl w3 []).alloc _).trans_fre hs4.tch (fun s hs => .inr (by rw [List.mem_singleton.1 hs]; exact Nat.le_refl _))); clear hs4))
  obtain ⟨cb, hcb⟩ : ∃ b, w3.heap.size = b := ⟨_, rfl⟩
  rw [hcb] at HC4 ⊢
  have hT24 : Tch W2 w4 [] := HT3.out.trans HT4.out
  have HB4 := Lib.hid (HB2.out.tch0 hT24)
  have HN4 := Lib.hid (hT24.blk HBn.out (by simp))
  have HL : Hid (xb + 1 < cb ∧ cb < w4.heap.size ∧ (∀ s ∈ obI (.slice AP nP cP), s < xb) ∧ (∀ s ∈ obI (.slice AL nL cL), s < xb) ∧ (∀ s ∈ obI (.slice AN nN cN), s < xb) ∧ pb < xb ∧ tb < xb ∧ g < xb) := Lib.hid ⟨by have := HT3.out.size; have := HBn.out.lt; omega, HC4.out.lt, fun s hs => by have := own_lts HB.out.pr s hs; have := HX.out; omega, fun s hs => by have := own_lts HB.out.lr s hs; have := HX.out; omega, fun s hs => by have := own_lts HB.out.nr s hs; have := HX.out; omega, by have := HB.out.pc.lt; have := HX.out; omega, by have := HB.out.tc.lt; have := HX.out; omega, by have := HB.out.gl; have := HX.out; omega⟩
  go_loopw [16] (fun iv wr => ∃ (i : Nat) (A1 A2 : Option Addr) (n1 c1 n2 c2 : Nat) (P' : List PrI), iv = .int .i64 (i : Int) ∧ i ≤ 64 ∧ Hid (P'.map ptP = (storeN ⟨d, nx, rs.map rtN⟩ (P.map ptP) LV i).P) ∧
    Hid (BuI wr base g pb tb A1 AN A2 n1 c1 nN cN n2 c2 N P' (storeN ⟨d, nx, rs.map rtN⟩ (P.map ptP) LV i).LV) ∧
    Hid (Blk wr (xb + 1) 192 #[.int .u64 ((storeN ⟨d, nx, rs.map rtN⟩ (P.map ptP) LV i).nm : Int), .int .u64 ((storeN ⟨d, nx, rs.map rtN⟩ (P.map ptP) LV i).lm : Int), .int .i64 (nP : Int), .int .i64 (nL : Int)]) ∧
    Hid (Blk wr cb 220 cs) ∧ Hid (PtsI wr g d nx rs cs) ∧ Hid (n1 ≤ nP + i ∧ n2 ≤ nL + i ∧ w4.heap.size ≤ wr.heap.size) ∧
    Hid (∀ s, (s ∈ obI (.slice A1 n1 c1) ∨ s ∈ obI (.slice A2 n2 c2)) → s ≠ xb + 1 ∧ s ≠ cb) ∧ Hid (Below base w wr)) (fun iv _ => 64 - (intOf iv).toNat)
  case atStart => exact ⟨0, AP, AL, nP, cP, nL, cL, P, rfl, by decide, Lib.hid rfl, HB4, HN4, HC4, Lib.hid ⟨HPt.out.size, HPt.out.one, fun v hv => by obtain ⟨A', n', c', e0, e1, e2, e3⟩ := HPt.out.at_ v hv; exact ⟨A', n', c', e0, e1, e2, e3.tch HT4.out (by have := HT3.out.size; have := HBn.out.lt; have := HL.out; omega) (by simp)⟩⟩, Lib.hid ⟨Nat.le_refl _, Nat.le_refl _, Nat.le_refl _⟩, Lib.hid (fun s hs => by have h1 := HL.out; rcases hs with h | h; (have := h1.2.2.1 s h; omega); (have := h1.2.2.2.1 s h; omega)), Lib.hid ((HT2.out.trans hT24).below (by have := HX.out; omega) (fun s hs => by cases hs))⟩
  case round =>
    obtain ⟨i, A1, A2, n1, c1, n2, c2, P', rfl, hi, hP', hB', hN', hC', hPt, hSz, hDj, hBw⟩ := hrel
    by_cases hin : i < 64
    · have iI : (i : Int) < 64 := by omega
      have i0 : (0 : Int) ≤ (i : Int) := by omega
      have i1 : IntKind.i64.wrap ((i : Int) + 1) = (i : Int) + 1 := by rw [IntKind.wrap_i64]; omega
      obtain ⟨As, ns, cs', e0, e1, e2, hrd⟩ := hPt.out.at_ i hin
      obtain ⟨sv, hsv⟩ : ∃ z, slotN d (rs.map rtN) nx i = z := ⟨_, rfl⟩
      rw [hsv] at e1
      have HSv := Lib.hid hsv
      have c0 : wr.cell? ⟨cb, i * 3, none⟩ = some (.int .i64 ((d : Int) + 1)) := (hC'.out.cell (i * 3)).trans e0
      have c1' := (hC'.out.cell (i * 3 + 1)).trans e1
      have c2' := (hC'.out.cell (i * 3 + 2)).trans e2
      have HRd := Lib.hid hrd
      have HIs := Lib.hid (fun W => isnode_any ((d : Int) + 1) sv As ns cs' W)
      have HAl : Hid (Tch wr (wr.alloc (.cells #[.int .i64 ((d : Int) + 1), .int .i64 sv, .slice As ns cs'] 218)) []) := Lib.hid ((Tch.refl wr []).alloc _)
      have HBs : Hid (Blk (wr.alloc (.cells #[.int .i64 ((d : Int) + 1), .int .i64 sv, .slice As ns cs'] 218)) wr.heap.size 218 #[.int .i64 ((d : Int) + 1), .int .i64 sv, .slice As ns cs']) := Lib.hid (Blk.new wr _ _)
      clear hsv e0 e1 e2 hrd
      by_cases hnd : 0 < ns
      · have d1 : decide (0 < ns) = true := decide_eq_true hnd
        go_wp2_with (go_at_call 155; (with_reducible refine Calls.mono (HIs.out _) ?_); rintro e w5 ⟨rfl, hT5⟩; have HT5 : Hid (Tch wr w5 []) := Lib.hid (HAl.out.trans hT5); have HS5 := Lib.hid (hT5.blk HBs.out (by simp)); have HN5 := Lib.hid (HT5.out.blk hN'.out (by simp)); have f0 := (HN5.out.cell 0).trans (show _ = some (Value.int .u64 _) from rfl); have f9 := HN5.out.frozen 0; clear hT5)
        obtain ⟨nm, hnm⟩ : ∃ z : Nat, (storeN ⟨d, nx, rs.map rtN⟩ (P.map ptP) LV i).nm = z := ⟨_, rfl⟩
        rw [hnm] at f0
        have HNm := Lib.hid hnm
        clear hnm c0 c1' c2'
        go_wp2
        go_still_tail 6, (by kernel_rfl)
        change wpList _ _ _ _ _ w5.drew
        obtain ⟨w6, hw6⟩ : ∃ W, w5.drew = W := ⟨_, rfl⟩
        have HT6 : Hid (Tch wr w6 []) := Lib.hid (hw6 ▸ HT5.out.drew)
        have HS6 : Hid (Blk w6 wr.heap.size 218 #[.int .i64 ((d : Int) + 1), .int .i64 sv, .slice As ns cs']) := Lib.hid (hw6 ▸ (Tch.refl w5 []).drew.blk HS5.out (by simp))
        rw [hw6]
        clear hw6 f0 f9
        have HN6 := Lib.hid (HT6.out.blk hN'.out (by simp))
        have f9 := HN6.out.frozen 0
        have f0 := (HN6.out.cell 0).trans (show _ = some (Value.int .u64 _) from rfl)
        rw [HNm.out] at f0
        have HT7 : Hid (Tch w6 (w6.setCell ⟨xb + 1, 0, none⟩ (.int .u64 (bits .or .u64 (nm : Int) (IntKind.u64.wrap (2 ^ i))))) [xb + 1]) := Lib.hid ((Tch.refl w6 [xb + 1]).set_ (by simp) _)
        have g0 := ((HT7.out.blk (HT6.out.blk hB'.out.pc (by simp)) (by have := HL.out; simp; omega)).cell 0).trans (show _ = some (Value.slice A1 n1 c1) from rfl)
        have hs7 := HT7.out.blk HS6.out (by have := HL.out; have := hSz.out; simp; omega)
        obtain ⟨s0, s1, s2⟩ : _ ∧ _ ∧ _ := ⟨(hs7.cell 0).trans (show _ = some (Value.int .i64 ((d : Int) + 1)) from rfl), (hs7.cell 1).trans (show _ = some (Value.int .i64 sv) from rfl), (hs7.cell 2).trans (show _ = some (Value.slice As ns cs') from rfl)⟩
        clear hs7
        obtain ⟨W7, hW7⟩ : ∃ W, w6.setCell ⟨xb + 1, 0, none⟩ (.int .u64 (bits .or .u64 (nm : Int) (IntKind.u64.wrap (2 ^ i)))) = W := ⟨_, rfl⟩
        have HW7 := Lib.hid hW7
        rw [hW7] at HT7
        have HT8 : Hid (Tch wr (W7.alloc (.cells #[.int .i64 ((d : Int) + 1), .int .i64 sv, .slice As ns cs'] 218)) [xb + 1]) := Lib.hid (((HT6.out.mono (by simp)).trans HT7.out).alloc _)
        have HR8 := Lib.hid (own_tch hB'.out.pr HT8.out (fun s hs => by have := (hDj.out s (.inl hs)).1; simpa using this))
        have HC8 : Hid (Blk (W7.alloc (.cells #[.int .i64 ((d : Int) + 1), .int .i64 sv, .slice As ns cs'] 218)) W7.heap.size 218 #[.int .i64 ((d : Int) + 1), .int .i64 sv, .slice As ns cs']) := Lib.hid (Blk.new W7 _ _)
        have HP8 : Hid ((P'.flatMap prC).length = n1 * 3 ∧ n1 ≤ 1000000 ∧ base ≤ (W7.alloc (.cells #[.int .i64 ((d : Int) + 1), .int .i64 sv, .slice As ns cs'] 218)).heap.size) := Lib.hid ⟨HR8.out.1, by have := hSz.out; have := HN.out; omega, by have := HT8.out.size; have := HL.out; have := HX.out; have := hSz.out; omega⟩
        have h7s : W7.heap.size = w6.heap.size := by rw [← hW7]; simp
        rw [h7s] at HC8
        rw [hW7] at g0 s0 s1 s2
        clear hW7
        go_wp2_with (first
          | (rw [HW7.out])
          | (at_builtin; (refine wpList_apc 219 218 (.agg #[.int .i64 0, .int .i64 0, .slice none 0 0]) 3 40 Tryz.underlying219 infoPt rfl (by decide) (by decide) _ rfl (.tmp 31) (.tmp 33) rfl base (.slice A1 n1 c1) n1 (P'.flatMap prC) rfl HR8.out ⟨w6.heap.size, 0, none⟩ 1 [.int .i64 ((d : Int) + 1), .int .i64 sv, .slice As ns cs'] rfl rfl (fun j u hj => by have h9 := HC8.out.cell j; rw [← Array.getElem?_toList] at h9; rw [addr_add0]; exact h9.trans hj) (by simp [Value.oneCell']) HP8.out.2.1 HP8.out.2.2 ?_; intro v9 w9 hown hg hv; obtain ⟨A9, c9, e9, -, -⟩ := own_sl hown; subst e9; have HR9 := Lib.hid hown; have HV9 := Lib.hid hv; have hTg := Tch.of_grown' (S := obI (.slice A1 n1 c1)) hg (fun k e => by rw [obI_some e]; simp); have HTg := Lib.hid hTg; have HT9 : Hid (Tch wr w9 ((xb + 1) :: obI (.slice A1 n1 c1))) := Lib.hid ((HT8.out.mono (fun s hs => by rw [List.mem_singleton.1 hs]; exact List.mem_cons_self ..)).trans (hTg.mono (fun s hs => List.mem_cons_of_mem _ hs))); have HP9 := Lib.hid (HT9.out.blk hB'.out.pc (by have h1 := HL.out; have h2 := hB'.out.fp.2.1; simp only [List.mem_cons, not_or]; exact ⟨by omega, h2⟩)); have k0 := (HP9.out.cell 0).trans (show _ = some (Value.slice A1 n1 c1) from rfl); have k9 := HP9.out.frozen 0; clear hown hg hv hTg)))
        have hne : slotR d (rs.map rtN) i ≠ [] := by
          rw [← slotI_map]
          intro e
          have h1 := HRd.out.len
          have h2 : (slotI d rs i).length = 0 := by have h3 := congrArg List.length e; simpa using h3
          omega
        have hstN := storeN_node (p := ⟨d, nx, rs.map rtN⟩) (P := P.map ptP) (LV := LV) (i := i) hne
        have hlt64 := (storeN_lt ⟨d, nx, rs.map rtN⟩ (P.map ptP) LV hi).1
        obtain ⟨p', hp'⟩ : ∃ p' : PrI, p' = (d + 1, sv, .slice As ns cs', slotI d rs i) := ⟨_, rfl⟩
        have hpc : prC p' = [.int .i64 ((d : Int) + 1), .int .i64 sv, .slice As ns cs'] := by rw [hp']; rfl
        have hptp : ptP p' = slotP ⟨d, nx, rs.map rtN⟩ i := by rw [hp', ← HSv.out]; exact ptP_slot (d, nx, .slice A n c, rs) i _
        have hpo : PrOk w9 g p' := by
          rw [hp']
          refine ⟨⟨As, ns, cs', rfl, ?_, HRd.out.tch HT9.out hB'.out.gl ?_⟩, fun r hr => HRs.out.2 r (List.mem_filter.1 hr).1⟩
          · rw [← HRd.out.len]; exact Nat.le_trans (List.length_filter_le _ _) HRs.out.1
          · have h1 := HL.out
            simp only [List.mem_cons, not_or]
            exact ⟨by omega, hB'.out.fg.1⟩
        have hx1 : xb + 1 ≠ pb ∧ xb + 1 ≠ tb ∧ xb + 1 ≠ g ∧ xb + 1 ∉ obI (.slice AN nN cN) ∧ xb + 1 ∉ obI (.slice A2 n2 c2) := by
          have h1 := HL.out
          exact ⟨by omega, by omega, by omega, fun k => by have := h1.2.2.2.2.1 _ k; omega, fun k => (hDj.out _ (.inr k)).1 rfl⟩
        have hnew : ∀ s ∈ obI (.slice A9 (n1 + 1) c9), s ∈ obI (.slice A1 n1 c1) ∨ wr.heap.size ≤ s := fun s hs => by
          rcases HV9.out with h1 | h1
          · left; rw [obI_same h1] at hs; exact hs
          · right; rw [obI_some h1] at hs; rw [List.mem_singleton.1 hs]; exact HT8.out.size
        have hstep := BuI.part (x := xb + 1) hB'.out p' (by rw [hpc]; exact HR9.out) HT9.out (fun s hs => by rcases List.mem_cons.1 hs with h1 | h1; exact .inr h1; exact .inl h1) hx1 hnew hpo
        have hN9 : Blk w9 (xb + 1) 192 #[.int .u64 ((storeN ⟨d, nx, rs.map rtN⟩ (P.map ptP) LV (i + 1)).nm : Int), .int .u64 ((storeN ⟨d, nx, rs.map rtN⟩ (P.map ptP) LV (i + 1)).lm : Int), .int .i64 (nP : Int), .int .i64 (nL : Int)] := by
          have h1 := HTg.out.blk ((HW7.out ▸ HN6.out.set_ 0 (.int .u64 (bits .or .u64 (nm : Int) (IntKind.u64.wrap (2 ^ i)))) : Blk W7 (xb + 1) 192 _).alloc (.cells #[.int .i64 ((d : Int) + 1), .int .i64 sv, .slice As ns cs'] 218)) (fun k => (hDj.out _ (.inl k)).1 rfl)
          rw [hstN]
          rw [HNm.out] at hlt64 ⊢
          rw [or_slot hlt64 hin] at h1
          exact h1
        have HS9 := Lib.hid (And.intro hstep hN9)
        have HE9 := Lib.hid (And.intro hstN (And.intro hptp hnew))
        clear hne hstN hlt64 hpc hptp hpo hx1 hnew hstep hN9
        go_wp2
        go_roundw
        case rel =>
          have hsz9 := HS9.out.1.2.size
          refine ⟨i + 1, A9, A2, n1 + 1, c9, n2, c2, P' ++ [p'], by go_num, by omega, Lib.hid ?_, Lib.hid ?_, Lib.hid ?_, Lib.hid ?_, Lib.hid ?_, Lib.hid ⟨?_, ?_, ?_⟩, Lib.hid fun s hs => ?_, Lib.hid ?_⟩
          · rw [HE9.out.1, List.map_append, hP'.out, List.map_cons, List.map_nil, HE9.out.2.1]
          · rw [HE9.out.1]; exact HS9.out.1.1
          · exact HS9.out.2.far (by have := HL.out; simp; omega) _
          · refine HS9.out.1.2.blk hC'.out ?_
            have h1 := HL.out
            simp only [List.mem_cons, not_or]
            exact ⟨by omega, by omega, fun k => (hDj.out _ (.inl k)).2 rfl⟩
          · refine hPt.out.tch HS9.out.1.2 hB'.out.gl ?_
            have h1 := HL.out
            simp only [List.mem_cons, not_or]
            exact ⟨fun e => hB'.out.fp.1 e.symm, by omega, hB'.out.fg.1⟩
          · have := hSz.out; omega
          · have := hSz.out; omega
          · have := hSz.out; omega
          · have h1 := HL.out
            have h2 := hSz.out
            rcases hs with k | k
            · rcases HE9.out.2.2 s k with k2 | k2
              · exact hDj.out s (.inl k2)
              · omega
            · exact hDj.out s (.inr k)
          · refine hBw.out.trans (HS9.out.1.2.below (by have := hBw.out.size; have := HX.out; omega) fun s hs => ?_)
            have h1 := HL.out
            have h2 := HX.out
            have h3 := HPB.out
            rcases List.mem_cons.1 hs with h | h
            · omega
            · rcases List.mem_cons.1 h with h | h
              · omega
              · exact (own_geI hB'.out.pr s h).1
        case measure => simp [intOf]; omega
      · have d1 : decide (0 < ns) = false := decide_eq_false hnd
        have heq : slotR d (rs.map rtN) i = [] := by
          rw [← slotI_map]
          have h1 := HRd.out.len
          have h2 : slotI d rs i = [] := List.eq_nil_of_length_eq_zero (by omega)
          rw [h2]; rfl
        have HEq := Lib.hid heq
        go_wp2_with (go_at_call 155; (with_reducible refine Calls.mono (HIs.out _) ?_); rintro e w5 ⟨rfl, hT5⟩; have HT5 : Hid (Tch wr w5 []) := Lib.hid (HAl.out.trans hT5); have HS5 := Lib.hid (hT5.blk HBs.out (by simp)); have HN5 := Lib.hid (HT5.out.blk hN'.out (by simp)); have f1 := (HN5.out.cell 1).trans (show _ = some (Value.int .u64 _) from rfl); have t1 := ((HT5.out.blk hB'.out.tc (by simp)).cell 1).trans (show _ = some (Value.slice A2 n2 c2) from rfl); have s1 := (HS5.out.cell 1).trans (show _ = some (Value.int .i64 sv) from rfl); clear hT5)
        have hok := storeN_ok ⟨d, nx, rs.map rtN⟩ (P.map ptP) LV i
        have hll := hok.ll
        have hlb := hok.lb
        obtain ⟨lm, hlm⟩ : ∃ z : Nat, (storeN ⟨d, nx, rs.map rtN⟩ (P.map ptP) LV i).lm = z := ⟨_, rfl⟩
        rw [hlm] at f1 hll hlb
        have HLm := Lib.hid hlm
        have hways : lm = 0 ∨ (lm ≠ 0 ∧ ∃ gl z0 m, A2 = some ⟨gl, 0, none⟩ ∧ m + 1 = n2 ∧ w5.cell? ⟨gl, m, none⟩ = some (.int .i64 z0) ∧ (storeN ⟨d, nx, rs.map rtN⟩ (P.map ptP) LV i).LV[(storeN ⟨d, nx, rs.map rtN⟩ (P.map ptP) LV i).LV.length - 1]? = some z0) := by
          by_cases h0 : lm = 0
          · exact .inl h0
          · right
            have h5 := cntN_pos hlb h0
            have h6 := hB'.out.ll
            obtain ⟨z0, hz0⟩ : ∃ z0, (storeN ⟨d, nx, rs.map rtN⟩ (P.map ptP) LV i).LV[(storeN ⟨d, nx, rs.map rtN⟩ (P.map ptP) LV i).LV.length - 1]? = some z0 := ⟨_, List.getElem?_eq_getElem (by omega)⟩
            have h7 := own_tch hB'.out.lr HT5.out (fun s hs => by simp)
            obtain ⟨gl, rfl⟩ := slice_some h7 (by omega)
            have h8 := own_cellN h7 (j := n2 - 1) (u := .int .i64 z0) (by
              have h9 := flatk_at (f := lvC) (n := 1) (fun _ => rfl) hz0 (k := 0) (by decide)
              rw [h6, Nat.mul_one, Nat.add_zero] at h9
              exact h9)
            exact ⟨h0, gl, z0, n2 - 1, rfl, by omega, h8, hz0⟩
        have hlt64 := (storeN_lt ⟨d, nx, rs.map rtN⟩ (P.map ptP) LV hi).2
        rw [hlm] at hlt64
        have HLt := Lib.hid hlt64
        clear hok hll hlb hlm heq c0 c1' c2' hlt64
        have hcase : (lm = 0 ∧ ((storeN ⟨d, nx, rs.map rtN⟩ (P.map ptP) LV i).lm = 0 ∨ (storeN ⟨d, nx, rs.map rtN⟩ (P.map ptP) LV i).LV[(storeN ⟨d, nx, rs.map rtN⟩ (P.map ptP) LV i).LV.length - 1]? ≠ some (slotN d (rs.map rtN) nx i))) ∨
            (lm ≠ 0 ∧ ∃ gl z0 m, A2 = some ⟨gl, 0, none⟩ ∧ m + 1 = n2 ∧ w5.cell? ⟨gl, m, none⟩ = some (.int .i64 z0) ∧ ((¬ sv = z0 ∧ ((storeN ⟨d, nx, rs.map rtN⟩ (P.map ptP) LV i).lm = 0 ∨ (storeN ⟨d, nx, rs.map rtN⟩ (P.map ptP) LV i).LV[(storeN ⟨d, nx, rs.map rtN⟩ (P.map ptP) LV i).LV.length - 1]? ≠ some (slotN d (rs.map rtN) nx i))) ∨
              (z0 = sv ∧ ¬ ((storeN ⟨d, nx, rs.map rtN⟩ (P.map ptP) LV i).lm = 0 ∨ (storeN ⟨d, nx, rs.map rtN⟩ (P.map ptP) LV i).LV[(storeN ⟨d, nx, rs.map rtN⟩ (P.map ptP) LV i).LV.length - 1]? ≠ some (slotN d (rs.map rtN) nx i))))) := by
          rcases hways with h0 | ⟨h0, gl, z0, m, h1, h2, h3, h4⟩
          · exact .inl ⟨h0, .inl (by rw [HLm.out]; exact h0)⟩
          · refine .inr ⟨h0, gl, z0, m, h1, h2, h3, ?_⟩
            rw [h4, HSv.out, HLm.out]
            by_cases h5 : sv = z0
            · right; exact ⟨h5.symm, fun k => by rcases k with k | k; exact h0 k; exact k (by rw [h5])⟩
            · left; exact ⟨h5, .inr (fun k => h5 (by injection k with k; exact k.symm))⟩
        clear hways
        rcases hcase with ⟨h0, hc⟩ | ⟨h0, gl, z0, m, hA2, hm, hcell, ⟨hz, hc⟩ | ⟨hz, hc⟩⟩
        · have HC := Lib.hid hc
          have hl0 : ((lm : Int) == 0) = true := by rw [h0]; rfl
          have hld : decide ((lm : Int) = 0) = true := by rw [h0]; rfl
          clear hc h0
          go_wp2_with fail
          go_quiet (fail)
          obtain ⟨W0, hW0⟩ : ∃ W, w5.drewN nq = W := ⟨_, rfl⟩
          have HT0 : Hid (Tch wr W0 []) := Lib.hid (hW0 ▸ HT5.out.drewN nq)
          have HS0 : Hid (Blk W0 wr.heap.size 218 #[.int .i64 ((d : Int) + 1), .int .i64 sv, .slice As ns cs']) := Lib.hid (hW0 ▸ (Tch.refl w5 []).drewN nq |>.blk HS5.out (by simp))
          rw [hW0]
          clear hW0 f1 t1 s1
          have HN0 := Lib.hid (HT0.out.blk hN'.out (by simp))
          have f1 := (HN0.out.cell 1).trans (show _ = some (Value.int .u64 _) from rfl)
          rw [HLm.out] at f1
          have f9 := HN0.out.frozen 1
          go_wp2
          go_still_tail 6, (by kernel_rfl)
          change wpList _ _ _ _ _ W0.drew
          obtain ⟨w6, hw6⟩ : ∃ W, W0.drew = W := ⟨_, rfl⟩
          have HT6 : Hid (Tch wr w6 []) := Lib.hid (hw6 ▸ HT0.out.drew)
          have HS6 : Hid (Blk w6 wr.heap.size 218 #[.int .i64 ((d : Int) + 1), .int .i64 sv, .slice As ns cs']) := Lib.hid (hw6 ▸ (Tch.refl W0 []).drew.blk HS0.out (by simp))
          rw [hw6]
          clear hw6 f1 f9
          have HN6 := Lib.hid (HT6.out.blk hN'.out (by simp))
          have f9 := HN6.out.frozen 1
          have f1 := (HN6.out.cell 1).trans (show _ = some (Value.int .u64 _) from rfl)
          rw [HLm.out] at f1
          have HT7 : Hid (Tch w6 (w6.setCell ⟨xb + 1, 1, none⟩ (.int .u64 (bits .or .u64 (lm : Int) (IntKind.u64.wrap (2 ^ i))))) [xb + 1]) := Lib.hid ((Tch.refl w6 [xb + 1]).set_ (by simp) _)
          have g0 := ((HT7.out.blk (HT6.out.blk hB'.out.tc (by simp)) (by have := HL.out; simp; omega)).cell 1).trans (show _ = some (Value.slice A2 n2 c2) from rfl)
          have hs7 := HT7.out.blk HS6.out (by have := HL.out; have := hSz.out; simp; omega)
          have s1 := (hs7.cell 1).trans (show _ = some (Value.int .i64 sv) from rfl)
          clear hs7
          obtain ⟨W7, hW7⟩ : ∃ W, w6.setCell ⟨xb + 1, 1, none⟩ (.int .u64 (bits .or .u64 (lm : Int) (IntKind.u64.wrap (2 ^ i)))) = W := ⟨_, rfl⟩
          have HW7 := Lib.hid hW7
          rw [hW7] at HT7
          have HT8 : Hid (Tch wr (W7.alloc (.cells #[.int .i64 sv] 3)) [xb + 1]) := Lib.hid (((HT6.out.mono (by simp)).trans HT7.out).alloc _)
          have HR8 := Lib.hid (own_tch hB'.out.lr HT8.out (fun s hs => by have := (hDj.out s (.inr hs)).1; simpa using this))
          have HC8 : Hid (Blk (W7.alloc (.cells #[.int .i64 sv] 3)) W7.heap.size 3 #[.int .i64 sv]) := Lib.hid (Blk.new W7 _ _)
          have HP8 : Hid (n2 ≤ 1000000 ∧ base ≤ (W7.alloc (.cells #[.int .i64 sv] 3)).heap.size) := Lib.hid ⟨by have := hSz.out; have := HN.out; omega, by have := HT8.out.size; have := HL.out; have := HX.out; have := hSz.out; omega⟩
          have h7s : W7.heap.size = w6.heap.size := by rw [← hW7]; simp
          rw [h7s] at HC8
          rw [hW7] at g0 s1
          clear hW7
          go_wp2_with (first
            | (rw [HW7.out])
            | (at_builtin; (refine wpList_apc 147 3 (.int .i64 0) 1 8 Tryz.underlying147 infoIt rfl (by decide) (by decide) _ rfl (.tmp 59) (.tmp 62) rfl base (.slice A2 n2 c2) n2 ((storeN ⟨d, nx, rs.map rtN⟩ (P.map ptP) LV i).LV.flatMap lvC) rfl HR8.out ⟨w6.heap.size, 0, none⟩ 1 [.int .i64 sv] rfl rfl (fun j u hj => by have h9 := HC8.out.cell j; rw [← Array.getElem?_toList] at h9; rw [addr_add0]; exact h9.trans hj) (by simp [Value.oneCell']) HP8.out.1 HP8.out.2 ?_; intro v9 w9 hown hg hv; obtain ⟨A9, c9, e9, -, -⟩ := own_sl hown; subst e9; have HR9 := Lib.hid hown; have HV9 := Lib.hid hv; have hTg := Tch.of_grown' (S := obI (.slice A2 n2 c2)) hg (fun k e => by rw [obI_some e]; simp); have HTg := Lib.hid hTg; have HT9 : Hid (Tch wr w9 ((xb + 1) :: obI (.slice A2 n2 c2))) := Lib.hid ((HT8.out.mono (fun s hs => by rw [List.mem_singleton.1 hs]; exact List.mem_cons_self ..)).trans (hTg.mono (fun s hs => List.mem_cons_of_mem _ hs))); have HP9 := Lib.hid (HT9.out.blk hB'.out.tc (by have h1 := HL.out; have h2 := hB'.out.ft.2.2.2; simp only [List.mem_cons, not_or]; exact ⟨by omega, h2⟩)); have k0 := (HP9.out.cell 1).trans (show _ = some (Value.slice A2 n2 c2) from rfl); have k9 := HP9.out.frozen 1; clear hown hg hv hTg)))
          have hstN := storeN_leaf (p := ⟨d, nx, rs.map rtN⟩) (P := P.map ptP) (LV := LV) (i := i) HEq.out HC.out
          have hx1 : xb + 1 ≠ pb ∧ xb + 1 ≠ tb ∧ xb + 1 ≠ g ∧ xb + 1 ∉ obI (.slice A1 n1 c1) ∧ xb + 1 ∉ obI (.slice AN nN cN) := by
            have h1 := HL.out
            exact ⟨by omega, by omega, by omega, fun k => (hDj.out _ (.inl k)).1 rfl, fun k => by have := h1.2.2.2.2.1 _ k; omega⟩
          have hnew : ∀ s ∈ obI (.slice A9 (n2 + 1) c9), s ∈ obI (.slice A2 n2 c2) ∨ wr.heap.size ≤ s := fun s hs => by
            rcases HV9.out with h1 | h1
            · left; rw [obI_same h1] at hs; exact hs
            · right; rw [obI_some h1] at hs; rw [List.mem_singleton.1 hs]; exact HT8.out.size
          have hstep := BuI.leaf (x := xb + 1) hB'.out sv HR9.out HT9.out (fun s hs => by rcases List.mem_cons.1 hs with h1 | h1; exact .inr h1; exact .inl h1) hx1 hnew
          have hN9 : Blk w9 (xb + 1) 192 #[.int .u64 ((storeN ⟨d, nx, rs.map rtN⟩ (P.map ptP) LV (i + 1)).nm : Int), .int .u64 ((storeN ⟨d, nx, rs.map rtN⟩ (P.map ptP) LV (i + 1)).lm : Int), .int .i64 (nP : Int), .int .i64 (nL : Int)] := by
            have h1 := HTg.out.blk ((HW7.out ▸ HN6.out.set_ 1 (.int .u64 (bits .or .u64 (lm : Int) (IntKind.u64.wrap (2 ^ i)))) : Blk W7 (xb + 1) 192 _).alloc (.cells #[.int .i64 sv] 3)) (fun k => (hDj.out _ (.inr k)).1 rfl)
            rw [hstN]
            rw [HLm.out]
            rw [or_slot HLt.out hin] at h1
            exact h1
          have HS9 := Lib.hid (And.intro hstep hN9)
          rw [HSv.out] at hstN
          have HE9 := Lib.hid (And.intro hstN hnew)
          clear hstN hx1 hnew hstep hN9
          go_wp2
          go_roundw
          case rel =>
            have hsz9 := HS9.out.1.2.size
            refine ⟨i + 1, A1, A9, n1, c1, n2 + 1, c9, P', by go_num, by omega, Lib.hid ?_, Lib.hid ?_, Lib.hid ?_, Lib.hid ?_, Lib.hid ?_, Lib.hid ⟨?_, ?_, ?_⟩, Lib.hid fun s hs => ?_, Lib.hid ?_⟩
            · rw [HE9.out.1]; exact hP'.out
            · rw [HE9.out.1]; exact HS9.out.1.1
            · exact HS9.out.2.far (by have := HL.out; simp; omega) _
            · refine HS9.out.1.2.blk hC'.out ?_
              have h1 := HL.out
              simp only [List.mem_cons, not_or]
              exact ⟨by omega, by omega, fun k => (hDj.out _ (.inr k)).2 rfl⟩
            · refine hPt.out.tch HS9.out.1.2 hB'.out.gl ?_
              have h1 := HL.out
              simp only [List.mem_cons, not_or]
              exact ⟨fun e => hB'.out.ft.1 e.symm, by omega, hB'.out.fg.2.2⟩
            · have := hSz.out; omega
            · have := hSz.out; omega
            · have := hSz.out; omega
            · have h1 := HL.out
              have h2 := hSz.out
              rcases hs with k | k
              · exact hDj.out s (.inl k)
              · rcases HE9.out.2 s k with k2 | k2
                · exact hDj.out s (.inr k2)
                · omega
            · refine hBw.out.trans (HS9.out.1.2.below (by have := hBw.out.size; have := HX.out; omega) fun s hs => ?_)
              have h1 := HL.out
              have h2 := HX.out
              have h3 := HPB.out
              rcases List.mem_cons.1 hs with h | h
              · omega
              · rcases List.mem_cons.1 h with h | h
                · omega
                · exact (own_geI hB'.out.lr s h).1
          case measure => simp [intOf]; omega
        · have HC := Lib.hid hc
          have hl0 : ((lm : Int) == 0) = false := by simpa using h0
          have hld : decide ((lm : Int) = 0) = false := by simpa using h0
          have hl1 : ¬ (lm : Int) = 0 := by omega
          have m1 : IntKind.i64.wrap ((n2 : Int) - 1) = (m : Int) := by rw [IntKind.wrap_i64]; have := hSz.out; have := HN.out; omega
          have m2 : (m : Int) < n2 := by omega
          have m0 : (0 : Int) ≤ m := by omega
          subst hA2
          have hz1 : (sv == z0) = false := by simpa using hz
          have hz2 : (sv != z0) = true := by simpa using hz
          clear hc h0 hm hz
          go_wp2_with fail
          go_quiet (fail)
          clear hcell
          obtain ⟨W0, hW0⟩ : ∃ W, w5.drewN nq = W := ⟨_, rfl⟩
          have HT0 : Hid (Tch wr W0 []) := Lib.hid (hW0 ▸ HT5.out.drewN nq)
          have HS0 : Hid (Blk W0 wr.heap.size 218 #[.int .i64 ((d : Int) + 1), .int .i64 sv, .slice As ns cs']) := Lib.hid (hW0 ▸ (Tch.refl w5 []).drewN nq |>.blk HS5.out (by simp))
          rw [hW0]
          clear hW0 f1 t1 s1
          have HN0 := Lib.hid (HT0.out.blk hN'.out (by simp))
          have f1 := (HN0.out.cell 1).trans (show _ = some (Value.int .u64 _) from rfl)
          rw [HLm.out] at f1
          have f9 := HN0.out.frozen 1
          go_wp2
          go_still_tail 6, (by kernel_rfl)
          change wpList _ _ _ _ _ W0.drew
          obtain ⟨w6, hw6⟩ : ∃ W, W0.drew = W := ⟨_, rfl⟩
          have HT6 : Hid (Tch wr w6 []) := Lib.hid (hw6 ▸ HT0.out.drew)
          have HS6 : Hid (Blk w6 wr.heap.size 218 #[.int .i64 ((d : Int) + 1), .int .i64 sv, .slice As ns cs']) := Lib.hid (hw6 ▸ (Tch.refl W0 []).drew.blk HS0.out (by simp))
          rw [hw6]
          clear hw6 f1 f9
          have HN6 := Lib.hid (HT6.out.blk hN'.out (by simp))
          have f9 := HN6.out.frozen 1
          have f1 := (HN6.out.cell 1).trans (show _ = some (Value.int .u64 _) from rfl)
          rw [HLm.out] at f1
          have HT7 : Hid (Tch w6 (w6.setCell ⟨xb + 1, 1, none⟩ (.int .u64 (bits .or .u64 (lm : Int) (IntKind.u64.wrap (2 ^ i))))) [xb + 1]) := Lib.hid ((Tch.refl w6 [xb + 1]).set_ (by simp) _)
          have g0 := ((HT7.out.blk (HT6.out.blk hB'.out.tc (by simp)) (by have := HL.out; simp; omega)).cell 1).trans (show _ = some (Value.slice (some ⟨gl, 0, none⟩) n2 c2) from rfl)
          have hs7 := HT7.out.blk HS6.out (by have := HL.out; have := hSz.out; simp; omega)
          have s1 := (hs7.cell 1).trans (show _ = some (Value.int .i64 sv) from rfl)
          clear hs7
          obtain ⟨W7, hW7⟩ : ∃ W, w6.setCell ⟨xb + 1, 1, none⟩ (.int .u64 (bits .or .u64 (lm : Int) (IntKind.u64.wrap (2 ^ i)))) = W := ⟨_, rfl⟩
          have HW7 := Lib.hid hW7
          rw [hW7] at HT7
          have HT8 : Hid (Tch wr (W7.alloc (.cells #[.int .i64 sv] 3)) [xb + 1]) := Lib.hid (((HT6.out.mono (by simp)).trans HT7.out).alloc _)
          have HR8 := Lib.hid (own_tch hB'.out.lr HT8.out (fun s hs => by have := (hDj.out s (.inr hs)).1; simpa using this))
          have HC8 : Hid (Blk (W7.alloc (.cells #[.int .i64 sv] 3)) W7.heap.size 3 #[.int .i64 sv]) := Lib.hid (Blk.new W7 _ _)
          have HP8 : Hid (n2 ≤ 1000000 ∧ base ≤ (W7.alloc (.cells #[.int .i64 sv] 3)).heap.size) := Lib.hid ⟨by have := hSz.out; have := HN.out; omega, by have := HT8.out.size; have := HL.out; have := HX.out; have := hSz.out; omega⟩
          have h7s : W7.heap.size = w6.heap.size := by rw [← hW7]; simp
          rw [h7s] at HC8
          rw [hW7] at g0 s1
          clear hW7
          go_wp2_with (first
            | (rw [HW7.out])
            | (at_builtin; (refine wpList_apc 147 3 (.int .i64 0) 1 8 Tryz.underlying147 infoIt rfl (by decide) (by decide) _ rfl (.tmp 59) (.tmp 62) rfl base (.slice (some ⟨gl, 0, none⟩) n2 c2) n2 ((storeN ⟨d, nx, rs.map rtN⟩ (P.map ptP) LV i).LV.flatMap lvC) rfl HR8.out ⟨w6.heap.size, 0, none⟩ 1 [.int .i64 sv] rfl rfl (fun j u hj => by have h9 := HC8.out.cell j; rw [← Array.getElem?_toList] at h9; rw [addr_add0]; exact h9.trans hj) (by simp [Value.oneCell']) HP8.out.1 HP8.out.2 ?_; intro v9 w9 hown hg hv; obtain ⟨A9, c9, e9, -, -⟩ := own_sl hown; subst e9; have HR9 := Lib.hid hown; have HV9 := Lib.hid hv; have hTg := Tch.of_grown' (S := obI (.slice (some ⟨gl, 0, none⟩) n2 c2)) hg (fun k e => by rw [obI_some e]; simp); have HTg := Lib.hid hTg; have HT9 : Hid (Tch wr w9 ((xb + 1) :: obI (.slice (some ⟨gl, 0, none⟩) n2 c2))) := Lib.hid ((HT8.out.mono (fun s hs => by rw [List.mem_singleton.1 hs]; exact List.mem_cons_self ..)).trans (hTg.mono (fun s hs => List.mem_cons_of_mem _ hs))); have HP9 := Lib.hid (HT9.out.blk hB'.out.tc (by have h1 := HL.out; have h2 := hB'.out.ft.2.2.2; simp only [List.mem_cons, not_or]; exact ⟨by omega, h2⟩)); have k0 := (HP9.out.cell 1).trans (show _ = some (Value.slice (some ⟨gl, 0, none⟩) n2 c2) from rfl); have k9 := HP9.out.frozen 1; clear hown hg hv hTg)))
          have hstN := storeN_leaf (p := ⟨d, nx, rs.map rtN⟩) (P := P.map ptP) (LV := LV) (i := i) HEq.out HC.out
          have hx1 : xb + 1 ≠ pb ∧ xb + 1 ≠ tb ∧ xb + 1 ≠ g ∧ xb + 1 ∉ obI (.slice A1 n1 c1) ∧ xb + 1 ∉ obI (.slice AN nN cN) := by
            have h1 := HL.out
            exact ⟨by omega, by omega, by omega, fun k => (hDj.out _ (.inl k)).1 rfl, fun k => by have := h1.2.2.2.2.1 _ k; omega⟩
          have hnew : ∀ s ∈ obI (.slice A9 (n2 + 1) c9), s ∈ obI (.slice (some ⟨gl, 0, none⟩) n2 c2) ∨ wr.heap.size ≤ s := fun s hs => by
            rcases HV9.out with h1 | h1
            · left; rw [obI_same h1] at hs; exact hs
            · right; rw [obI_some h1] at hs; rw [List.mem_singleton.1 hs]; exact HT8.out.size
          have hstep := BuI.leaf (x := xb + 1) hB'.out sv HR9.out HT9.out (fun s hs => by rcases List.mem_cons.1 hs with h1 | h1; exact .inr h1; exact .inl h1) hx1 hnew
          have hN9 : Blk w9 (xb + 1) 192 #[.int .u64 ((storeN ⟨d, nx, rs.map rtN⟩ (P.map ptP) LV (i + 1)).nm : Int), .int .u64 ((storeN ⟨d, nx, rs.map rtN⟩ (P.map ptP) LV (i + 1)).lm : Int), .int .i64 (nP : Int), .int .i64 (nL : Int)] := by
            have h1 := HTg.out.blk ((HW7.out ▸ HN6.out.set_ 1 (.int .u64 (bits .or .u64 (lm : Int) (IntKind.u64.wrap (2 ^ i)))) : Blk W7 (xb + 1) 192 _).alloc (.cells #[.int .i64 sv] 3)) (fun k => (hDj.out _ (.inr k)).1 rfl)
            rw [hstN]
            rw [HLm.out]
            rw [or_slot HLt.out hin] at h1
            exact h1
          have HS9 := Lib.hid (And.intro hstep hN9)
          rw [HSv.out] at hstN
          have HE9 := Lib.hid (And.intro hstN hnew)
          clear hstN hx1 hnew hstep hN9
          go_wp2
          go_roundw
          case rel =>
            have hsz9 := HS9.out.1.2.size
            refine ⟨i + 1, A1, A9, n1, c1, n2 + 1, c9, P', by go_num, by omega, Lib.hid ?_, Lib.hid ?_, Lib.hid ?_, Lib.hid ?_, Lib.hid ?_, Lib.hid ⟨?_, ?_, ?_⟩, Lib.hid fun s hs => ?_, Lib.hid ?_⟩
            · rw [HE9.out.1]; exact hP'.out
            · rw [HE9.out.1]; exact HS9.out.1.1
            · exact HS9.out.2.far (by have := HL.out; simp; omega) _
            · refine HS9.out.1.2.blk hC'.out ?_
              have h1 := HL.out
              simp only [List.mem_cons, not_or]
              exact ⟨by omega, by omega, fun k => (hDj.out _ (.inr k)).2 rfl⟩
            · refine hPt.out.tch HS9.out.1.2 hB'.out.gl ?_
              have h1 := HL.out
              simp only [List.mem_cons, not_or]
              exact ⟨fun e => hB'.out.ft.1 e.symm, by omega, hB'.out.fg.2.2⟩
            · have := hSz.out; omega
            · have := hSz.out; omega
            · have := hSz.out; omega
            · have h1 := HL.out
              have h2 := hSz.out
              rcases hs with k | k
              · exact hDj.out s (.inl k)
              · rcases HE9.out.2 s k with k2 | k2
                · exact hDj.out s (.inr k2)
                · omega
            · refine hBw.out.trans (HS9.out.1.2.below (by have := hBw.out.size; have := HX.out; omega) fun s hs => ?_)
              have h1 := HL.out
              have h2 := HX.out
              have h3 := HPB.out
              rcases List.mem_cons.1 hs with h | h
              · omega
              · rcases List.mem_cons.1 h with h | h
                · omega
                · exact (own_geI hB'.out.lr s h).1
          case measure => simp [intOf]; omega
        · have HC := Lib.hid hc
          have hl0 : ((lm : Int) == 0) = false := by simpa using h0
          have hld : decide ((lm : Int) = 0) = false := by simpa using h0
          have hl1 : ¬ (lm : Int) = 0 := by omega
          have m1 : IntKind.i64.wrap ((n2 : Int) - 1) = (m : Int) := by rw [IntKind.wrap_i64]; have := hSz.out; have := HN.out; omega
          have m2 : (m : Int) < n2 := by omega
          have m0 : (0 : Int) ≤ m := by omega
          subst hA2
          subst hz
          have hstN := storeN_none (p := ⟨d, nx, rs.map rtN⟩) (P := P.map ptP) (LV := LV) (i := i) HEq.out HC.out
          have HE9 := Lib.hid hstN
          clear hc h0 hm hstN
          go_wp2_with fail
          go_quiet (fail)
          go_wp2
          have HTn : Hid (Tch wr (w5.drewN nq) []) := Lib.hid (HT5.out.drewN nq)
          go_roundw
          case rel =>
            have hsz9 := HTn.out.size
            refine ⟨i + 1, A1, some ⟨gl, 0, none⟩, n1, c1, n2, c2, P', by go_num, by omega, Lib.hid ?_, Lib.hid ?_, Lib.hid ?_, Lib.hid ?_, Lib.hid ?_, Lib.hid ⟨?_, ?_, ?_⟩, Lib.hid fun s hs => ?_, Lib.hid ?_⟩
            · rw [HE9.out]; exact hP'.out
            · rw [HE9.out]; exact hB'.out.tch0 HTn.out
            · rw [HE9.out]; exact HTn.out.blk hN'.out (by simp)
            · exact HTn.out.blk hC'.out (by simp)
            · exact hPt.out.tch HTn.out hB'.out.gl (by simp)
            · have := hSz.out; omega
            · have := hSz.out; omega
            · have := hSz.out; omega
            · exact hDj.out s hs
            · exact hBw.out.trans (HTn.out.below (by have := hBw.out.size; have := HX.out; omega) (fun s hs => by cases hs))
          case measure => simp [intOf]; omega
    · obtain rfl : 64 = i := by omega
      have hall := storeN_lt ⟨d, nx, rs.map rtN⟩ (P.map ptP) LV (Nat.le_refl 64)
      obtain ⟨SN, hSN⟩ : ∃ z, storeN ⟨d, nx, rs.map rtN⟩ (P.map ptP) LV 64 = z := ⟨_, rfl⟩
      rw [hSN] at hP' hB' hN' hall
      have HSN := Lib.hid hSN
      clear hSN hin hall
      have q0 := (hB'.out.tc.cell 0).trans (show _ = some (Value.slice AN nN cN) from rfl)
      have r0 := (hN'.out.cell 0).trans (show _ = some (Value.int .u64 _) from rfl)
      have r1 := (hN'.out.cell 1).trans (show _ = some (Value.int .u64 _) from rfl)
      have r2 := (hN'.out.cell 2).trans (show _ = some (Value.int .i64 _) from rfl)
      have r3 := (hN'.out.cell 3).trans (show _ = some (Value.int .i64 _) from rfl)
      obtain ⟨zn, hzn⟩ : ∃ z : NdN, z = ⟨nP, SN.nm, nL, SN.lm⟩ := ⟨_, rfl⟩
      have hndc : ndC zn = [.int .u64 (SN.nm : Int), .int .u64 (SN.lm : Int), .int .i64 (nP : Int), .int .i64 (nL : Int)] := by rw [hzn]; rfl
      have HT8 : Hid (Tch wr (wr.alloc (.cells #[.int .u64 (SN.nm : Int), .int .u64 (SN.lm : Int), .int .i64 (nP : Int), .int .i64 (nL : Int)] 192)) []) := Lib.hid ((Tch.refl wr []).alloc _)
      have HR8 := Lib.hid (own_tch hB'.out.nr HT8.out (fun s hs => by simp))
      have HC8 : Hid (Blk (wr.alloc (.cells #[.int .u64 (SN.nm : Int), .int .u64 (SN.lm : Int), .int .i64 (nP : Int), .int .i64 (nL : Int)] 192)) wr.heap.size 192 #[.int .u64 (SN.nm : Int), .int .u64 (SN.lm : Int), .int .i64 (nP : Int), .int .i64 (nL : Int)]) := Lib.hid (Blk.new wr _ _)
      have HP8 : Hid (nN ≤ 1000000 ∧ base ≤ (wr.alloc (.cells #[.int .u64 (SN.nm : Int), .int .u64 (SN.lm : Int), .int .i64 (nP : Int), .int .i64 (nL : Int)] 192)).heap.size) := Lib.hid ⟨by have := HN.out; omega, by have := HT8.out.size; have := HL.out; have := HX.out; have := hSz.out; omega⟩
      have HNc := Lib.hid (And.intro hzn hndc)
      clear hzn hndc
      go_wp2_with (at_builtin; (refine wpList_apc 146 192 (.agg #[.int .u64 0, .int .u64 0, .int .i64 0, .int .i64 0]) 4 32 Tryz.underlying146 infoNd rfl (by decide) (by decide) _ rfl (.tmp 67) (.tmp 69) rfl base (.slice AN nN cN) nN (N.flatMap ndC) rfl HR8.out ⟨wr.heap.size, 0, none⟩ 1 [.int .u64 (SN.nm : Int), .int .u64 (SN.lm : Int), .int .i64 (nP : Int), .int .i64 (nL : Int)] rfl rfl (fun j u hj => by have h9 := HC8.out.cell j; rw [← Array.getElem?_toList] at h9; rw [addr_add0]; exact h9.trans hj) (by simp [Value.oneCell']) HP8.out.1 HP8.out.2 ?_; intro v9 w9 hown hg hv; obtain ⟨A9, c9, e9, -, -⟩ := own_sl hown; subst e9; have HR9 := Lib.hid hown; have HV9 := Lib.hid hv; have hTg := Tch.of_grown' (S := obI (.slice AN nN cN)) hg (fun k e => by rw [obI_some e]; simp); have HT9 : Hid (Tch wr w9 (obI (.slice AN nN cN))) := Lib.hid ((HT8.out.mono (fun s hs => by cases hs)).trans hTg); have HP9 := Lib.hid (HT9.out.blk hB'.out.tc hB'.out.ft.2.2.1); have k0 := (HP9.out.cell 0).trans (show _ = some (Value.slice AN nN cN) from rfl); have k9 := HP9.out.frozen 0; clear hown hg hv hTg))
      have hnew : ∀ s ∈ obI (.slice A9 (nN + 1) c9), s ∈ obI (.slice AN nN cN) ∨ wr.heap.size ≤ s := fun s hs => by
        rcases HV9.out with h1 | h1
        · left; rw [obI_same h1] at hs; exact hs
        · right; rw [obI_some h1] at hs; rw [List.mem_singleton.1 hs]; exact HT8.out.size
      have hx1 : xb + 1 ≠ pb ∧ xb + 1 ≠ tb ∧ xb + 1 ≠ g ∧ xb + 1 ∉ obI (.slice A1 n1 c1) ∧ xb + 1 ∉ obI (.slice A2 n2 c2) := by
        have h1 := HL.out
        exact ⟨by omega, by omega, by omega, fun k => (hDj.out _ (.inl k)).1 rfl, fun k => (hDj.out _ (.inr k)).1 rfl⟩
      have hstep := BuI.node (x := xb + 1) hB'.out zn (by rw [HNc.out.2]; exact HR9.out) HT9.out (fun s hs => .inl hs) hx1 hnew
      have HS9 := Lib.hid hstep
      clear hstep hnew hx1
      go_wp2
      refine bodyPost_end (v := .tuple #[]) (by simp [results, Tryz.results153, go_sem]) rfl ⟨rfl, A1, A9, A2, n1, c1, nN + 1, c9, n2, c2, P', ?_, ?_, ?_⟩
      · show _ = (storeN ⟨d, nx, rs.map rtN⟩ (P.map ptP) LV 64).P
        rw [HSN.out]; exact hP'.out
      · show BuI _ base g pb tb A1 A9 A2 n1 c1 (nN + 1) c9 n2 c2 (N ++ [⟨P.length, (storeN ⟨d, nx, rs.map rtN⟩ (P.map ptP) LV 64).nm, LV.length, (storeN ⟨d, nx, rs.map rtN⟩ (P.map ptP) LV 64).lm⟩]) P' (storeN ⟨d, nx, rs.map rtN⟩ (P.map ptP) LV 64).LV
        rw [HSN.out, HB.out.pl, HB.out.ll, ← HNc.out.1]
        exact HS9.out.1
      · refine hBw.out.trans (HS9.out.2.below (by have := hBw.out.size; have := HX.out; omega) fun s hs => ?_)
        rcases List.mem_cons.1 hs with h | h
        · have := HPB.out; omega
        · exact (own_geI hB'.out.nr s h).1
end Go.Proofs.YtgfkmgbcajdcdaaGreatDoor
