/-
  ether.Take of any text.
-/
import Derived.Test.YtnhlgonldffgoaaDoorELay
import Derived.Test.YtnhlgonldffgoaaDoorEMac
namespace Go.Proofs.YtnhlgonldffgoaaDoor
open Go.RowKit
set_option linter.unusedVariables false

theorem byt_extract (s : ByteArray) (a b : Nat) : byt (s.extract a b) = ((byt s).take b).drop a := by
  unfold byt
  rw [ByteArray.data_extract, Array.toList_extract, List.extract_eq_drop_take', List.map_drop, List.map_take]

theorem Blk.only {w w' : World} {g r : Nat} {t : TypeId} {cs : Array Value} (h : Blk w g t cs) (ho : Only w w' r) (hne : g ≠ r) : Blk w' g t cs := (ho.2.2.2.2 g hne).trans h
theorem tkV_short {s : ByteArray} (h : s.size < 14) : tkV s = .tuple #[noFrm, .int .i64 41] := by unfold tkV; rw [if_pos h]
theorem tkV_long {s : ByteArray} (h : 1514 < s.size) : tkV s = .tuple #[noFrm, .int .i64 42] := by unfold tkV; rw [if_neg (by omega), if_pos h]
theorem tkV_bad {s : ByteArray} (h : 14 ≤ s.size) (h2 : s.size ≤ 1514) (hk : nKd (byt s) < 1536) : tkV s = .tuple #[noFrm, .int .i64 40] := by unfold tkV; rw [if_neg (by omega), if_neg (by omega), if_pos hk]
theorem tkV_ok {s : ByteArray} (h : 14 ≤ s.size) (h2 : s.size ≤ 1514) (hk : ¬ nKd (byt s) < 1536) : tkV s = .tuple #[frm (nTo (byt s)) (nFr (byt s)) (nKd (byt s)) (strOfNums ((byt s).drop 14)), .int .i64 0] := by unfold tkV; rw [if_neg (by omega), if_neg (by omega), if_neg hk]

set_option maxRecDepth 100000 in
set_option maxHeartbeats 4000000 in
theorem take_any (s : ByteArray) (w : World) :
    Calls Tryd.prog 34 #[.string s] w fun e w' => e = .returned (tkV s) ∧ Below w.heap.size w w' := by
  by_cases h14 : s.size < 14
  · have HX := Lib.hid (tkV_short h14)
    have hi : (s.size : Int) < 14 := by omega
    clear h14
    go_enter Tryd.func34, Tryd.ntmps34
    go_wp2
    exact bodyPost_ret (v := .tuple #[noFrm, .int .i64 41]) (by simp [results, Tryd.results34, go_sem]) rfl ⟨by rw [HX.out], (Below.refl _ _).alloc (Nat.le_refl _) _⟩
  · by_cases h15 : 1514 < s.size
    · have HX := Lib.hid (tkV_long h15)
      have hi : ¬ (s.size : Int) < 14 := by omega
      have hi2 : (1514 : Int) < s.size := by omega
      clear h14 h15
      go_enter Tryd.func34, Tryd.ntmps34
      go_wp2
      exact bodyPost_ret (v := .tuple #[noFrm, .int .i64 42]) (by simp [results, Tryd.results34, go_sem]) rfl ⟨by rw [HX.out], (Below.refl _ _).alloc (Nat.le_refl _) _⟩
    · have hi : ¬ (s.size : Int) < 14 := by omega
      have hi2 : ¬ (1514 : Int) < s.size := by omega
      have hi3 : (14 : Int) ≤ s.size := by omega
      have H14 := Lib.hid h14
      have H15 := Lib.hid h15
      obtain ⟨E, hE⟩ : ∃ E, s.extract 0 14 = E := ⟨_, rfl⟩
      obtain ⟨T, hT⟩ : ∃ T, s.extract 14 s.size = T := ⟨_, rfl⟩
      have hE14 : E.size = 14 := by rw [← hE, ByteArray.size_extract]; omega
      have hT14 : T.size = s.size - 14 := by rw [← hT, ByteArray.size_extract]; omega
      have bE : byt E = (byt s).take 14 := by rw [← hE, byt_extract]; rfl
      have bT : byt T = (byt s).drop 14 := by rw [← hT, byt_extract, List.take_of_length_le (by rw [byt_len]; exact Nat.le_refl _)]
      have hcv := fun W => conv_bytes W E
      rw [hE14] at hcv
      have HRI := fun W => bytesWorld_ri W E
      have hlE : (byt E).length = 14 := by rw [byt_len]; exact hE14
      have n1 : numOf ((byt E).take 6) = nTo (byt s) := by rw [bE, List.take_take]; rfl
      have n2 : numOf (((byt E).drop 6).take 6) = nFr (byt s) := by rw [bE]; exact nAt_take (l := byt s) (a := 6) (k := 6) (m := 14) (by decide)
      have n3 : numOf (((byt E).drop 12).take 2) = nKd (byt s) := by rw [bE]; exact nAt_take (l := byt s) (a := 12) (k := 2) (m := 14) (by decide)
      have hbE := byt_by E
      have k0 := nKd_bd (l := byt s) (by rw [byt_len]; exact Nat.le_of_not_lt H14.out) (byt_by s)
      have t0 := nTo_bd (l := byt s) (by rw [byt_len]; exact Nat.le_of_not_lt H14.out) (byt_by s)
      have r0 := nFr_bd (l := byt s) (by rw [byt_len]; exact Nat.le_of_not_lt H14.out) (byt_by s)
      have HBT := Lib.hid bT
      have HT := Lib.hid hT14
      have HN1 := Lib.hid n1
      have HN2 := Lib.hid n2
      have HN3 := Lib.hid n3
      have HLE := Lib.hid hlE
      have HR := Lib.hid HRI
      have HBE := Lib.hid hbE
      clear h14 h15 bE bT HRI n1 n2 n3 hlE hbE hT14
      obtain ⟨U, hU⟩ : ∃ U, U = (w.alloc (.cells #[.int .u64 0, .int .u64 0, .int .i64 0, .string ⟨#[]⟩] 43)).alloc (.cells #[.int .u64 0, .int .u64 0, .int .i64 0, .string ⟨#[]⟩] 43) := ⟨_, rfl⟩
      have hUs : U.heap.size = w.heap.size + 2 := by rw [hU]; simp
      have U0 : Blk U w.heap.size 43 #[.int .u64 0, .int .u64 0, .int .i64 0, .string ⟨#[]⟩] := by rw [hU]; exact (Blk.new _ _ _).alloc _
      have U1 : Blk U (w.heap.size + 1) 43 #[.int .u64 0, .int .u64 0, .int .i64 0, .string ⟨#[]⟩] := by
        rw [hU]; have := Blk.new (w.alloc (.cells #[.int .u64 0, .int .u64 0, .int .i64 0, .string ⟨#[]⟩] 43)) 43 #[.int .u64 0, .int .u64 0, .int .i64 0, .string ⟨#[]⟩]
        rwa [World.size_alloc] at this
      have UL : Below w.heap.size w U := by rw [hU]; exact ((Below.refl _ w).alloc (Nat.le_refl _) _).alloc (by simp) _
      have HU := Lib.hid hU
      have HU0 := Lib.hid U0
      have HU1 := Lib.hid U1
      have HUL := Lib.hid UL
      have HUS := Lib.hid hUs
      clear hU U0 U1 UL hUs
      go_enter Tryd.func34, Tryd.ntmps34
      go_wp2_with fail
      rw [← HU.out]
      have HB := bytesWorld_below U E
      have HNW := Lib.hid (new_any _ _ _ 14 (grownCap U 14 0 5) (byt E) (by have := HR.out U; rwa [hE14] at this) (Nat.le_refl _) (by decide))
      rw [HUS.out] at HNW
      have UB0 := Lib.hid (HU0.out.below HB HU0.out.lt)
      have UB1 := Lib.hid (HU1.out.below HB HU1.out.lt)
      have LB := Lib.hid (HUL.out.trans (HB.mono HUL.out.size))
      have hbs := Lib.bytesWorld_size U 5 E
      rw [HUS.out] at hbs
      obtain ⟨W1, hW1⟩ : ∃ W1, W1 = Lib.bytesWorld U 5 E := ⟨_, rfl⟩
      rw [← hW1] at HNW UB0 UB1 LB hbs ⊢
      clear hW1 hcv HB
      refine Calls.mono HNW.out ?_
      rintro e w1 ⟨r, rfl, hrd, hb⟩
      obtain ⟨NT, hNT⟩ : ∃ x, nTo (byt s) = x := ⟨_, rfl⟩
      obtain ⟨NF, hNF⟩ : ∃ x, nFr (byt s) = x := ⟨_, rfl⟩
      obtain ⟨NK, hNK⟩ : ∃ x, nKd (byt s) = x := ⟨_, rfl⟩
      rw [hNT] at HN1 t0
      rw [hNF] at HN2 r0
      rw [hNK] at HN3 k0
      have HNT := Lib.hid hNT
      have HNF := Lib.hid hNF
      have HNK := Lib.hid hNK
      obtain ⟨k00, k01⟩ := k0
      obtain ⟨LL, hLL⟩ : ∃ x, W1.heap.size = x := ⟨_, rfl⟩
      obtain ⟨BB, hBB⟩ : ∃ x, w1.heap.size = x := ⟨_, rfl⟩
      rw [hLL, hBB] at hrd
      have hLr : w.heap.size + 3 ≤ r := by obtain ⟨A, n, c, -, -, -, -, -, q, -⟩ := hrd; omega
      have hL3 : LL = w.heap.size + 3 := by omega
      have hB3 : LL ≤ BB := by have := hb.size; omega
      have K0 := Lib.hid (UB0.out.below hb (by have := UB0.out.lt; omega))
      have K1 := Lib.hid (UB1.out.below hb (by have := UB1.out.lt; omega))
      have L1 := Lib.hid (LB.out.trans (hb.mono LB.out.size))
      have HM1 := Lib.hid (num_yes (k := 6) hrd (by decide) (by rw [HLE.out]; decide))
      rw [HN1.out] at HM1
      have HRL := Lib.hid (And.intro hLr (And.intro hL3 hB3))
      clear hNT hNF hNK hrd hb hbs hLL hBB hLr hL3 hB3 HNW UB0 UB1 LB
      go_wp2_with fail
      refine Calls.mono HM1.out ?_
      rintro e w2 ⟨rfl, hrd, ho⟩
      obtain ⟨q1, q2, q3⟩ := HRL.out
      have J0 := Lib.hid (K0.out.only ho (by omega))
      have J1 := Lib.hid (K1.out.only ho (by omega))
      have L2 := Lib.hid (L1.out.trans (ho.below (by omega)))
      obtain ⟨f0, f1, f2, f3⟩ := J1.out.c4
      have z0 := J1.out.frozen 0
      have M0 := Lib.hid (J0.out.far (p := ⟨w.heap.size + 1, 0, none⟩) (by simp) (.int .u64 NT))
      have M1 := Lib.hid (show Blk (w2.setCell ⟨w.heap.size + 1, 0, none⟩ (.int .u64 NT)) (w.heap.size + 1) 43 #[.int .u64 NT, .int .u64 0, .int .i64 0, .string ⟨#[]⟩] by simpa using J1.out.set_ 0 (.int .u64 NT))
      have R2 := hrd.keep (w' := w2.setCell ⟨w.heap.size + 1, 0, none⟩ (.int .u64 NT)) (fun b h1 h2 => Below.heap_setCell _ _ _ _ (show b ≠ w.heap.size + 1 by omega))
      have L3 := Lib.hid (L2.out.setCell (p := ⟨w.heap.size + 1, 0, none⟩) (by simp) (.int .u64 NT))
      have HM2 := Lib.hid (num_yes (k := 6) R2 (by decide) (by rw [List.length_drop, HLE.out]; decide))
      rw [HN2.out] at HM2
      clear hrd ho q1 q2 q3 R2
      go_wp2_with fail
      refine Calls.mono HM2.out ?_
      rintro e w3 ⟨rfl, hrd, ho⟩
      clear f0 f1 f2 f3 z0
      obtain ⟨q1, q2, q3⟩ := HRL.out
      have P0 := Lib.hid (M0.out.only ho (by omega))
      have P1 := Lib.hid (M1.out.only ho (by omega))
      have L4 := Lib.hid (L3.out.trans (ho.below (by omega)))
      obtain ⟨f0, f1, f2, f3⟩ := P1.out.c4
      have z0 := P1.out.frozen 1
      have Q0 := Lib.hid (P0.out.far (p := ⟨w.heap.size + 1, 1, none⟩) (by simp) (.int .u64 NF))
      have Q1 := Lib.hid (show Blk (w3.setCell ⟨w.heap.size + 1, 1, none⟩ (.int .u64 NF)) (w.heap.size + 1) 43 #[.int .u64 NT, .int .u64 NF, .int .i64 0, .string ⟨#[]⟩] by simpa using P1.out.set_ 1 (.int .u64 NF))
      have R2 := hrd.keep (w' := w3.setCell ⟨w.heap.size + 1, 1, none⟩ (.int .u64 NF)) (fun b h1 h2 => Below.heap_setCell _ _ _ _ (show b ≠ w.heap.size + 1 by omega))
      have L5 := Lib.hid (L4.out.setCell (p := ⟨w.heap.size + 1, 1, none⟩) (by simp) (.int .u64 NF))
      have HM3 := Lib.hid (num_yes (k := 2) R2 (by decide) (by rw [List.length_drop, List.length_drop, HLE.out]; decide))
      rw [List.drop_drop, HN3.out] at HM3
      clear hrd ho q1 q2 q3 R2
      go_wp2_with fail
      refine Calls.mono HM3.out ?_
      rintro e w4 ⟨rfl, hrd, ho⟩
      clear f0 f1 f2 f3 z0
      obtain ⟨q1, q2, q3⟩ := HRL.out
      have P2 := Lib.hid (Q0.out.only ho (by omega))
      have P3 := Lib.hid (Q1.out.only ho (by omega))
      have L6 := Lib.hid (L5.out.trans (ho.below (by omega)))
      obtain ⟨f0, f1, f2, f3⟩ := P3.out.c4
      have z0 := P3.out.frozen 2
      have Q2 := Lib.hid (P2.out.far (p := ⟨w.heap.size + 1, 2, none⟩) (by simp) (.int .i64 NK))
      have Q3 := Lib.hid (show Blk (w4.setCell ⟨w.heap.size + 1, 2, none⟩ (.int .i64 NK)) (w.heap.size + 1) 43 #[.int .u64 NT, .int .u64 NF, .int .i64 NK, .string ⟨#[]⟩] by simpa using P3.out.set_ 2 (.int .i64 NK))
      have L7 := Lib.hid (L6.out.setCell (p := ⟨w.heap.size + 1, 2, none⟩) (by simp) (.int .i64 NK))
      obtain ⟨V, hV⟩ : ∃ V, frB NT NF NK = V := ⟨_, rfl⟩
      have HF := Lib.hid (fun W => isFrame_at NT NF NK ⟨#[]⟩ hV W)
      have HVV := Lib.hid hV
      clear hrd ho q1 q2 q3 hV
      go_wp2_with fail
      refine Calls.mono (HF.out _) ?_
      rintro e w5 ⟨rfl, hb⟩
      clear f0 f1 f2 f3 z0
      have S0 := Lib.hid (Q2.out.below hb Q2.out.lt)
      have S1 := Lib.hid (Q3.out.below hb Q3.out.lt)
      have L8 := Lib.hid (L7.out.trans (hb.mono L7.out.size))
      obtain ⟨e0, e1, e2, e3⟩ := S0.out.c4
      have y0 := S0.out.frozen 0
      have y1 := S0.out.frozen 1
      have y2 := S0.out.frozen 2
      have y3 := S0.out.frozen 3
      clear hb
      cases V
      · have HX := Lib.hid (tkV_bad (Nat.le_of_not_lt H14.out) (Nat.le_of_not_lt H15.out) (by
          rw [HNK.out]
          rcases Int.lt_or_le NK 1536 with h | h
          · exact h
          · exfalso
            have := HVV.out
            rw [frB_mk ⟨t0.2, r0.2, h, k01⟩] at this
            cases this))
        go_wp2
        exact bodyPost_ret (v := .tuple #[noFrm, .int .i64 40]) (by simp [results, Tryd.results34, go_sem, e0, e1, e2, e3]) rfl ⟨by rw [HX.out], by (iterate 4 (refine Below.setCell ?_ ?_ _; rotate_left; first | exact Nat.le_refl _ | (simp; done))); exact L8.out⟩
      · obtain ⟨-, -, v1, -⟩ := frB_of HVV.out
        have HX := Lib.hid (tkV_ok (Nat.le_of_not_lt H14.out) (Nat.le_of_not_lt H15.out) (by rw [HNK.out]; omega))
        have HCl := Lib.hid (fun W => clone_any T (by have := HT.out; have := H15.out; omega) W)
        have HTT : Hid (T = strOfNums ((byt s).drop 14)) := Lib.hid (by rw [← HBT.out, str_byt])
        clear e0 e1 e2 e3 y0 y1 y2 y3
        go_wp2_with fail
        refine Calls.mono (HCl.out _) ?_
        rintro e w6 ⟨rfl, hb⟩
        have T0 := Lib.hid (S0.out.below hb S0.out.lt)
        have T1 := Lib.hid (S1.out.below hb S1.out.lt)
        have L9 := Lib.hid (L8.out.trans (hb.mono L8.out.size))
        obtain ⟨e0, e1, e2, e3⟩ := T0.out.c4
        obtain ⟨d0, d1, d2, d3⟩ := T1.out.c4
        have y0 := T0.out.frozen 0
        have y1 := T0.out.frozen 1
        have y2 := T0.out.frozen 2
        have y3 := T0.out.frozen 3
        have x3 := T1.out.frozen 3
        clear hb
        go_wp2
        exact bodyPost_ret (v := .tuple #[frm NT NF NK T, .int .i64 0]) (by simp [results, Tryd.results34, go_sem, e0, e1, e2, e3]) rfl ⟨by rw [HX.out, HNT.out, HNF.out, HNK.out, ← HTT.out], (((((L9.out.setCell (p := ⟨w.heap.size + 1, 3, none⟩) (by simp) _).setCell (p := ⟨w.heap.size, 0, none⟩) (Nat.le_refl _) _).setCell (p := ⟨w.heap.size, 1, none⟩) (Nat.le_refl _) _).setCell (p := ⟨w.heap.size, 2, none⟩) (Nat.le_refl _) _).setCell (p := ⟨w.heap.size, 3, none⟩) (Nat.le_refl _) _)⟩
end Go.Proofs.YtnhlgonldffgoaaDoor
