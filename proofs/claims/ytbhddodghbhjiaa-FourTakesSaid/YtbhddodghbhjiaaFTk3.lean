/-
  ip4.Take of any text: a piece.
-/
import Derived.Test.YtbhddodghbhjiaaFTkP
namespace Go.Proofs.Ytbhddodghbhjiaa
open Go.RowKit
set_option linter.unusedVariables false

set_option maxRecDepth 100000 in
set_option maxHeartbeats 8000000 in
theorem take_lt (s : ByteArray) (hs : s.size ≤ 281474976710656) (w : World) (he : (szR s).2 = 0) (hsm : fo (tot 0 ((byt s).take (hdL s))) = 65535) (hA : tlN s < hdL s) :
    Calls Try.prog 11 #[.string s] w fun e w' => e = .returned (tkRV s) ∧ Below w.heap.size w w' := by
  have HSz := Lib.hid (fun W => size_any s W)
  have H15Z : Hid ((#[.int .i64 0, .int .i64 0, .bool false, .bool false, .int .i64 0, .int .i64 0, .int .i64 0, .bool false, .int .u64 0, .int .u64 0, .bool false, .int .u64 0, .int .u64 0, .string ⟨#[]⟩, .string ⟨#[]⟩] : Array Value).size = 15 ∧ (#[.int .i64 0, .int .i64 0, .bool false, .bool false, .int .i64 0, .int .i64 0, .int .i64 0, .bool false, .int .u64 0, .int .u64 0, .bool false, .int .u64 0, .int .u64 0, .string ⟨#[]⟩, .string ⟨#[]⟩] : Array Value).all (·.oneCell') = true) := Lib.hid ⟨rfl, by simp [Value.oneCell']⟩
  have K0 := Lib.hid (Blk.new w 27 #[.int .i64 0, .int .i64 0, .bool false, .bool false, .int .i64 0, .int .i64 0, .int .i64 0, .bool false, .int .u64 0, .int .u64 0, .bool false, .int .u64 0, .int .u64 0, .string ⟨#[]⟩, .string ⟨#[]⟩])
  have L0 := Lib.hid ((Below.refl _ w).alloc (Nat.le_refl _) (.cells #[.int .i64 0, .int .i64 0, .bool false, .bool false, .int .i64 0, .int .i64 0, .int .i64 0, .bool false, .int .u64 0, .int .u64 0, .bool false, .int .u64 0, .int .u64 0, .string ⟨#[]⟩, .string ⟨#[]⟩] 27))
  obtain ⟨e1, h20, h60, hle, hX⟩ := sz_ok he
  obtain ⟨H, hH⟩ : ∃ x, hdL s = x := ⟨_, rfl⟩
  rw [hH] at e1 h20 h60 hle hX hsm hA
  unfold szV at HSz
  rw [e1, he] at HSz
  obtain ⟨E, hE⟩ : ∃ E, s.extract 0 H = E := ⟨_, rfl⟩
  have hEs : E.size = H := by rw [← hE, ByteArray.size_extract]; omega
  have bE : byt E = (byt s).take H := by rw [← hE, byt_ext, List.drop_zero]
  have hcv := fun W => conv_bytes W E
  rw [hEs] at hcv
  have HRI := Lib.hid (fun W => bytesWorld_ri W E)
  have HBW := Lib.hid (fun W => bytesWorld_below W E)
  rw [hEs] at HRI
  have HSm := Lib.hid (fun (W : World) c (hz : RI .u8 W W.heap.size (some ⟨w.heap.size + 1, 0, none⟩) H (byt E)) => sum_one W W.heap.size (some ⟨w.heap.size + 1, 0, none⟩) H c (byt E) hz (Nat.le_refl _) (by omega))
  have HNm := Lib.hid (fun (W : World) c (hz : RI .u8 W W.heap.size (some ⟨w.heap.size + 1, 0, none⟩) H (byt E)) => numbers_any (some ⟨w.heap.size + 1, 0, none⟩) H c (byt E) h20 (by omega) W hz)
  rw [bE] at HSm HNm
  rw [nmP_take h20, nAt_take (by omega), nAt_take (by omega)] at HNm
  obtain ⟨SM, hSM⟩ : ∃ x, fo (tot 0 ((byt s).take H)) = x := ⟨_, rfl⟩
  rw [hSM] at HSm hX hsm
  have HbE := Lib.hid bE
  have hHi : (20 : Int) ≤ H := by omega
  have hHi2 : (H : Int) ≤ s.size := by omega
  have hHi3 : (H : Int) ≤ 60 := by omega
  obtain ⟨U, hU⟩ : ∃ U, U = w.alloc (.cells #[.int .i64 0, .int .i64 0, .bool false, .bool false, .int .i64 0, .int .i64 0, .int .i64 0, .bool false, .int .u64 0, .int .u64 0, .bool false, .int .u64 0, .int .u64 0, .string ⟨#[]⟩, .string ⟨#[]⟩] 27) := ⟨_, rfl⟩
  have hUs : U.heap.size = w.heap.size + 1 := by rw [hU]; simp
  have hb := HBW.out U
  have HV1 : Hid (RI .u8 (Lib.bytesWorld U 5 E) (Lib.bytesWorld U 5 E).heap.size (some ⟨w.heap.size + 1, 0, none⟩) H ((byt s).take H)) := by have := HRI.out U; rwa [hUs, bE] at this
  have HVK : Hid (Blk (Lib.bytesWorld U 5 E) w.heap.size 27 #[.int .i64 0, .int .i64 0, .bool false, .bool false, .int .i64 0, .int .i64 0, .int .i64 0, .bool false, .int .u64 0, .int .u64 0, .bool false, .int .u64 0, .int .u64 0, .string ⟨#[]⟩, .string ⟨#[]⟩]) := Lib.hid (by rw [hU] at hb ⊢; exact K0.out.below hb K0.out.lt)
  have HVL : Hid (Below w.heap.size w (Lib.bytesWorld U 5 E)) := Lib.hid (by rw [hU] at hb ⊢; exact L0.out.trans (hb.mono L0.out.size))
  have hVs : (Lib.bytesWorld U 5 E).heap.size = w.heap.size + 2 := by rw [Lib.bytesWorld_size, hUs]
  obtain ⟨V, hV⟩ : ∃ V, V = Lib.bytesWorld U 5 E := ⟨_, rfl⟩
  rw [← hV] at HV1 HVK HVL hVs
  rw [hU] at hV
  have HV := Lib.hid hV
  have HVs := Lib.hid hVs
  clear hU hUs hb hV bE he e1 hVs h20 h60 hle
  subst hsm
  rw [if_neg (by simp)] at hX
  clear hSM
  have HK1 := Lib.hid (HVK.out.alloc (.cells #[.slice (some ⟨w.heap.size + 1, 0, none⟩) H (grownCap (w.alloc (.cells #[.int .i64 0, .int .i64 0, .bool false, .bool false, .int .i64 0, .int .i64 0, .int .i64 0, .bool false, .int .u64 0, .int .u64 0, .bool false, .int .u64 0, .int .u64 0, .string ⟨#[]⟩, .string ⟨#[]⟩] 27)) H 0 5)] 61))
  have HW1 := Lib.hid (HVL.out.alloc HVL.out.size (.cells #[.slice (some ⟨w.heap.size + 1, 0, none⟩) H (grownCap (w.alloc (.cells #[.int .i64 0, .int .i64 0, .bool false, .bool false, .int .i64 0, .int .i64 0, .int .i64 0, .bool false, .int .u64 0, .int .u64 0, .bool false, .int .u64 0, .int .u64 0, .string ⟨#[]⟩, .string ⟨#[]⟩] 27)) H 0 5)] 61))
  have HW2 := Lib.hid ((HV1.out.alloc (Nat.le_refl _) (.cells #[.slice (some ⟨w.heap.size + 1, 0, none⟩) H (grownCap (w.alloc (.cells #[.int .i64 0, .int .i64 0, .bool false, .bool false, .int .i64 0, .int .i64 0, .int .i64 0, .bool false, .int .u64 0, .int .u64 0, .bool false, .int .u64 0, .int .u64 0, .string ⟨#[]⟩, .string ⟨#[]⟩] 27)) H 0 5)] 61)).more (show V.heap.size ≤ (V.alloc (.cells #[.slice (some ⟨w.heap.size + 1, 0, none⟩) H (grownCap (w.alloc (.cells #[.int .i64 0, .int .i64 0, .bool false, .bool false, .int .i64 0, .int .i64 0, .int .i64 0, .bool false, .int .u64 0, .int .u64 0, .bool false, .int .u64 0, .int .u64 0, .string ⟨#[]⟩, .string ⟨#[]⟩] 27)) H 0 5)] 61)).heap.size by simp))
  have hTd : ((tlN s : Nat) : Int) = nAt (byt s) 2 2 := by
    have := nAt_bd (l := byt s) (a := 2) (k := 2) (by rw [byt_len]; omega) (byt_by s)
    unfold tlN; omega
  have hT5 : nAt (byt s) 2 2 < 65536 := by
    have := nAt_bd (l := byt s) (a := 2) (k := 2) (by rw [byt_len]; omega) (byt_by s)
    have p2 : (256 : Int) ^ 2 = 65536 := by decide
    omega
  have hPK := pkS_nm s
  obtain ⟨p, hp⟩ : ∃ p, nmP (byt s) = p := ⟨_, rfl⟩
  have hpo : p.o = ⟨#[]⟩ := by rw [← hp]; rfl
  have hpd : p.d = ⟨#[]⟩ := by rw [← hp]; rfl
  rw [hp] at HNm hPK
  clear hp
  obtain ⟨tos, id, df, mf, off, ttl, pro, s1, h1, l1, s2, h2, l2, o1, d1⟩ := p
  simp only at hpo hpd
  subst hpo hpd
  obtain ⟨TI, hTI⟩ : ∃ x, nAt (byt s) 2 2 = x := ⟨_, rfl⟩
  rw [hTI] at HNm hTd hT5
  have hOD : decide (32768 ≤ nAt (byt s) 6 2) = decide (32768 ≤ ptN s) := rfl
  rw [hOD] at HNm
  obtain ⟨PT, hPT⟩ : ∃ x, ptN s = x := ⟨_, rfl⟩
  rw [hPT] at HNm hX
  obtain ⟨T, hT⟩ : ∃ x, tlN s = x := ⟨_, rfl⟩
  rw [hT] at hX hPK hTd hA
  rw [hH] at hPK
  obtain ⟨OD, hODD⟩ : ∃ x, decide (32768 ≤ PT) = x := ⟨_, rfl⟩
  rw [hODD] at HNm
  have HPK := Lib.hid hPK
  clear hTI hOD hPT hT hPK hT5
  subst hTd
  have HX : Hid (tkR s = (noPk, 50)) := Lib.hid (by rw [hX, if_pos (.inl hA)])
  have hTH : (T : Int) < (H : Int) := by omega
  clear hX hODD hA
  go_enter Try.func11, Try.ntmps11
  go_wp2_with fail
  refine Calls.mono (HSz.out _) ?_
  rintro e w1 ⟨rfl, rfl⟩
  go_wp2_with fail
  rw [← HV.out]
  refine Calls.mono (HSm.out V _ HV1.out) ?_
  rintro e w1 ⟨rfl, rfl⟩
  go_wp2_with fail
  refine Calls.mono (HNm.out _ _ HW2.out) ?_
  rintro e w2 ⟨rfl, hb⟩
  have HK2 := HK1.out.below hb HK1.out.lt
  have HL2 := Lib.hid (HW1.out.trans (hb.mono HW1.out.size))
  have hRlt := HK2.lt
  clear hb
  have HK3 := HK2.alloc (.cells #[.int .i64 tos, .int .i64 id, .bool df, .bool mf, .int .i64 off, .int .i64 ttl, .int .i64 pro, .bool s1, .int .u64 h1, .int .u64 l1, .bool s2, .int .u64 h2, .int .u64 l2, .string ⟨#[]⟩, .string ⟨#[]⟩] 27)
  have HL3 := Lib.hid (HL2.out.alloc HL2.out.size (.cells #[.int .i64 tos, .int .i64 id, .bool df, .bool mf, .int .i64 off, .int .i64 ttl, .int .i64 pro, .bool s1, .int .u64 h1, .int .u64 l1, .bool s2, .int .u64 h2, .int .u64 l2, .string ⟨#[]⟩, .string ⟨#[]⟩] 27))
  have HKN := Lib.hid HK3
  clear HK2
  go_wp2_with (with_reducible refine wpList_st15 rfl (.tmp 2) (.tmp 41) rfl w.heap.size #[.int .i64 0, .int .i64 0, .bool false, .bool false, .int .i64 0, .int .i64 0, .int .i64 0, .bool false, .int .u64 0, .int .u64 0, .bool false, .int .u64 0, .int .u64 0, .string ⟨#[]⟩, .string ⟨#[]⟩] #[.int .i64 0, .int .i64 0, .bool false, .bool false, .int .i64 0, .int .i64 0, .int .i64 0, .bool false, .int .u64 0, .int .u64 0, .bool false, .int .u64 0, .int .u64 0, .string ⟨#[]⟩, .string ⟨#[]⟩] rfl rfl HKN.out H15Z.out.1 H15Z.out.1 H15Z.out.2 ?_; intro w9 hk hb; have HK9 := Lib.hid hk; have HB9 := Lib.hid hb; clear hk hb)
  have g0 : w9.cell? ⟨w.heap.size, 0, none⟩ = some (.int .i64 0) := by rw [HK9.out.cell]; rfl
  have g1 : w9.cell? ⟨w.heap.size, 1, none⟩ = some (.int .i64 0) := by rw [HK9.out.cell]; rfl
  have g2 : w9.cell? ⟨w.heap.size, 2, none⟩ = some (.bool false) := by rw [HK9.out.cell]; rfl
  have g3 : w9.cell? ⟨w.heap.size, 3, none⟩ = some (.bool false) := by rw [HK9.out.cell]; rfl
  have g4 : w9.cell? ⟨w.heap.size, 4, none⟩ = some (.int .i64 0) := by rw [HK9.out.cell]; rfl
  have g5 : w9.cell? ⟨w.heap.size, 5, none⟩ = some (.int .i64 0) := by rw [HK9.out.cell]; rfl
  have g6 : w9.cell? ⟨w.heap.size, 6, none⟩ = some (.int .i64 0) := by rw [HK9.out.cell]; rfl
  have g7 : w9.cell? ⟨w.heap.size, 7, none⟩ = some (.bool false) := by rw [HK9.out.cell]; rfl
  have g8 : w9.cell? ⟨w.heap.size, 8, none⟩ = some (.int .u64 0) := by rw [HK9.out.cell]; rfl
  have g9 : w9.cell? ⟨w.heap.size, 9, none⟩ = some (.int .u64 0) := by rw [HK9.out.cell]; rfl
  have g10 : w9.cell? ⟨w.heap.size, 10, none⟩ = some (.bool false) := by rw [HK9.out.cell]; rfl
  have g11 : w9.cell? ⟨w.heap.size, 11, none⟩ = some (.int .u64 0) := by rw [HK9.out.cell]; rfl
  have g12 : w9.cell? ⟨w.heap.size, 12, none⟩ = some (.int .u64 0) := by rw [HK9.out.cell]; rfl
  have g13 : w9.cell? ⟨w.heap.size, 13, none⟩ = some (.string (⟨#[]⟩ : ByteArray)) := by rw [HK9.out.cell]; rfl
  have g14 : w9.cell? ⟨w.heap.size, 14, none⟩ = some (.string (⟨#[]⟩ : ByteArray)) := by rw [HK9.out.cell]; rfl
  exact bodyPost_ret (v := .tuple #[noPk.val, .int .i64 50]) (by simp [results, Try.results11, go_sem, g0, g1, g2, g3, g4, g5, g6, g7, g8, g9, g10, g11, g12, g13, g14]) rfl ⟨by unfold tkRV; rw [HX.out], HL3.out.trans HB9.out⟩
end Go.Proofs.Ytbhddodghbhjiaa
