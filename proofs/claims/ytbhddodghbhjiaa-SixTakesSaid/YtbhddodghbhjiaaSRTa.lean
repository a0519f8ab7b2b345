/-
  The document's own Take of any text.
-/
import Derived.Test.YtbhddodghbhjiaaSTk
import Derived.Test.YtbhddodghbhjiaaSRNm
namespace Go.Proofs.Ytbhddodghbhjiaa
open Go.RowKit
set_option linter.unusedVariables false

theorem Blk.e11 {w : World} {g : Nat} {t : TypeId} {a b c d e f h i j k l : Value} (B : Blk w g t #[a, b, c, d, e, f, h, i, j, k, l]) : w.cell? ⟨g, 0, none⟩ = some a ∧ w.cell? ⟨g, 1, none⟩ = some b ∧ w.cell? ⟨g, 2, none⟩ = some c ∧ w.cell? ⟨g, 3, none⟩ = some d ∧ w.cell? ⟨g, 4, none⟩ = some e ∧ w.cell? ⟨g, 5, none⟩ = some f ∧ w.cell? ⟨g, 6, none⟩ = some h ∧ w.cell? ⟨g, 7, none⟩ = some i ∧ w.cell? ⟨g, 8, none⟩ = some j ∧ w.cell? ⟨g, 9, none⟩ = some k ∧ w.cell? ⟨g, 10, none⟩ = some l :=
  ⟨(by rw [B.cell]; rfl), (by rw [B.cell]; rfl), (by rw [B.cell]; rfl), (by rw [B.cell]; rfl), (by rw [B.cell]; rfl), (by rw [B.cell]; rfl), (by rw [B.cell]; rfl), (by rw [B.cell]; rfl), (by rw [B.cell]; rfl), (by rw [B.cell]; rfl), (by rw [B.cell]; rfl)⟩

set_option maxRecDepth 100000 in
set_option maxHeartbeats 4000000 in
theorem srtk_s40 (s : ByteArray) (hs : (s.size : Int) ≤ 9223372036854775807) (h : s.size < 40) (w : World) :
    Calls Try.prog 19 #[.string s] w fun e w' => e = .returned (tkSV s) ∧ Below w.heap.size w w' := by
  have HZ : Hid ((#[.int .i64 0, .int .i64 0, .int .i64 0, .int .i64 0, .bool false, .int .u64 0, .int .u64 0, .bool false, .int .u64 0, .int .u64 0, .string ⟨#[]⟩] : Array Value).size = 11 ∧ (#[.int .i64 0, .int .i64 0, .int .i64 0, .int .i64 0, .bool false, .int .u64 0, .int .u64 0, .bool false, .int .u64 0, .int .u64 0, .string ⟨#[]⟩] : Array Value).all (·.oneCell') = true) := Lib.hid ⟨rfl, by simp [Value.oneCell']⟩
  have K0 := Lib.hid (Blk.new w 35 #[.int .i64 0, .int .i64 0, .int .i64 0, .int .i64 0, .bool false, .int .u64 0, .int .u64 0, .bool false, .int .u64 0, .int .u64 0, .string ⟨#[]⟩])
  have L0 := Lib.hid ((Below.refl _ w).alloc (Nat.le_refl _) (.cells #[.int .i64 0, .int .i64 0, .int .i64 0, .int .i64 0, .bool false, .int .u64 0, .int .u64 0, .bool false, .int .u64 0, .int .u64 0, .string ⟨#[]⟩] 35))
  have HX := Lib.hid (tk_s40 h)
  have hI : (s.size : Int) < 40 := by omega
  clear h
  go_enter Try.func19, Try.ntmps19
  go_wp2_with (with_reducible refine wpList_st11 rfl (.tmp 2) (.tmp 10) rfl w.heap.size #[.int .i64 0, .int .i64 0, .int .i64 0, .int .i64 0, .bool false, .int .u64 0, .int .u64 0, .bool false, .int .u64 0, .int .u64 0, .string ⟨#[]⟩] #[.int .i64 0, .int .i64 0, .int .i64 0, .int .i64 0, .bool false, .int .u64 0, .int .u64 0, .bool false, .int .u64 0, .int .u64 0, .string ⟨#[]⟩] rfl rfl K0.out HZ.out.1 HZ.out.1 HZ.out.2 ?_; intro w6 hk6 hb6; have HK6 := Lib.hid hk6; have HL6 := Lib.hid (L0.out.trans hb6); clear hk6 hb6)
  obtain ⟨g0, g1, g2, g3, g4, g5, g6, g7, g8, g9, g10⟩ := HK6.out.e11
  exact bodyPost_ret (v := .tuple #[noS.val, .int .i64 61]) (by simp [results, Try.results19, go_sem, noS, g0, g1, g2, g3, g4, g5, g6, g7, g8, g9, g10]) rfl ⟨by unfold tkSV; rw [HX.out], HL6.out⟩
set_option maxRecDepth 100000 in
set_option maxHeartbeats 4000000 in
theorem srtk_kd (s : ByteArray) (hs : (s.size : Int) ≤ 9223372036854775807) (h : 40 ≤ s.size) (hk : fsS s / 268435456 ≠ 6) (w : World) :
    Calls Try.prog 19 #[.string s] w fun e w' => e = .returned (tkSV s) ∧ Below w.heap.size w w' := by
  have HZ : Hid ((#[.int .i64 0, .int .i64 0, .int .i64 0, .int .i64 0, .bool false, .int .u64 0, .int .u64 0, .bool false, .int .u64 0, .int .u64 0, .string ⟨#[]⟩] : Array Value).size = 11 ∧ (#[.int .i64 0, .int .i64 0, .int .i64 0, .int .i64 0, .bool false, .int .u64 0, .int .u64 0, .bool false, .int .u64 0, .int .u64 0, .string ⟨#[]⟩] : Array Value).all (·.oneCell') = true) := Lib.hid ⟨rfl, by simp [Value.oneCell']⟩
  have K0 := Lib.hid (Blk.new w 35 #[.int .i64 0, .int .i64 0, .int .i64 0, .int .i64 0, .bool false, .int .u64 0, .int .u64 0, .bool false, .int .u64 0, .int .u64 0, .string ⟨#[]⟩])
  have L0 := Lib.hid ((Below.refl _ w).alloc (Nat.le_refl _) (.cells #[.int .i64 0, .int .i64 0, .int .i64 0, .int .i64 0, .bool false, .int .u64 0, .int .u64 0, .bool false, .int .u64 0, .int .u64 0, .string ⟨#[]⟩] 35))
  have HN0 := Lib.hid (fun W => srnum s 0 4 (by decide) (by decide) (by omega) W)
  have HN4 := Lib.hid (fun W => srnum s 4 2 (by decide) (by decide) (by omega) W)
  have HN6 := Lib.hid (fun W => srnum s 6 1 (by decide) (by decide) (by omega) W)
  have HN7 := Lib.hid (fun W => srnum s 7 1 (by decide) (by decide) (by omega) W)
  have HN8 := Lib.hid (fun W => srnum s 8 8 (by decide) (by decide) (by omega) W)
  have HN16 := Lib.hid (fun W => srnum s 16 8 (by decide) (by decide) (by omega) W)
  have HN24 := Lib.hid (fun W => srnum s 24 8 (by decide) (by decide) (by omega) W)
  have HN32 := Lib.hid (fun W => srnum s 32 8 (by decide) (by decide) (by omega) W)
  have b0 := nA_bd (byt_by s) (i := 0) (k := 4) (by rw [byt_len]; omega)
  have b4 := nA_bd (byt_by s) (i := 4) (k := 2) (by rw [byt_len]; omega)
  have b6 := nA_bd (byt_by s) (i := 6) (k := 1) (by rw [byt_len]; omega)
  have b7 := nA_bd (byt_by s) (i := 7) (k := 1) (by rw [byt_len]; omega)
  rw [p4] at b0
  rw [p2] at b4
  rw [p1] at b6 b7
  have hLN : ((lnS s : Nat) : Int) = nA (byt s) 4 2 := by unfold lnS; omega
  have hPX : pkX s = ⟨nA (byt s) 0 4 / 1048576 % 256, nA (byt s) 0 4 % 1048576, nA (byt s) 6 1, nA (byt s) 7 1, true, nA (byt s) 8 8, nA (byt s) 16 8, true, nA (byt s) 24 8, nA (byt s) 32 8, s.extract 40 (40 + lnS s)⟩ := rfl
  have HX := Lib.hid (tk_skd h hk)
  rw [← hLN] at HN4 b4
  have hfs : fsS s = nA (byt s) 0 4 := rfl
  rw [hfs] at hk
  obtain ⟨F, hF⟩ : ∃ X, nA (byt s) 0 4 = X := ⟨_, rfl⟩
  obtain ⟨N, hN⟩ : ∃ X, nA (byt s) 6 1 = X := ⟨_, rfl⟩
  obtain ⟨H, hH⟩ : ∃ X, nA (byt s) 7 1 = X := ⟨_, rfl⟩
  obtain ⟨A1, hA1⟩ : ∃ X, nA (byt s) 8 8 = X := ⟨_, rfl⟩
  obtain ⟨A2, hA2⟩ : ∃ X, nA (byt s) 16 8 = X := ⟨_, rfl⟩
  obtain ⟨A3, hA3⟩ : ∃ X, nA (byt s) 24 8 = X := ⟨_, rfl⟩
  obtain ⟨A4, hA4⟩ : ∃ X, nA (byt s) 32 8 = X := ⟨_, rfl⟩
  rw [hF, hN, hH, hA1, hA2, hA3, hA4] at hPX
  rw [hF] at HN0 hk b0
  rw [hN] at HN6 b6
  rw [hH] at HN7 b7
  rw [hA1] at HN8
  rw [hA2] at HN16
  rw [hA3] at HN24
  rw [hA4] at HN32
  obtain ⟨LN, hLN2⟩ : ∃ X, lnS s = X := ⟨_, rfl⟩
  rw [hLN2] at HN4 hPX b4
  obtain ⟨T, hT⟩ : ∃ T, 40 + LN = T := ⟨_, rfl⟩
  have hTI : (40 : Int) + (LN : Int) = (T : Int) := by omega
  have hwF : IntKind.i64.wrap F = F := by rw [IntKind.wrap_i64]; omega
  have hwL : IntKind.i64.wrap (LN : Int) = (LN : Int) := by rw [IntKind.wrap_i64]; omega
  have hT9 : (T : Int) ≤ 70000 := by omega
  have hI : ¬ (s.size : Int) < 40 := by omega
  obtain ⟨KD, hKD⟩ : ∃ X, F / 268435456 = X := ⟨_, rfl⟩
  have hq : Int.tdiv F 268435456 = KD := by rw [Int.tdiv_eq_ediv_of_nonneg b0.1]; exact hKD
  rw [hKD] at hk
  have hkd : (KD == 6) = false := by simpa using hk
  have hwq : IntKind.i64.wrap KD = KD := by rw [IntKind.wrap_i64]; omega
  have hb1 : 0 ≤ F ∧ F ≤ 4294967295 := by omega
  clear b0 b4 b6 b7 hLN hPX hfs hF hN hH hA1 hA2 hA3 hA4 hLN2 hT hTI hk h hs
  go_enter Try.func19, Try.ntmps19
  go_wp2_with fail
  refine Calls.mono (HN0.out _) ?_
  rintro e w1 ⟨rfl, hb⟩
  have K1 := Lib.hid (K0.out.below hb K0.out.lt)
  have L1 := Lib.hid (L0.out.trans (hb.mono L0.out.size))
  clear hb
  go_wp2_with (with_reducible refine wpList_st11 rfl (.tmp 2) (.tmp 17) rfl w.heap.size #[.int .i64 0, .int .i64 0, .int .i64 0, .int .i64 0, .bool false, .int .u64 0, .int .u64 0, .bool false, .int .u64 0, .int .u64 0, .string ⟨#[]⟩] #[.int .i64 0, .int .i64 0, .int .i64 0, .int .i64 0, .bool false, .int .u64 0, .int .u64 0, .bool false, .int .u64 0, .int .u64 0, .string ⟨#[]⟩] rfl rfl K1.out HZ.out.1 HZ.out.1 HZ.out.2 ?_; intro w6 hk6 hb6; have HK6 := Lib.hid hk6; have HL6 := Lib.hid (L1.out.trans hb6); clear hk6 hb6)
  obtain ⟨g0, g1, g2, g3, g4, g5, g6, g7, g8, g9, g10⟩ := HK6.out.e11
  exact bodyPost_ret (v := .tuple #[noS.val, .int .i64 60]) (by simp [results, Try.results19, go_sem, noS, g0, g1, g2, g3, g4, g5, g6, g7, g8, g9, g10]) rfl ⟨by unfold tkSV; rw [HX.out], HL6.out⟩
set_option maxRecDepth 100000 in
set_option maxHeartbeats 4000000 in
theorem srtk_sh (s : ByteArray) (hs : (s.size : Int) ≤ 9223372036854775807) (h : 40 ≤ s.size) (hk : fsS s / 268435456 = 6) (hj : s.size < 40 + lnS s) (w : World) :
    Calls Try.prog 19 #[.string s] w fun e w' => e = .returned (tkSV s) ∧ Below w.heap.size w w' := by
  have HZ : Hid ((#[.int .i64 0, .int .i64 0, .int .i64 0, .int .i64 0, .bool false, .int .u64 0, .int .u64 0, .bool false, .int .u64 0, .int .u64 0, .string ⟨#[]⟩] : Array Value).size = 11 ∧ (#[.int .i64 0, .int .i64 0, .int .i64 0, .int .i64 0, .bool false, .int .u64 0, .int .u64 0, .bool false, .int .u64 0, .int .u64 0, .string ⟨#[]⟩] : Array Value).all (·.oneCell') = true) := Lib.hid ⟨rfl, by simp [Value.oneCell']⟩
  have K0 := Lib.hid (Blk.new w 35 #[.int .i64 0, .int .i64 0, .int .i64 0, .int .i64 0, .bool false, .int .u64 0, .int .u64 0, .bool false, .int .u64 0, .int .u64 0, .string ⟨#[]⟩])
  have L0 := Lib.hid ((Below.refl _ w).alloc (Nat.le_refl _) (.cells #[.int .i64 0, .int .i64 0, .int .i64 0, .int .i64 0, .bool false, .int .u64 0, .int .u64 0, .bool false, .int .u64 0, .int .u64 0, .string ⟨#[]⟩] 35))
  have HN0 := Lib.hid (fun W => srnum s 0 4 (by decide) (by decide) (by omega) W)
  have HN4 := Lib.hid (fun W => srnum s 4 2 (by decide) (by decide) (by omega) W)
  have HN6 := Lib.hid (fun W => srnum s 6 1 (by decide) (by decide) (by omega) W)
  have HN7 := Lib.hid (fun W => srnum s 7 1 (by decide) (by decide) (by omega) W)
  have HN8 := Lib.hid (fun W => srnum s 8 8 (by decide) (by decide) (by omega) W)
  have HN16 := Lib.hid (fun W => srnum s 16 8 (by decide) (by decide) (by omega) W)
  have HN24 := Lib.hid (fun W => srnum s 24 8 (by decide) (by decide) (by omega) W)
  have HN32 := Lib.hid (fun W => srnum s 32 8 (by decide) (by decide) (by omega) W)
  have b0 := nA_bd (byt_by s) (i := 0) (k := 4) (by rw [byt_len]; omega)
  have b4 := nA_bd (byt_by s) (i := 4) (k := 2) (by rw [byt_len]; omega)
  have b6 := nA_bd (byt_by s) (i := 6) (k := 1) (by rw [byt_len]; omega)
  have b7 := nA_bd (byt_by s) (i := 7) (k := 1) (by rw [byt_len]; omega)
  rw [p4] at b0
  rw [p2] at b4
  rw [p1] at b6 b7
  have hLN : ((lnS s : Nat) : Int) = nA (byt s) 4 2 := by unfold lnS; omega
  have hPX : pkX s = ⟨nA (byt s) 0 4 / 1048576 % 256, nA (byt s) 0 4 % 1048576, nA (byt s) 6 1, nA (byt s) 7 1, true, nA (byt s) 8 8, nA (byt s) 16 8, true, nA (byt s) 24 8, nA (byt s) 32 8, s.extract 40 (40 + lnS s)⟩ := rfl
  have HX := Lib.hid (tk_ssh h hk hj)
  rw [← hLN] at HN4 b4
  have hfs : fsS s = nA (byt s) 0 4 := rfl
  rw [hfs] at hk
  obtain ⟨F, hF⟩ : ∃ X, nA (byt s) 0 4 = X := ⟨_, rfl⟩
  obtain ⟨N, hN⟩ : ∃ X, nA (byt s) 6 1 = X := ⟨_, rfl⟩
  obtain ⟨H, hH⟩ : ∃ X, nA (byt s) 7 1 = X := ⟨_, rfl⟩
  obtain ⟨A1, hA1⟩ : ∃ X, nA (byt s) 8 8 = X := ⟨_, rfl⟩
  obtain ⟨A2, hA2⟩ : ∃ X, nA (byt s) 16 8 = X := ⟨_, rfl⟩
  obtain ⟨A3, hA3⟩ : ∃ X, nA (byt s) 24 8 = X := ⟨_, rfl⟩
  obtain ⟨A4, hA4⟩ : ∃ X, nA (byt s) 32 8 = X := ⟨_, rfl⟩
  rw [hF, hN, hH, hA1, hA2, hA3, hA4] at hPX
  rw [hF] at HN0 hk b0
  rw [hN] at HN6 b6
  rw [hH] at HN7 b7
  rw [hA1] at HN8
  rw [hA2] at HN16
  rw [hA3] at HN24
  rw [hA4] at HN32
  obtain ⟨LN, hLN2⟩ : ∃ X, lnS s = X := ⟨_, rfl⟩
  rw [hLN2] at HN4 hPX b4 hj
  obtain ⟨T, hT⟩ : ∃ T, 40 + LN = T := ⟨_, rfl⟩
  have hTI : (40 : Int) + (LN : Int) = (T : Int) := by omega
  have hwF : IntKind.i64.wrap F = F := by rw [IntKind.wrap_i64]; omega
  have hwL : IntKind.i64.wrap (LN : Int) = (LN : Int) := by rw [IntKind.wrap_i64]; omega
  have hT9 : (T : Int) ≤ 70000 := by omega
  have hI : ¬ (s.size : Int) < 40 := by omega
  have hq : Int.tdiv F 268435456 = 6 := by rw [Int.tdiv_eq_ediv_of_nonneg b0.1]; exact hk
  have hq2 : F / 268435456 = 6 := hk
  have hb1 : 0 ≤ F ∧ F ≤ 4294967295 := by omega
  have hb2 : 0 ≤ N ∧ N ≤ 255 := by omega
  have hb3 : 0 ≤ H ∧ H ≤ 255 := by omega
  have hsh : (s.size : Int) < (T : Int) := by omega
  clear b0 b4 b6 b7 hLN hPX hfs hF hN hH hA1 hA2 hA3 hA4 hLN2 hT hk h hj
  go_enter Try.func19, Try.ntmps19
  go_wp2_with fail
  refine Calls.mono (HN0.out _) ?_
  rintro e w1 ⟨rfl, hb⟩
  have K1 := Lib.hid (K0.out.below hb K0.out.lt)
  have L1 := Lib.hid (L0.out.trans (hb.mono L0.out.size))
  clear hb
  go_wp2_with fail
  refine Calls.mono (HN4.out _) ?_
  rintro e w2 ⟨rfl, hb⟩
  have K2 := Lib.hid (K1.out.below hb K1.out.lt)
  have L2 := Lib.hid (L1.out.trans (hb.mono L1.out.size))
  clear hb
  go_wp2_with (with_reducible refine wpList_st11 rfl (.tmp 2) (.tmp 26) rfl w.heap.size #[.int .i64 0, .int .i64 0, .int .i64 0, .int .i64 0, .bool false, .int .u64 0, .int .u64 0, .bool false, .int .u64 0, .int .u64 0, .string ⟨#[]⟩] #[.int .i64 0, .int .i64 0, .int .i64 0, .int .i64 0, .bool false, .int .u64 0, .int .u64 0, .bool false, .int .u64 0, .int .u64 0, .string ⟨#[]⟩] rfl rfl K2.out HZ.out.1 HZ.out.1 HZ.out.2 ?_; intro w6 hk6 hb6; have HK6 := Lib.hid hk6; have HL6 := Lib.hid (L2.out.trans hb6); clear hk6 hb6)
  obtain ⟨g0, g1, g2, g3, g4, g5, g6, g7, g8, g9, g10⟩ := HK6.out.e11
  exact bodyPost_ret (v := .tuple #[noS.val, .int .i64 61]) (by simp [results, Try.results19, go_sem, noS, g0, g1, g2, g3, g4, g5, g6, g7, g8, g9, g10]) rfl ⟨by unfold tkSV; rw [HX.out], HL6.out⟩
end Go.Proofs.Ytbhddodghbhjiaa
