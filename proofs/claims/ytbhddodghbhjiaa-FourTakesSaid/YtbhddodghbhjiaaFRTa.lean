/-
  The document's own Take of layer 6: what is no packet.
-/
import Derived.Test.YtbhddodghbhjiaaFTkP
import Derived.Test.YtbhddodghbhjiaaRefSum
import Derived.Test.YtbhddodghbhjiaaRGet
import Derived.Test.YtbhddodghbhjiaaFConv
namespace Go.Proofs.Ytbhddodghbhjiaa
open Go.RowKit
set_option linter.unusedVariables false

theorem Blk.e15 {w : World} {g : Nat} {t : TypeId} {x0 x1 x2 x3 x4 x5 x6 x7 x8 x9 x10 x11 x12 x13 x14 : Value} (B : Blk w g t #[x0, x1, x2, x3, x4, x5, x6, x7, x8, x9, x10, x11, x12, x13, x14]) : w.cell? ⟨g, 0, none⟩ = some x0 ∧ w.cell? ⟨g, 1, none⟩ = some x1 ∧ w.cell? ⟨g, 2, none⟩ = some x2 ∧ w.cell? ⟨g, 3, none⟩ = some x3 ∧ w.cell? ⟨g, 4, none⟩ = some x4 ∧ w.cell? ⟨g, 5, none⟩ = some x5 ∧ w.cell? ⟨g, 6, none⟩ = some x6 ∧ w.cell? ⟨g, 7, none⟩ = some x7 ∧ w.cell? ⟨g, 8, none⟩ = some x8 ∧ w.cell? ⟨g, 9, none⟩ = some x9 ∧ w.cell? ⟨g, 10, none⟩ = some x10 ∧ w.cell? ⟨g, 11, none⟩ = some x11 ∧ w.cell? ⟨g, 12, none⟩ = some x12 ∧ w.cell? ⟨g, 13, none⟩ = some x13 ∧ w.cell? ⟨g, 14, none⟩ = some x14 :=
  ⟨(by rw [B.cell]; rfl), (by rw [B.cell]; rfl), (by rw [B.cell]; rfl), (by rw [B.cell]; rfl), (by rw [B.cell]; rfl), (by rw [B.cell]; rfl), (by rw [B.cell]; rfl), (by rw [B.cell]; rfl), (by rw [B.cell]; rfl), (by rw [B.cell]; rfl), (by rw [B.cell]; rfl), (by rw [B.cell]; rfl), (by rw [B.cell]; rfl), (by rw [B.cell]; rfl), (by rw [B.cell]; rfl)⟩
set_option maxHeartbeats 2000000 in
theorem frnum (s : ByteArray) (i k : Nat) (hk : k ≤ 4) (h : i + k ≤ s.size) (hs : s.size ≤ 140737488355328) (w : World) :
    Calls Try.prog 37 #[.string s, .int .i64 (i : Int), .int .i64 (k : Int)] w fun e w' => e = .returned (.int .i64 (nAt (byt s) i k)) ∧ Below w.heap.size w w' := by
  have hcv := fun W => conv_bytes W s
  have HRI := Lib.hid (fun W => bytesWorld_ri W s)
  have HBW := Lib.hid (bytesWorld_below w s)
  have hv : numOf (((byt s).drop i).take k) = nAt (byt s) i k := rfl
  have HG := Lib.hid (fun (W : World) (A : Option Addr) (c : Nat) (hz : RI .u8 W W.heap.size A s.size (byt s)) => rget_yes W W.heap.size A s.size c i k _ hz (by omega) h (by omega))
  rw [hv] at HG
  have hb := nAt_bd (a := i) (k := k) (by rw [byt_len]; exact h) (byt_by s)
  have hp : (256 : Int) ^ k ≤ 256 ^ 4 := by
    rcases (show k = 0 ∨ k = 1 ∨ k = 2 ∨ k = 3 ∨ k = 4 by omega) with rfl | rfl | rfl | rfl | rfl <;> decide
  have p4 : (256 : Int) ^ 4 = 4294967296 := by decide
  rw [p4] at hp
  obtain ⟨V, hV⟩ : ∃ V, nAt (byt s) i k = V := ⟨_, rfl⟩
  rw [hV] at HG hb ⊢
  have hw : 0 ≤ V ∧ V ≤ 4294967296 := by omega
  clear hv hb hp p4 hV hs h
  go_enter Try.func37, Try.ntmps37
  go_wp2_with fail
  refine Calls.mono (HG.out _ _ _ (HRI.out w)) ?_
  rintro e w1 ⟨rfl, rfl⟩
  clear hcv
  go_wp2
  go_ret
  exact ⟨rfl, HBW.out⟩
set_option maxRecDepth 100000 in
set_option maxHeartbeats 4000000 in
theorem frtk_0 (s : ByteArray) (hs : s.size ≤ 140737488355328) (h : s.size < 20) (w : World) :
    Calls Try.prog 12 #[.string s] w fun e w' => e = .returned (tkRV s) ∧ Below w.heap.size w w' := by
  have HZ : Hid ((#[.int .i64 0, .int .i64 0, .bool false, .bool false, .int .i64 0, .int .i64 0, .int .i64 0, .bool false, .int .u64 0, .int .u64 0, .bool false, .int .u64 0, .int .u64 0, .string ⟨#[]⟩, .string ⟨#[]⟩] : Array Value).size = 15 ∧ (#[.int .i64 0, .int .i64 0, .bool false, .bool false, .int .i64 0, .int .i64 0, .int .i64 0, .bool false, .int .u64 0, .int .u64 0, .bool false, .int .u64 0, .int .u64 0, .string ⟨#[]⟩, .string ⟨#[]⟩] : Array Value).all (·.oneCell') = true) := Lib.hid ⟨rfl, by simp [Value.oneCell']⟩
  have K0 := Lib.hid (Blk.new w 27 #[.int .i64 0, .int .i64 0, .bool false, .bool false, .int .i64 0, .int .i64 0, .int .i64 0, .bool false, .int .u64 0, .int .u64 0, .bool false, .int .u64 0, .int .u64 0, .string ⟨#[]⟩, .string ⟨#[]⟩])
  have L0 := Lib.hid ((Below.refl _ w).alloc (Nat.le_refl _) (.cells #[.int .i64 0, .int .i64 0, .bool false, .bool false, .int .i64 0, .int .i64 0, .int .i64 0, .bool false, .int .u64 0, .int .u64 0, .bool false, .int .u64 0, .int .u64 0, .string ⟨#[]⟩, .string ⟨#[]⟩] 27))
  have HX := Lib.hid (show tkR s = (noPk, 51) by unfold tkR; rw [if_pos h])
  have hI : (s.size : Int) < 20 := by omega
  clear h hs
  go_enter Try.func12, Try.ntmps12
  go_wp2_with (with_reducible refine wpList_st15 rfl (.tmp 2) (.tmp 14) rfl w.heap.size #[.int .i64 0, .int .i64 0, .bool false, .bool false, .int .i64 0, .int .i64 0, .int .i64 0, .bool false, .int .u64 0, .int .u64 0, .bool false, .int .u64 0, .int .u64 0, .string ⟨#[]⟩, .string ⟨#[]⟩] #[.int .i64 0, .int .i64 0, .bool false, .bool false, .int .i64 0, .int .i64 0, .int .i64 0, .bool false, .int .u64 0, .int .u64 0, .bool false, .int .u64 0, .int .u64 0, .string ⟨#[]⟩, .string ⟨#[]⟩] rfl rfl K0.out HZ.out.1 HZ.out.1 HZ.out.2 ?_; intro w6 hk6 hb6; have HK6 := Lib.hid hk6; have HL6 := Lib.hid (L0.out.trans hb6); clear hk6 hb6)
  obtain ⟨g0, g1, g2, g3, g4, g5, g6, g7, g8, g9, g10, g11, g12, g13, g14⟩ := HK6.out.e15
  exact bodyPost_ret (v := .tuple #[noPk.val, .int .i64 51]) (by simp [results, Try.results12, go_sem, g0, g1, g2, g3, g4, g5, g6, g7, g8, g9, g10, g11, g12, g13, g14]) rfl ⟨by unfold tkRV; rw [HX.out], HL6.out⟩
set_option maxRecDepth 100000 in
set_option maxHeartbeats 4000000 in
theorem frtk_1 (s : ByteArray) (hs : s.size ≤ 140737488355328) (h0 : 20 ≤ s.size) (h1 : f1N s < 69 ∨ 79 < f1N s) (w : World) :
    Calls Try.prog 12 #[.string s] w fun e w' => e = .returned (tkRV s) ∧ Below w.heap.size w w' := by
  have HZ : Hid ((#[.int .i64 0, .int .i64 0, .bool false, .bool false, .int .i64 0, .int .i64 0, .int .i64 0, .bool false, .int .u64 0, .int .u64 0, .bool false, .int .u64 0, .int .u64 0, .string ⟨#[]⟩, .string ⟨#[]⟩] : Array Value).size = 15 ∧ (#[.int .i64 0, .int .i64 0, .bool false, .bool false, .int .i64 0, .int .i64 0, .int .i64 0, .bool false, .int .u64 0, .int .u64 0, .bool false, .int .u64 0, .int .u64 0, .string ⟨#[]⟩, .string ⟨#[]⟩] : Array Value).all (·.oneCell') = true) := Lib.hid ⟨rfl, by simp [Value.oneCell']⟩
  have K0 := Lib.hid (Blk.new w 27 #[.int .i64 0, .int .i64 0, .bool false, .bool false, .int .i64 0, .int .i64 0, .int .i64 0, .bool false, .int .u64 0, .int .u64 0, .bool false, .int .u64 0, .int .u64 0, .string ⟨#[]⟩, .string ⟨#[]⟩])
  have L0 := Lib.hid ((Below.refl _ w).alloc (Nat.le_refl _) (.cells #[.int .i64 0, .int .i64 0, .bool false, .bool false, .int .i64 0, .int .i64 0, .int .i64 0, .bool false, .int .u64 0, .int .u64 0, .bool false, .int .u64 0, .int .u64 0, .string ⟨#[]⟩, .string ⟨#[]⟩] 27))
  have HN0 := Lib.hid (fun W => frnum s 0 1 (by decide) (by omega) hs W)
  have HN2 := Lib.hid (fun W => frnum s 2 2 (by decide) (by omega) hs W)
  have HN6 := Lib.hid (fun W => frnum s 6 2 (by decide) (by omega) hs W)
  have b0 := nAt_bd (a := 0) (k := 1) (by rw [byt_len]; omega) (byt_by s)
  have b2 := nAt_bd (a := 2) (k := 2) (by rw [byt_len]; omega) (byt_by s)
  have b6 := nAt_bd (a := 6) (k := 2) (by rw [byt_len]; omega) (byt_by s)
  have p1 : (256 : Int) ^ 1 = 256 := by decide
  have p2 : (256 : Int) ^ 2 = 65536 := by decide
  rw [p1] at b0
  rw [p2] at b2 b6
  have hf1 : nAt (byt s) 0 1 = f1N s := rfl
  have hT0 : ((tlN s : Nat) : Int) = nAt (byt s) 2 2 := by unfold tlN; omega
  have hP0 : nAt (byt s) 6 2 = ptN s := rfl
  have hsI : (s.size : Int) ≤ 140737488355328 := by omega
  have hI : ¬ (s.size : Int) < 20 := by omega
  rw [hf1] at HN0 b0
  rw [← hT0] at HN2 b2
  rw [hP0] at HN6 b6
  have HX := Lib.hid (show tkR s = (noPk, 50) by unfold tkR; rw [if_neg (show ¬ s.size < 20 by omega), if_pos h1])
  obtain ⟨F1, hF1⟩ : ∃ F, f1N s = F := ⟨_, rfl⟩
  rw [hF1] at HN0 h1 b0
  have hc : F1 < 69 ∨ (¬ F1 < 69 ∧ 79 < F1) := by omega
  clear b0 b2 b6 p1 p2 hf1 hT0 hP0 hF1 h1 h0 hs HN2 HN6 hsI
  rcases hc with hc | ⟨hc, hc2⟩
  · go_enter Try.func12, Try.ntmps12
    go_wp2_with fail
    refine Calls.mono (HN0.out _) ?_
    rintro e w1 ⟨rfl, hb⟩
    have K1 := Lib.hid (K0.out.below hb K0.out.lt)
    have L1 := Lib.hid (L0.out.trans (hb.mono L0.out.size))
    clear hb
    go_wp2_with (with_reducible refine wpList_st15 rfl (.tmp 2) (.tmp 23) rfl w.heap.size #[.int .i64 0, .int .i64 0, .bool false, .bool false, .int .i64 0, .int .i64 0, .int .i64 0, .bool false, .int .u64 0, .int .u64 0, .bool false, .int .u64 0, .int .u64 0, .string ⟨#[]⟩, .string ⟨#[]⟩] #[.int .i64 0, .int .i64 0, .bool false, .bool false, .int .i64 0, .int .i64 0, .int .i64 0, .bool false, .int .u64 0, .int .u64 0, .bool false, .int .u64 0, .int .u64 0, .string ⟨#[]⟩, .string ⟨#[]⟩] rfl rfl K1.out HZ.out.1 HZ.out.1 HZ.out.2 ?_; intro w6 hk6 hb6; have HK6 := Lib.hid hk6; have HL6 := Lib.hid (L1.out.trans hb6); clear hk6 hb6)
    obtain ⟨g0, g1, g2, g3, g4, g5, g6, g7, g8, g9, g10, g11, g12, g13, g14⟩ := HK6.out.e15
    exact bodyPost_ret (v := .tuple #[noPk.val, .int .i64 50]) (by simp [results, Try.results12, go_sem, g0, g1, g2, g3, g4, g5, g6, g7, g8, g9, g10, g11, g12, g13, g14]) rfl ⟨by unfold tkRV; rw [HX.out], HL6.out⟩
  · go_enter Try.func12, Try.ntmps12
    go_wp2_with fail
    refine Calls.mono (HN0.out _) ?_
    rintro e w1 ⟨rfl, hb⟩
    have K1 := Lib.hid (K0.out.below hb K0.out.lt)
    have L1 := Lib.hid (L0.out.trans (hb.mono L0.out.size))
    clear hb
    go_wp2_with (with_reducible refine wpList_st15 rfl (.tmp 2) (.tmp 23) rfl w.heap.size #[.int .i64 0, .int .i64 0, .bool false, .bool false, .int .i64 0, .int .i64 0, .int .i64 0, .bool false, .int .u64 0, .int .u64 0, .bool false, .int .u64 0, .int .u64 0, .string ⟨#[]⟩, .string ⟨#[]⟩] #[.int .i64 0, .int .i64 0, .bool false, .bool false, .int .i64 0, .int .i64 0, .int .i64 0, .bool false, .int .u64 0, .int .u64 0, .bool false, .int .u64 0, .int .u64 0, .string ⟨#[]⟩, .string ⟨#[]⟩] rfl rfl K1.out HZ.out.1 HZ.out.1 HZ.out.2 ?_; intro w6 hk6 hb6; have HK6 := Lib.hid hk6; have HL6 := Lib.hid (L1.out.trans hb6); clear hk6 hb6)
    obtain ⟨g0, g1, g2, g3, g4, g5, g6, g7, g8, g9, g10, g11, g12, g13, g14⟩ := HK6.out.e15
    exact bodyPost_ret (v := .tuple #[noPk.val, .int .i64 50]) (by simp [results, Try.results12, go_sem, g0, g1, g2, g3, g4, g5, g6, g7, g8, g9, g10, g11, g12, g13, g14]) rfl ⟨by unfold tkRV; rw [HX.out], HL6.out⟩
set_option maxRecDepth 100000 in
set_option maxHeartbeats 4000000 in
theorem frtk_2 (s : ByteArray) (hs : s.size ≤ 140737488355328) (h0 : 20 ≤ s.size) (h1 : ¬ (f1N s < 69 ∨ 79 < f1N s)) (h2 : s.size < hdL s) (w : World) :
    Calls Try.prog 12 #[.string s] w fun e w' => e = .returned (tkRV s) ∧ Below w.heap.size w w' := by
  have HZ : Hid ((#[.int .i64 0, .int .i64 0, .bool false, .bool false, .int .i64 0, .int .i64 0, .int .i64 0, .bool false, .int .u64 0, .int .u64 0, .bool false, .int .u64 0, .int .u64 0, .string ⟨#[]⟩, .string ⟨#[]⟩] : Array Value).size = 15 ∧ (#[.int .i64 0, .int .i64 0, .bool false, .bool false, .int .i64 0, .int .i64 0, .int .i64 0, .bool false, .int .u64 0, .int .u64 0, .bool false, .int .u64 0, .int .u64 0, .string ⟨#[]⟩, .string ⟨#[]⟩] : Array Value).all (·.oneCell') = true) := Lib.hid ⟨rfl, by simp [Value.oneCell']⟩
  have K0 := Lib.hid (Blk.new w 27 #[.int .i64 0, .int .i64 0, .bool false, .bool false, .int .i64 0, .int .i64 0, .int .i64 0, .bool false, .int .u64 0, .int .u64 0, .bool false, .int .u64 0, .int .u64 0, .string ⟨#[]⟩, .string ⟨#[]⟩])
  have L0 := Lib.hid ((Below.refl _ w).alloc (Nat.le_refl _) (.cells #[.int .i64 0, .int .i64 0, .bool false, .bool false, .int .i64 0, .int .i64 0, .int .i64 0, .bool false, .int .u64 0, .int .u64 0, .bool false, .int .u64 0, .int .u64 0, .string ⟨#[]⟩, .string ⟨#[]⟩] 27))
  have HN0 := Lib.hid (fun W => frnum s 0 1 (by decide) (by omega) hs W)
  have HN2 := Lib.hid (fun W => frnum s 2 2 (by decide) (by omega) hs W)
  have HN6 := Lib.hid (fun W => frnum s 6 2 (by decide) (by omega) hs W)
  have b0 := nAt_bd (a := 0) (k := 1) (by rw [byt_len]; omega) (byt_by s)
  have b2 := nAt_bd (a := 2) (k := 2) (by rw [byt_len]; omega) (byt_by s)
  have b6 := nAt_bd (a := 6) (k := 2) (by rw [byt_len]; omega) (byt_by s)
  have p1 : (256 : Int) ^ 1 = 256 := by decide
  have p2 : (256 : Int) ^ 2 = 65536 := by decide
  rw [p1] at b0
  rw [p2] at b2 b6
  have hf1 : nAt (byt s) 0 1 = f1N s := rfl
  have hT0 : ((tlN s : Nat) : Int) = nAt (byt s) 2 2 := by unfold tlN; omega
  have hP0 : nAt (byt s) 6 2 = ptN s := rfl
  have hsI : (s.size : Int) ≤ 140737488355328 := by omega
  have hI : ¬ (s.size : Int) < 20 := by omega
  rw [hf1] at HN0 b0
  rw [← hT0] at HN2 b2
  rw [hP0] at HN6 b6
  have HX := Lib.hid (show tkR s = (noPk, 51) by unfold tkR; rw [if_neg (show ¬ s.size < 20 by omega), if_neg h1, if_pos h2])
  have hHe0 : 4 * (f1N s - 64) = ((hdL s : Nat) : Int) := by unfold hdL; omega
  obtain ⟨H, hH⟩ : ∃ H, hdL s = H := ⟨_, rfl⟩
  obtain ⟨F1, hF1⟩ : ∃ F, f1N s = F := ⟨_, rfl⟩
  rw [hH, hF1] at hHe0
  have hHe : 4 * (F1 - 64) = (H : Int) := hHe0
  rw [hF1] at HN0 b0 h1
  have hf69 : ¬ F1 < 69 := by omega
  have hf79 : ¬ 79 < F1 := by omega
  have hc : (s.size : Int) < (H : Int) := by omega
  clear b0 b2 b6 p1 p2 hf1 hT0 hP0 hF1 h1 h0 hs HN2 HN6 hsI h2 hHe0 hH
  go_enter Try.func12, Try.ntmps12
  go_wp2_with fail
  refine Calls.mono (HN0.out _) ?_
  rintro e w1 ⟨rfl, hb⟩
  have K1 := Lib.hid (K0.out.below hb K0.out.lt)
  have L1 := Lib.hid (L0.out.trans (hb.mono L0.out.size))
  clear hb
  go_wp2_with (with_reducible refine wpList_st15 rfl (.tmp 2) (.tmp 31) rfl w.heap.size #[.int .i64 0, .int .i64 0, .bool false, .bool false, .int .i64 0, .int .i64 0, .int .i64 0, .bool false, .int .u64 0, .int .u64 0, .bool false, .int .u64 0, .int .u64 0, .string ⟨#[]⟩, .string ⟨#[]⟩] #[.int .i64 0, .int .i64 0, .bool false, .bool false, .int .i64 0, .int .i64 0, .int .i64 0, .bool false, .int .u64 0, .int .u64 0, .bool false, .int .u64 0, .int .u64 0, .string ⟨#[]⟩, .string ⟨#[]⟩] rfl rfl K1.out HZ.out.1 HZ.out.1 HZ.out.2 ?_; intro w6 hk6 hb6; have HK6 := Lib.hid hk6; have HL6 := Lib.hid (L1.out.trans hb6); clear hk6 hb6)
  obtain ⟨g0, g1, g2, g3, g4, g5, g6, g7, g8, g9, g10, g11, g12, g13, g14⟩ := HK6.out.e15
  exact bodyPost_ret (v := .tuple #[noPk.val, .int .i64 51]) (by simp [results, Try.results12, go_sem, g0, g1, g2, g3, g4, g5, g6, g7, g8, g9, g10, g11, g12, g13, g14]) rfl ⟨by unfold tkRV; rw [HX.out], HL6.out⟩
set_option maxRecDepth 100000 in
set_option maxHeartbeats 4000000 in
theorem frtk_3 (s : ByteArray) (hs : s.size ≤ 140737488355328) (h0 : 20 ≤ s.size) (h1 : ¬ (f1N s < 69 ∨ 79 < f1N s)) (h2 : ¬ s.size < hdL s) (h3 : fo (tot 0 ((byt s).take (hdL s))) ≠ 65535) (w : World) :
    Calls Try.prog 12 #[.string s] w fun e w' => e = .returned (tkRV s) ∧ Below w.heap.size w w' := by
  have HZ : Hid ((#[.int .i64 0, .int .i64 0, .bool false, .bool false, .int .i64 0, .int .i64 0, .int .i64 0, .bool false, .int .u64 0, .int .u64 0, .bool false, .int .u64 0, .int .u64 0, .string ⟨#[]⟩, .string ⟨#[]⟩] : Array Value).size = 15 ∧ (#[.int .i64 0, .int .i64 0, .bool false, .bool false, .int .i64 0, .int .i64 0, .int .i64 0, .bool false, .int .u64 0, .int .u64 0, .bool false, .int .u64 0, .int .u64 0, .string ⟨#[]⟩, .string ⟨#[]⟩] : Array Value).all (·.oneCell') = true) := Lib.hid ⟨rfl, by simp [Value.oneCell']⟩
  have K0 := Lib.hid (Blk.new w 27 #[.int .i64 0, .int .i64 0, .bool false, .bool false, .int .i64 0, .int .i64 0, .int .i64 0, .bool false, .int .u64 0, .int .u64 0, .bool false, .int .u64 0, .int .u64 0, .string ⟨#[]⟩, .string ⟨#[]⟩])
  have L0 := Lib.hid ((Below.refl _ w).alloc (Nat.le_refl _) (.cells #[.int .i64 0, .int .i64 0, .bool false, .bool false, .int .i64 0, .int .i64 0, .int .i64 0, .bool false, .int .u64 0, .int .u64 0, .bool false, .int .u64 0, .int .u64 0, .string ⟨#[]⟩, .string ⟨#[]⟩] 27))
  have HN0 := Lib.hid (fun W => frnum s 0 1 (by decide) (by omega) hs W)
  have HN2 := Lib.hid (fun W => frnum s 2 2 (by decide) (by omega) hs W)
  have HN6 := Lib.hid (fun W => frnum s 6 2 (by decide) (by omega) hs W)
  have b0 := nAt_bd (a := 0) (k := 1) (by rw [byt_len]; omega) (byt_by s)
  have b2 := nAt_bd (a := 2) (k := 2) (by rw [byt_len]; omega) (byt_by s)
  have b6 := nAt_bd (a := 6) (k := 2) (by rw [byt_len]; omega) (byt_by s)
  have p1 : (256 : Int) ^ 1 = 256 := by decide
  have p2 : (256 : Int) ^ 2 = 65536 := by decide
  rw [p1] at b0
  rw [p2] at b2 b6
  have hf1 : nAt (byt s) 0 1 = f1N s := rfl
  have hT0 : ((tlN s : Nat) : Int) = nAt (byt s) 2 2 := by unfold tlN; omega
  have hP0 : nAt (byt s) 6 2 = ptN s := rfl
  have hsI : (s.size : Int) ≤ 140737488355328 := by omega
  have hI : ¬ (s.size : Int) < 20 := by omega
  rw [hf1] at HN0 b0
  rw [← hT0] at HN2 b2
  rw [hP0] at HN6 b6
  have HX := Lib.hid (show tkR s = (noPk, 52) by unfold tkR; rw [if_neg (show ¬ s.size < 20 by omega), if_neg h1, if_neg h2, if_pos h3])
  have hHe0 : 4 * (f1N s - 64) = ((hdL s : Nat) : Int) := by unfold hdL; omega
  obtain ⟨H, hH⟩ : ∃ H, hdL s = H := ⟨_, rfl⟩
  obtain ⟨F1, hF1⟩ : ∃ F, f1N s = F := ⟨_, rfl⟩
  rw [hH, hF1] at hHe0
  have hHe : 4 * (F1 - 64) = (H : Int) := hHe0
  rw [hF1] at HN0 b0 h1
  have hf69 : ¬ F1 < 69 := by omega
  have hf79 : ¬ 79 < F1 := by omega
  rw [hH] at h2 h3
  have hH20 : 20 ≤ H := by omega
  have hH60 : H ≤ 60 := by omega
  obtain ⟨E, hE⟩ : ∃ E, s.extract 0 H = E := ⟨_, rfl⟩
  have hEs : E.size = H := by rw [← hE, ByteArray.size_extract]; omega
  have bE : byt E = (byt s).take H := by rw [← hE, byt_ext, List.drop_zero]
  have hcv := fun W => conv_bytes W E
  rw [hEs] at hcv
  have HRI := Lib.hid (fun W => bytesWorld_ri W E)
  have HBW := Lib.hid (fun W => bytesWorld_below W E)
  rw [hEs, bE] at HRI
  have HSm := Lib.hid (fun (W : World) (A : Option Addr) (c : Nat) (hz : RI .u8 W W.heap.size A H ((byt s).take H)) => refSum_any W W.heap.size A H c _ hz (Nat.le_refl _) (by omega))
  have hc : ¬ (s.size : Int) < (H : Int) := by omega
  have hc2 : (H : Int) ≤ s.size := by omega
  obtain ⟨SM, hSM⟩ : ∃ x, fo (tot 0 ((byt s).take H)) = x := ⟨_, rfl⟩
  rw [hSM] at HSm h3
  have hne : (SM == 65535) = false := by simpa using h3
  clear b0 b2 b6 p1 p2 hf1 hT0 hP0 hF1 h1 h0 hs HN2 HN6 hsI h2 hHe0 hH hH20 hH60 hEs bE hSM h3
  go_enter Try.func12, Try.ntmps12
  go_wp2_with fail
  refine Calls.mono (HN0.out _) ?_
  rintro e w1 ⟨rfl, hb⟩
  have K1 := Lib.hid (K0.out.below hb K0.out.lt)
  have L1 := Lib.hid (L0.out.trans (hb.mono L0.out.size))
  clear hb
  go_wp2_with fail
  refine Calls.mono (HSm.out _ _ _ (HRI.out w1)) ?_
  rintro e w2 ⟨rfl, hb⟩
  have K1b := K1.out.below (HBW.out w1) K1.out.lt
  have K2 := Lib.hid (K1b.below hb K1b.lt)
  have L1b := L1.out.trans ((HBW.out w1).mono L1.out.size)
  have L2 := Lib.hid (L1b.trans (hb.mono L1b.size))
  clear hb K1b L1b hcv hE
  go_wp2_with (with_reducible refine wpList_st15 rfl (.tmp 2) (.tmp 38) rfl w.heap.size #[.int .i64 0, .int .i64 0, .bool false, .bool false, .int .i64 0, .int .i64 0, .int .i64 0, .bool false, .int .u64 0, .int .u64 0, .bool false, .int .u64 0, .int .u64 0, .string ⟨#[]⟩, .string ⟨#[]⟩] #[.int .i64 0, .int .i64 0, .bool false, .bool false, .int .i64 0, .int .i64 0, .int .i64 0, .bool false, .int .u64 0, .int .u64 0, .bool false, .int .u64 0, .int .u64 0, .string ⟨#[]⟩, .string ⟨#[]⟩] rfl rfl K2.out HZ.out.1 HZ.out.1 HZ.out.2 ?_; intro w6 hk6 hb6; have HK6 := Lib.hid hk6; have HL6 := Lib.hid (L2.out.trans hb6); clear hk6 hb6)
  obtain ⟨g0, g1, g2, g3, g4, g5, g6, g7, g8, g9, g10, g11, g12, g13, g14⟩ := HK6.out.e15
  exact bodyPost_ret (v := .tuple #[noPk.val, .int .i64 52]) (by simp [results, Try.results12, go_sem, g0, g1, g2, g3, g4, g5, g6, g7, g8, g9, g10, g11, g12, g13, g14]) rfl ⟨by unfold tkRV; rw [HX.out], HL6.out⟩
set_option maxRecDepth 100000 in
set_option maxHeartbeats 4000000 in
theorem frtk_4 (s : ByteArray) (hs : s.size ≤ 140737488355328) (h0 : 20 ≤ s.size) (h1 : ¬ (f1N s < 69 ∨ 79 < f1N s)) (h2 : ¬ s.size < hdL s) (h3 : ¬ fo (tot 0 ((byt s).take (hdL s))) ≠ 65535) (h4 : tlN s < hdL s ∨ 32768 ≤ ptN s) (w : World) :
    Calls Try.prog 12 #[.string s] w fun e w' => e = .returned (tkRV s) ∧ Below w.heap.size w w' := by
  have HZ : Hid ((#[.int .i64 0, .int .i64 0, .bool false, .bool false, .int .i64 0, .int .i64 0, .int .i64 0, .bool false, .int .u64 0, .int .u64 0, .bool false, .int .u64 0, .int .u64 0, .string ⟨#[]⟩, .string ⟨#[]⟩] : Array Value).size = 15 ∧ (#[.int .i64 0, .int .i64 0, .bool false, .bool false, .int .i64 0, .int .i64 0, .int .i64 0, .bool false, .int .u64 0, .int .u64 0, .bool false, .int .u64 0, .int .u64 0, .string ⟨#[]⟩, .string ⟨#[]⟩] : Array Value).all (·.oneCell') = true) := Lib.hid ⟨rfl, by simp [Value.oneCell']⟩
  have K0 := Lib.hid (Blk.new w 27 #[.int .i64 0, .int .i64 0, .bool false, .bool false, .int .i64 0, .int .i64 0, .int .i64 0, .bool false, .int .u64 0, .int .u64 0, .bool false, .int .u64 0, .int .u64 0, .string ⟨#[]⟩, .string ⟨#[]⟩])
  have L0 := Lib.hid ((Below.refl _ w).alloc (Nat.le_refl _) (.cells #[.int .i64 0, .int .i64 0, .bool false, .bool false, .int .i64 0, .int .i64 0, .int .i64 0, .bool false, .int .u64 0, .int .u64 0, .bool false, .int .u64 0, .int .u64 0, .string ⟨#[]⟩, .string ⟨#[]⟩] 27))
  have HN0 := Lib.hid (fun W => frnum s 0 1 (by decide) (by omega) hs W)
  have HN2 := Lib.hid (fun W => frnum s 2 2 (by decide) (by omega) hs W)
  have HN6 := Lib.hid (fun W => frnum s 6 2 (by decide) (by omega) hs W)
  have b0 := nAt_bd (a := 0) (k := 1) (by rw [byt_len]; omega) (byt_by s)
  have b2 := nAt_bd (a := 2) (k := 2) (by rw [byt_len]; omega) (byt_by s)
  have b6 := nAt_bd (a := 6) (k := 2) (by rw [byt_len]; omega) (byt_by s)
  have p1 : (256 : Int) ^ 1 = 256 := by decide
  have p2 : (256 : Int) ^ 2 = 65536 := by decide
  rw [p1] at b0
  rw [p2] at b2 b6
  have hf1 : nAt (byt s) 0 1 = f1N s := rfl
  have hT0 : ((tlN s : Nat) : Int) = nAt (byt s) 2 2 := by unfold tlN; omega
  have hP0 : nAt (byt s) 6 2 = ptN s := rfl
  have hsI : (s.size : Int) ≤ 140737488355328 := by omega
  have hI : ¬ (s.size : Int) < 20 := by omega
  rw [hf1] at HN0 b0
  rw [← hT0] at HN2 b2
  rw [hP0] at HN6 b6
  have HX := Lib.hid (show tkR s = (noPk, 50) by unfold tkR; rw [if_neg (show ¬ s.size < 20 by omega), if_neg h1, if_neg h2, if_neg h3, if_pos h4])
  have hHe0 : 4 * (f1N s - 64) = ((hdL s : Nat) : Int) := by unfold hdL; omega
  obtain ⟨H, hH⟩ : ∃ H, hdL s = H := ⟨_, rfl⟩
  obtain ⟨F1, hF1⟩ : ∃ F, f1N s = F := ⟨_, rfl⟩
  rw [hH, hF1] at hHe0
  have hHe : 4 * (F1 - 64) = (H : Int) := hHe0
  rw [hF1] at HN0 b0 h1
  have hf69 : ¬ F1 < 69 := by omega
  have hf79 : ¬ 79 < F1 := by omega
  rw [hH] at h2 h3 h4
  have hH20 : 20 ≤ H := by omega
  have hH60 : H ≤ 60 := by omega
  obtain ⟨E, hE⟩ : ∃ E, s.extract 0 H = E := ⟨_, rfl⟩
  have hEs : E.size = H := by rw [← hE, ByteArray.size_extract]; omega
  have bE : byt E = (byt s).take H := by rw [← hE, byt_ext, List.drop_zero]
  have hcv := fun W => conv_bytes W E
  rw [hEs] at hcv
  have HRI := Lib.hid (fun W => bytesWorld_ri W E)
  have HBW := Lib.hid (fun W => bytesWorld_below W E)
  rw [hEs, bE] at HRI
  have HSm := Lib.hid (fun (W : World) (A : Option Addr) (c : Nat) (hz : RI .u8 W W.heap.size A H ((byt s).take H)) => refSum_any W W.heap.size A H c _ hz (Nat.le_refl _) (by omega))
  obtain ⟨TT, hTT⟩ : ∃ T, tlN s = T := ⟨_, rfl⟩
  obtain ⟨PT, hPT⟩ : ∃ P, ptN s = P := ⟨_, rfl⟩
  rw [hTT] at HN2 h4 b2
  rw [hPT] at HN6 h4 b6
  have hc : ¬ (s.size : Int) < (H : Int) := by omega
  have hc2 : (H : Int) ≤ s.size := by omega
  have h3' : fo (tot 0 ((byt s).take H)) = 65535 := by simpa using h3
  rw [h3'] at HSm
  have hcs : (TT : Int) < H ∨ (¬ (TT : Int) < H ∧ 32768 ≤ PT) := by omega
  have hT9 : (TT : Int) ≤ 70000 := by omega
  clear b0 b2 b6 p1 p2 hf1 hT0 hP0 hF1 h1 h0 hs hsI h2 hHe0 hH hH20 hH60 hEs bE h3 h3' hTT hPT h4
  rcases hcs with hcs | ⟨hcs, hcs2⟩
  · go_enter Try.func12, Try.ntmps12
    go_wp2_with fail
    refine Calls.mono (HN0.out _) ?_
    rintro e w1 ⟨rfl, hb⟩
    have K1 := Lib.hid (K0.out.below hb K0.out.lt)
    have L1 := Lib.hid (L0.out.trans (hb.mono L0.out.size))
    clear hb
    go_wp2_with fail
    refine Calls.mono (HSm.out _ _ _ (HRI.out w1)) ?_
    rintro e w2 ⟨rfl, hb⟩
    have K1b := K1.out.below (HBW.out w1) K1.out.lt
    have K2 := Lib.hid (K1b.below hb K1b.lt)
    have L1b := L1.out.trans ((HBW.out w1).mono L1.out.size)
    have L2 := Lib.hid (L1b.trans (hb.mono L1b.size))
    clear hb K1b L1b hcv hE
    go_wp2_with fail
    refine Calls.mono (HN2.out _) ?_
    rintro e w3 ⟨rfl, hb⟩
    have K3 := Lib.hid (K2.out.below hb K2.out.lt)
    have L3 := Lib.hid (L2.out.trans (hb.mono L2.out.size))
    clear hb
    go_wp2_with fail
    refine Calls.mono (HN6.out _) ?_
    rintro e w4 ⟨rfl, hb⟩
    have K4 := Lib.hid (K3.out.below hb K3.out.lt)
    have L4 := Lib.hid (L3.out.trans (hb.mono L3.out.size))
    clear hb
    go_wp2_with (with_reducible refine wpList_st15 rfl (.tmp 2) (.tmp 50) rfl w.heap.size #[.int .i64 0, .int .i64 0, .bool false, .bool false, .int .i64 0, .int .i64 0, .int .i64 0, .bool false, .int .u64 0, .int .u64 0, .bool false, .int .u64 0, .int .u64 0, .string ⟨#[]⟩, .string ⟨#[]⟩] #[.int .i64 0, .int .i64 0, .bool false, .bool false, .int .i64 0, .int .i64 0, .int .i64 0, .bool false, .int .u64 0, .int .u64 0, .bool false, .int .u64 0, .int .u64 0, .string ⟨#[]⟩, .string ⟨#[]⟩] rfl rfl K4.out HZ.out.1 HZ.out.1 HZ.out.2 ?_; intro w6 hk6 hb6; have HK6 := Lib.hid hk6; have HL6 := Lib.hid (L4.out.trans hb6); clear hk6 hb6)
    obtain ⟨g0, g1, g2, g3, g4, g5, g6, g7, g8, g9, g10, g11, g12, g13, g14⟩ := HK6.out.e15
    exact bodyPost_ret (v := .tuple #[noPk.val, .int .i64 50]) (by simp [results, Try.results12, go_sem, g0, g1, g2, g3, g4, g5, g6, g7, g8, g9, g10, g11, g12, g13, g14]) rfl ⟨by unfold tkRV; rw [HX.out], HL6.out⟩
  · go_enter Try.func12, Try.ntmps12
    go_wp2_with fail
    refine Calls.mono (HN0.out _) ?_
    rintro e w1 ⟨rfl, hb⟩
    have K1 := Lib.hid (K0.out.below hb K0.out.lt)
    have L1 := Lib.hid (L0.out.trans (hb.mono L0.out.size))
    clear hb
    go_wp2_with fail
    refine Calls.mono (HSm.out _ _ _ (HRI.out w1)) ?_
    rintro e w2 ⟨rfl, hb⟩
    have K1b := K1.out.below (HBW.out w1) K1.out.lt
    have K2 := Lib.hid (K1b.below hb K1b.lt)
    have L1b := L1.out.trans ((HBW.out w1).mono L1.out.size)
    have L2 := Lib.hid (L1b.trans (hb.mono L1b.size))
    clear hb K1b L1b hcv hE
    go_wp2_with fail
    refine Calls.mono (HN2.out _) ?_
    rintro e w3 ⟨rfl, hb⟩
    have K3 := Lib.hid (K2.out.below hb K2.out.lt)
    have L3 := Lib.hid (L2.out.trans (hb.mono L2.out.size))
    clear hb
    go_wp2_with fail
    refine Calls.mono (HN6.out _) ?_
    rintro e w4 ⟨rfl, hb⟩
    have K4 := Lib.hid (K3.out.below hb K3.out.lt)
    have L4 := Lib.hid (L3.out.trans (hb.mono L3.out.size))
    clear hb
    go_wp2_with (with_reducible refine wpList_st15 rfl (.tmp 2) (.tmp 50) rfl w.heap.size #[.int .i64 0, .int .i64 0, .bool false, .bool false, .int .i64 0, .int .i64 0, .int .i64 0, .bool false, .int .u64 0, .int .u64 0, .bool false, .int .u64 0, .int .u64 0, .string ⟨#[]⟩, .string ⟨#[]⟩] #[.int .i64 0, .int .i64 0, .bool false, .bool false, .int .i64 0, .int .i64 0, .int .i64 0, .bool false, .int .u64 0, .int .u64 0, .bool false, .int .u64 0, .int .u64 0, .string ⟨#[]⟩, .string ⟨#[]⟩] rfl rfl K4.out HZ.out.1 HZ.out.1 HZ.out.2 ?_; intro w6 hk6 hb6; have HK6 := Lib.hid hk6; have HL6 := Lib.hid (L4.out.trans hb6); clear hk6 hb6)
    obtain ⟨g0, g1, g2, g3, g4, g5, g6, g7, g8, g9, g10, g11, g12, g13, g14⟩ := HK6.out.e15
    exact bodyPost_ret (v := .tuple #[noPk.val, .int .i64 50]) (by simp [results, Try.results12, go_sem, g0, g1, g2, g3, g4, g5, g6, g7, g8, g9, g10, g11, g12, g13, g14]) rfl ⟨by unfold tkRV; rw [HX.out], HL6.out⟩
set_option maxRecDepth 100000 in
set_option maxHeartbeats 4000000 in
theorem frtk_5 (s : ByteArray) (hs : s.size ≤ 140737488355328) (h0 : 20 ≤ s.size) (h1 : ¬ (f1N s < 69 ∨ 79 < f1N s)) (h2 : ¬ s.size < hdL s) (h3 : ¬ fo (tot 0 ((byt s).take (hdL s))) ≠ 65535) (h4 : ¬ (tlN s < hdL s ∨ 32768 ≤ ptN s)) (h5 : s.size < tlN s) (w : World) :
    Calls Try.prog 12 #[.string s] w fun e w' => e = .returned (tkRV s) ∧ Below w.heap.size w w' := by
  have HZ : Hid ((#[.int .i64 0, .int .i64 0, .bool false, .bool false, .int .i64 0, .int .i64 0, .int .i64 0, .bool false, .int .u64 0, .int .u64 0, .bool false, .int .u64 0, .int .u64 0, .string ⟨#[]⟩, .string ⟨#[]⟩] : Array Value).size = 15 ∧ (#[.int .i64 0, .int .i64 0, .bool false, .bool false, .int .i64 0, .int .i64 0, .int .i64 0, .bool false, .int .u64 0, .int .u64 0, .bool false, .int .u64 0, .int .u64 0, .string ⟨#[]⟩, .string ⟨#[]⟩] : Array Value).all (·.oneCell') = true) := Lib.hid ⟨rfl, by simp [Value.oneCell']⟩
  have K0 := Lib.hid (Blk.new w 27 #[.int .i64 0, .int .i64 0, .bool false, .bool false, .int .i64 0, .int .i64 0, .int .i64 0, .bool false, .int .u64 0, .int .u64 0, .bool false, .int .u64 0, .int .u64 0, .string ⟨#[]⟩, .string ⟨#[]⟩])
  have L0 := Lib.hid ((Below.refl _ w).alloc (Nat.le_refl _) (.cells #[.int .i64 0, .int .i64 0, .bool false, .bool false, .int .i64 0, .int .i64 0, .int .i64 0, .bool false, .int .u64 0, .int .u64 0, .bool false, .int .u64 0, .int .u64 0, .string ⟨#[]⟩, .string ⟨#[]⟩] 27))
  have HN0 := Lib.hid (fun W => frnum s 0 1 (by decide) (by omega) hs W)
  have HN2 := Lib.hid (fun W => frnum s 2 2 (by decide) (by omega) hs W)
  have HN6 := Lib.hid (fun W => frnum s 6 2 (by decide) (by omega) hs W)
  have b0 := nAt_bd (a := 0) (k := 1) (by rw [byt_len]; omega) (byt_by s)
  have b2 := nAt_bd (a := 2) (k := 2) (by rw [byt_len]; omega) (byt_by s)
  have b6 := nAt_bd (a := 6) (k := 2) (by rw [byt_len]; omega) (byt_by s)
  have p1 : (256 : Int) ^ 1 = 256 := by decide
  have p2 : (256 : Int) ^ 2 = 65536 := by decide
  rw [p1] at b0
  rw [p2] at b2 b6
  have hf1 : nAt (byt s) 0 1 = f1N s := rfl
  have hT0 : ((tlN s : Nat) : Int) = nAt (byt s) 2 2 := by unfold tlN; omega
  have hP0 : nAt (byt s) 6 2 = ptN s := rfl
  have hsI : (s.size : Int) ≤ 140737488355328 := by omega
  have hI : ¬ (s.size : Int) < 20 := by omega
  rw [hf1] at HN0 b0
  rw [← hT0] at HN2 b2
  rw [hP0] at HN6 b6
  have HX := Lib.hid (show tkR s = (noPk, 51) by unfold tkR; rw [if_neg (show ¬ s.size < 20 by omega), if_neg h1, if_neg h2, if_neg h3, if_neg h4, if_pos h5])
  have hHe0 : 4 * (f1N s - 64) = ((hdL s : Nat) : Int) := by unfold hdL; omega
  obtain ⟨H, hH⟩ : ∃ H, hdL s = H := ⟨_, rfl⟩
  obtain ⟨F1, hF1⟩ : ∃ F, f1N s = F := ⟨_, rfl⟩
  rw [hH, hF1] at hHe0
  have hHe : 4 * (F1 - 64) = (H : Int) := hHe0
  rw [hF1] at HN0 b0 h1
  have hf69 : ¬ F1 < 69 := by omega
  have hf79 : ¬ 79 < F1 := by omega
  rw [hH] at h2 h3 h4
  have hH20 : 20 ≤ H := by omega
  have hH60 : H ≤ 60 := by omega
  obtain ⟨E, hE⟩ : ∃ E, s.extract 0 H = E := ⟨_, rfl⟩
  have hEs : E.size = H := by rw [← hE, ByteArray.size_extract]; omega
  have bE : byt E = (byt s).take H := by rw [← hE, byt_ext, List.drop_zero]
  have hcv := fun W => conv_bytes W E
  rw [hEs] at hcv
  have HRI := Lib.hid (fun W => bytesWorld_ri W E)
  have HBW := Lib.hid (fun W => bytesWorld_below W E)
  rw [hEs, bE] at HRI
  have HSm := Lib.hid (fun (W : World) (A : Option Addr) (c : Nat) (hz : RI .u8 W W.heap.size A H ((byt s).take H)) => refSum_any W W.heap.size A H c _ hz (Nat.le_refl _) (by omega))
  obtain ⟨TT, hTT⟩ : ∃ T, tlN s = T := ⟨_, rfl⟩
  obtain ⟨PT, hPT⟩ : ∃ P, ptN s = P := ⟨_, rfl⟩
  rw [hTT] at HN2 h4 h5 b2
  rw [hPT] at HN6 h4 b6
  have hc : ¬ (s.size : Int) < (H : Int) := by omega
  have hc2 : (H : Int) ≤ s.size := by omega
  have h3' : fo (tot 0 ((byt s).take H)) = 65535 := by simpa using h3
  rw [h3'] at HSm
  have hcs : ¬ (TT : Int) < H := by omega
  have hcs2 : ¬ 32768 ≤ PT := by omega
  have hcs3 : (s.size : Int) < TT := by omega
  have hT9 : (TT : Int) ≤ 70000 := by omega
  clear b0 b2 b6 p1 p2 hf1 hT0 hP0 hF1 h1 h0 hs hsI h2 hHe0 hH hH20 hH60 hEs bE h3 h3' hTT hPT h4 h5
  go_enter Try.func12, Try.ntmps12
  go_wp2_with fail
  refine Calls.mono (HN0.out _) ?_
  rintro e w1 ⟨rfl, hb⟩
  have K1 := Lib.hid (K0.out.below hb K0.out.lt)
  have L1 := Lib.hid (L0.out.trans (hb.mono L0.out.size))
  clear hb
  go_wp2_with fail
  refine Calls.mono (HSm.out _ _ _ (HRI.out w1)) ?_
  rintro e w2 ⟨rfl, hb⟩
  have K1b := K1.out.below (HBW.out w1) K1.out.lt
  have K2 := Lib.hid (K1b.below hb K1b.lt)
  have L1b := L1.out.trans ((HBW.out w1).mono L1.out.size)
  have L2 := Lib.hid (L1b.trans (hb.mono L1b.size))
  clear hb K1b L1b hcv hE
  go_wp2_with fail
  refine Calls.mono (HN2.out _) ?_
  rintro e w3 ⟨rfl, hb⟩
  have K3 := Lib.hid (K2.out.below hb K2.out.lt)
  have L3 := Lib.hid (L2.out.trans (hb.mono L2.out.size))
  clear hb
  go_wp2_with fail
  refine Calls.mono (HN6.out _) ?_
  rintro e w4 ⟨rfl, hb⟩
  have K4 := Lib.hid (K3.out.below hb K3.out.lt)
  have L4 := Lib.hid (L3.out.trans (hb.mono L3.out.size))
  clear hb
  go_wp2_with (with_reducible refine wpList_st15 rfl (.tmp 2) (.tmp 55) rfl w.heap.size #[.int .i64 0, .int .i64 0, .bool false, .bool false, .int .i64 0, .int .i64 0, .int .i64 0, .bool false, .int .u64 0, .int .u64 0, .bool false, .int .u64 0, .int .u64 0, .string ⟨#[]⟩, .string ⟨#[]⟩] #[.int .i64 0, .int .i64 0, .bool false, .bool false, .int .i64 0, .int .i64 0, .int .i64 0, .bool false, .int .u64 0, .int .u64 0, .bool false, .int .u64 0, .int .u64 0, .string ⟨#[]⟩, .string ⟨#[]⟩] rfl rfl K4.out HZ.out.1 HZ.out.1 HZ.out.2 ?_; intro w6 hk6 hb6; have HK6 := Lib.hid hk6; have HL6 := Lib.hid (L4.out.trans hb6); clear hk6 hb6)
  obtain ⟨g0, g1, g2, g3, g4, g5, g6, g7, g8, g9, g10, g11, g12, g13, g14⟩ := HK6.out.e15
  exact bodyPost_ret (v := .tuple #[noPk.val, .int .i64 51]) (by simp [results, Try.results12, go_sem, g0, g1, g2, g3, g4, g5, g6, g7, g8, g9, g10, g11, g12, g13, g14]) rfl ⟨by unfold tkRV; rw [HX.out], HL6.out⟩
end Go.Proofs.Ytbhddodghbhjiaa
