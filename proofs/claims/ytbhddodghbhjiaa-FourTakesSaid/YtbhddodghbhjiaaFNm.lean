/-
  ip4.words and ip4.numbers.
-/
import Derived.Test.YtbhddodghbhjiaaFSz
import Derived.Laws.Shifts
namespace Go.Proofs.Ytbhddodghbhjiaa
open Go.RowKit
set_option linter.unusedVariables false

set_option maxHeartbeats 1000000 in
theorem words_any (A : Option Addr) (n c : Nat) (W : World) (B1 B2 B3 : Nat) (q1 : W.heap.size = B1) (q2 : B1 + 1 = B2) (q3 : B1 + 2 = B3) :
    Calls Try.prog 62 #[.slice A n c] W fun e w' => e = .returned (.func (.func 85) #[] #[.pointer (some ⟨B1, 0, none⟩), .pointer (some ⟨B2, 0, none⟩)]) ∧
      Blk w' B1 61 #[.slice A n c] ∧ Blk w' B2 3 #[.int .i64 0] ∧ Below B1 W w' ∧ w'.heap.size = B3 := by
  subst q1 q2 q3
  have h1 := (Blk.new W 61 #[.slice A n c]).alloc (.cells #[.int .i64 0] 3)
  have h2 := Blk.new (W.alloc (.cells #[.slice A n c] 61)) 3 #[.int .i64 0]
  rw [World.size_alloc] at h2
  have h3 : Below W.heap.size W ((W.alloc (.cells #[.slice A n c] 61)).alloc (.cells #[.int .i64 0] 3)) := ((Below.refl _ W).alloc (Nat.le_refl _) _).alloc (by simp) _
  have H1 := Lib.hid h1
  have H2 := Lib.hid h2
  have H3 := Lib.hid h3
  clear h1 h2 h3
  go_enter Try.func62, Try.ntmps62
  go_wp2
  go_ret
  first
    | exact ⟨rfl, H1.out, H2.out, H3.out, by simp⟩
    | exact ⟨rfl, H1.out.far (by simp) _, by simpa using H2.out.set_ 0 (.int .i64 0), H3.out.setCell (by simp) _, by simp [World.setCell]⟩

/-- The numbers of a header. -/
def nmP (zs : List Int) : Pk := ⟨nAt zs 1 1, nAt zs 4 2, decide (nAt zs 6 2 / 16384 % 2 = 1), decide (nAt zs 6 2 / 8192 % 2 = 1), nAt zs 6 2 % 8192, nAt zs 8 1, nAt zs 9 1, false, 0, nAt zs 12 4, false, 0, nAt zs 16 4, ⟨#[]⟩, ⟨#[]⟩⟩
set_option maxRecDepth 100000 in
set_option maxHeartbeats 8000000 in
theorem numbers_any (A : Option Addr) (n c : Nat) (zs : List Int) (hn0 : 20 ≤ n) (hn : n ≤ 100) (w : World) (h : RI .u8 w w.heap.size A n zs) :
    Calls Try.prog 34 #[.slice A n c] w fun e w' => e = .returned (.tuple #[(nmP zs).val, .int .i64 (nAt zs 2 2), .bool (decide (32768 ≤ nAt zs 6 2))]) ∧ Below w.heap.size w w' := by
  have hl : zs.length = n := h.1
  have hby := h.by_
  have p2 : (256 : Int) ^ 2 = 65536 := by decide
  have b0 := nAt_bd (l := zs) (a := 0) (k := 2) (by omega) hby
  have b1 := nAt_bd (l := zs) (a := 2) (k := 2) (by omega) hby
  have b3 := nAt_bd (l := zs) (a := 6) (k := 2) (by omega) hby
  have b4 := nAt_bd (l := zs) (a := 8) (k := 2) (by omega) hby
  rw [p2] at b0 b1 b3 b4
  have c0 := (nAt_low (l := zs) (a := 0) (by omega) hby).1
  have c4 := nAt_low (l := zs) (a := 8) (by omega) hby
  have HW := Lib.hid (fun W q => words_any A n c W (w.heap.size + 1) (w.heap.size + 2) (w.heap.size + 3) q rfl rfl)
  have HH := Lib.hid h
  have H0 := Lib.hid (fun cs W h => word_any w A n c zs cs 0 (by omega) hn W h)
  have H1 := Lib.hid (fun cs W h => word_any w A n c zs cs 2 (by omega) hn W h)
  have H2 := Lib.hid (fun cs W h => word_any w A n c zs cs 4 (by omega) hn W h)
  have H3 := Lib.hid (fun cs W h => word_any w A n c zs cs 6 (by omega) hn W h)
  have H4 := Lib.hid (fun cs W h => word_any w A n c zs cs 8 (by omega) hn W h)
  have H5 := Lib.hid (fun cs W h => word_any w A n c zs cs 10 (by omega) hn W h)
  have HA := Lib.hid (fun cs W h => addr_any w A n c zs cs 12 (by omega) hn W h)
  have HB := Lib.hid (fun cs W h => addr_any w A n c zs cs 16 (by omega) hn W h)
  obtain ⟨X0, hX0⟩ : ∃ X, nAt zs 0 2 = X := ⟨_, rfl⟩
  rw [hX0] at H0
  obtain ⟨X1, hX1⟩ : ∃ X, nAt zs 2 2 = X := ⟨_, rfl⟩
  rw [hX1] at H1
  obtain ⟨X2, hX2⟩ : ∃ X, nAt zs 4 2 = X := ⟨_, rfl⟩
  rw [hX2] at H2
  obtain ⟨X3, hX3⟩ : ∃ X, nAt zs 6 2 = X := ⟨_, rfl⟩
  rw [hX3] at H3
  obtain ⟨X4, hX4⟩ : ∃ X, nAt zs 8 2 = X := ⟨_, rfl⟩
  rw [hX4] at H4
  obtain ⟨X5, hX5⟩ : ∃ X, nAt zs 10 2 = X := ⟨_, rfl⟩
  rw [hX5] at H5
  obtain ⟨LA, hLA⟩ : ∃ X, nAt zs 12 4 = X := ⟨_, rfl⟩
  rw [hLA] at HA
  obtain ⟨LB, hLB⟩ : ∃ X, nAt zs 16 4 = X := ⟨_, rfl⟩
  rw [hLB] at HB
  rw [hX0] at b0 c0
  rw [hX1] at b1
  rw [hX3] at b3
  rw [hX4] at b4 c4
  have a0 := and_255 X0 b0.1 b0.2
  have a3 := and_16384 X3 b3.1 b3.2
  have a3b := and_8192 X3 b3.1 b3.2
  have a3c := and_8191 X3 b3.1 b3.2
  have a3d := and_32768 X3 b3.1 b3.2
  have a4 := and_255 X4 b4.1 b4.2
  rw [c0] at a0
  rw [c4.1] at a4
  have s4 : X4 / 256 = nAt zs 8 1 := c4.2
  obtain ⟨TOS, hTOS⟩ : ∃ X, nAt zs (0 + 1) 1 = X := ⟨_, rfl⟩
  obtain ⟨PRO, hPRO⟩ : ∃ X, nAt zs (8 + 1) 1 = X := ⟨_, rfl⟩
  obtain ⟨TTL, hTTL⟩ : ∃ X, nAt zs 8 1 = X := ⟨_, rfl⟩
  rw [hTOS] at a0
  rw [hPRO] at a4
  rw [hTTL] at s4
  obtain ⟨x30, x31⟩ := b3
  obtain ⟨x40, x41⟩ := b4
  obtain ⟨DF, hDF⟩ : ∃ D : Bool, (bits .and .i64 X3 16384 != 0) = D := ⟨_, rfl⟩
  obtain ⟨MF, hMF⟩ : ∃ D : Bool, (bits .and .i64 X3 8192 != 0) = D := ⟨_, rfl⟩
  obtain ⟨OD, hOD⟩ : ∃ D : Bool, (bits .and .i64 X3 32768 != 0) = D := ⟨_, rfl⟩
  have q0 : (nmP zs) = ⟨TOS, X2, DF, MF, X3 % 8192, TTL, PRO, false, 0, LA, false, 0, LB, ⟨#[]⟩, ⟨#[]⟩⟩ := by
    have e1 : DF = decide (X3 / 16384 % 2 = 1) := by rw [← hDF, a3]; rcases (show X3 / 16384 % 2 = 0 ∨ X3 / 16384 % 2 = 1 by omega) with h | h <;> rw [h] <;> rfl
    have e2 : MF = decide (X3 / 8192 % 2 = 1) := by rw [← hMF, a3b]; rcases (show X3 / 8192 % 2 = 0 ∨ X3 / 8192 % 2 = 1 by omega) with h | h <;> rw [h] <;> rfl
    unfold nmP
    rw [hX3, hX2, hLA, hLB, hTTL, e1, e2]
    rw [← hTOS, ← hPRO]
  have q1 : OD = decide (32768 ≤ X3) := by
    rw [← hOD, a3d]
    rcases (show X3 / 32768 % 2 = 0 ∨ X3 / 32768 % 2 = 1 by omega) with h | h
    · rw [h]
      have : ¬ 32768 ≤ X3 := by omega
      simp [this]
    · rw [h]
      have : 32768 ≤ X3 := by omega
      simp [this]
  rw [q0, hX1, hX3, ← q1]
  obtain ⟨E1, hE1⟩ : ∃ E, bits .and .i64 X3 16384 = E := ⟨_, rfl⟩
  obtain ⟨E2, hE2⟩ : ∃ E, bits .and .i64 X3 8192 = E := ⟨_, rfl⟩
  obtain ⟨E3, hE3⟩ : ∃ E, bits .and .i64 X3 32768 = E := ⟨_, rfl⟩
  rw [hE1] at hDF
  rw [hE2] at hMF
  rw [hE3] at hOD
  obtain ⟨OFF, hOFF⟩ : ∃ X, X3 % 8192 = X := ⟨_, rfl⟩
  rw [hOFF] at a3c ⊢
  clear a3 a3b a3d q0 q1 c0 c4 hl hby p2 h hX0 hX1 hX2 hX3 hX4 hX5 hLA hLB hTOS hPRO hTTL hOFF
  have K0 := Blk.new w 27 #[.int .i64 0, .int .i64 0, .bool false, .bool false, .int .i64 0, .int .i64 0, .int .i64 0, .bool false, .int .u64 0, .int .u64 0, .bool false, .int .u64 0, .int .u64 0, .string ⟨#[]⟩, .string ⟨#[]⟩]
  have L0 := Lib.hid ((Below.refl _ w).alloc (Nat.le_refl _) (.cells #[.int .i64 0, .int .i64 0, .bool false, .bool false, .int .i64 0, .int .i64 0, .int .i64 0, .bool false, .int .u64 0, .int .u64 0, .bool false, .int .u64 0, .int .u64 0, .string ⟨#[]⟩, .string ⟨#[]⟩] 27))
  have HK0 := Lib.hid K0
  have hsf : ∀ (a : Addr) (m : Mode) (fn : Fn) (x y : Array Value) (W : World), (store a (.func fn x y) m).run Try.prog W = stored Try.prog W a (.func fn x y) m := fun a m fn x y W => run_store _ W a _ m rfl
  clear K0
  go_enter Try.func34, Try.ntmps34
  go_wp2_with fail
  refine Calls.mono (HW.out _ (World.size_alloc _ _)) ?_
  rintro e w1 ⟨rfl, hb1, hb2, hb, hz⟩
  have N0 : NS w A n c zs #[.int .i64 0, .int .i64 0, .bool false, .bool false, .int .i64 0, .int .i64 0, .int .i64 0, .bool false, .int .u64 0, .int .u64 0, .bool false, .int .u64 0, .int .u64 0, .string ⟨#[]⟩, .string ⟨#[]⟩] 0 (w1.alloc (.cells #[(Value.func (.func 85) #[] #[.pointer (some ⟨w.heap.size + 1, 0, none⟩), .pointer (some ⟨w.heap.size + 2, 0, none⟩)])] 90)) := by
    have lb : Below w.heap.size w (w1.alloc (.cells #[(Value.func (.func 85) #[] #[.pointer (some ⟨w.heap.size + 1, 0, none⟩), .pointer (some ⟨w.heap.size + 2, 0, none⟩)])] 90)) := (L0.out.trans (hb.mono (by omega))).alloc (by omega) _
    refine ⟨(HK0.out.below hb (by omega)).alloc _, hb1.alloc _, hb2.alloc _, ?_, HH.out.below lb, lb⟩
    have := Blk.new w1 90 #[(Value.func (.func 85) #[] #[.pointer (some ⟨w.heap.size + 1, 0, none⟩), .pointer (some ⟨w.heap.size + 2, 0, none⟩)])]
    rwa [hz] at this
  have HN := Lib.hid N0
  have HZ := Lib.hid hz
  clear N0 hb1 hb2 hb hz
  go_wp2_with fail
  rw [HZ.out]
  refine Calls.mono (H0.out _ _ HN.out) ?_
  rintro e x0 ⟨rfl, hs, -, -, -⟩
  have HM1 := Lib.hid hs
  clear hs
  have d0 := (HM1.out.2.2.2.1.cell 0).trans (show _ = some (Value.func (.func 85) #[] #[.pointer (some ⟨w.heap.size + 1, 0, none⟩), .pointer (some ⟨w.heap.size + 2, 0, none⟩)]) by rfl)
  have f0 : x0.cell? ⟨w.heap.size, 0, none⟩ = some (.int .i64 0) := by rw [HM1.out.1.cell]; rfl
  have f1 : x0.cell? ⟨w.heap.size, 1, none⟩ = some (.int .i64 0) := by rw [HM1.out.1.cell]; rfl
  have f2 : x0.cell? ⟨w.heap.size, 2, none⟩ = some (.bool false) := by rw [HM1.out.1.cell]; rfl
  have f3 : x0.cell? ⟨w.heap.size, 3, none⟩ = some (.bool false) := by rw [HM1.out.1.cell]; rfl
  have f4 : x0.cell? ⟨w.heap.size, 4, none⟩ = some (.int .i64 0) := by rw [HM1.out.1.cell]; rfl
  have f5 : x0.cell? ⟨w.heap.size, 5, none⟩ = some (.int .i64 0) := by rw [HM1.out.1.cell]; rfl
  have f6 : x0.cell? ⟨w.heap.size, 6, none⟩ = some (.int .i64 0) := by rw [HM1.out.1.cell]; rfl
  have f7 : x0.cell? ⟨w.heap.size, 7, none⟩ = some (.bool false) := by rw [HM1.out.1.cell]; rfl
  have f8 : x0.cell? ⟨w.heap.size, 8, none⟩ = some (.int .u64 0) := by rw [HM1.out.1.cell]; rfl
  have f9 : x0.cell? ⟨w.heap.size, 9, none⟩ = some (.int .u64 0) := by rw [HM1.out.1.cell]; rfl
  have f10 : x0.cell? ⟨w.heap.size, 10, none⟩ = some (.bool false) := by rw [HM1.out.1.cell]; rfl
  have f11 : x0.cell? ⟨w.heap.size, 11, none⟩ = some (.int .u64 0) := by rw [HM1.out.1.cell]; rfl
  have f12 : x0.cell? ⟨w.heap.size, 12, none⟩ = some (.int .u64 0) := by rw [HM1.out.1.cell]; rfl
  have f13 : x0.cell? ⟨w.heap.size, 13, none⟩ = some (.string ⟨#[]⟩) := by rw [HM1.out.1.cell]; rfl
  have f14 : x0.cell? ⟨w.heap.size, 14, none⟩ = some (.string ⟨#[]⟩) := by rw [HM1.out.1.cell]; rfl
  have z0 := HM1.out.1.frozen 0
  have z1 := HM1.out.1.frozen 1
  have z2 := HM1.out.1.frozen 2
  have z3 := HM1.out.1.frozen 3
  have z4 := HM1.out.1.frozen 4
  have z5 := HM1.out.1.frozen 5
  have z6 := HM1.out.1.frozen 6
  have z7 := HM1.out.1.frozen 7
  have z8 := HM1.out.1.frozen 8
  have z9 := HM1.out.1.frozen 9
  have z10 := HM1.out.1.frozen 10
  have z11 := HM1.out.1.frozen 11
  have z12 := HM1.out.1.frozen 12
  have z13 := HM1.out.1.frozen 13
  have z14 := HM1.out.1.frozen 14
  have HS1 : Hid (NS w A n c zs #[.int .i64 TOS, .int .i64 0, .bool false, .bool false, .int .i64 0, .int .i64 0, .int .i64 0, .bool false, .int .u64 0, .int .u64 0, .bool false, .int .u64 0, .int .u64 0, .string ⟨#[]⟩, .string ⟨#[]⟩] 2 (x0.setCell ⟨w.heap.size, 0, none⟩ (.int .i64 TOS))) := Lib.hid (by simpa using HM1.out.put 0 (.int .i64 TOS))
  go_wp2_with fail
  refine Calls.mono (H1.out _ _ HS1.out) ?_
  rintro e x1 ⟨rfl, hs, -, -, -⟩
  clear d0 f0 f1 f2 f3 f4 f5 f6 f7 f8 f9 f10 f11 f12 f13 f14 z0 z1 z2 z3 z4 z5 z6 z7 z8 z9 z10 z11 z12 z13 z14
  have HM2 := Lib.hid hs
  clear hs
  have d0 := (HM2.out.2.2.2.1.cell 0).trans (show _ = some (Value.func (.func 85) #[] #[.pointer (some ⟨w.heap.size + 1, 0, none⟩), .pointer (some ⟨w.heap.size + 2, 0, none⟩)]) by rfl)
  have f0 : x1.cell? ⟨w.heap.size, 0, none⟩ = some (.int .i64 TOS) := by rw [HM2.out.1.cell]; rfl
  have f1 : x1.cell? ⟨w.heap.size, 1, none⟩ = some (.int .i64 0) := by rw [HM2.out.1.cell]; rfl
  have f2 : x1.cell? ⟨w.heap.size, 2, none⟩ = some (.bool false) := by rw [HM2.out.1.cell]; rfl
  have f3 : x1.cell? ⟨w.heap.size, 3, none⟩ = some (.bool false) := by rw [HM2.out.1.cell]; rfl
  have f4 : x1.cell? ⟨w.heap.size, 4, none⟩ = some (.int .i64 0) := by rw [HM2.out.1.cell]; rfl
  have f5 : x1.cell? ⟨w.heap.size, 5, none⟩ = some (.int .i64 0) := by rw [HM2.out.1.cell]; rfl
  have f6 : x1.cell? ⟨w.heap.size, 6, none⟩ = some (.int .i64 0) := by rw [HM2.out.1.cell]; rfl
  have f7 : x1.cell? ⟨w.heap.size, 7, none⟩ = some (.bool false) := by rw [HM2.out.1.cell]; rfl
  have f8 : x1.cell? ⟨w.heap.size, 8, none⟩ = some (.int .u64 0) := by rw [HM2.out.1.cell]; rfl
  have f9 : x1.cell? ⟨w.heap.size, 9, none⟩ = some (.int .u64 0) := by rw [HM2.out.1.cell]; rfl
  have f10 : x1.cell? ⟨w.heap.size, 10, none⟩ = some (.bool false) := by rw [HM2.out.1.cell]; rfl
  have f11 : x1.cell? ⟨w.heap.size, 11, none⟩ = some (.int .u64 0) := by rw [HM2.out.1.cell]; rfl
  have f12 : x1.cell? ⟨w.heap.size, 12, none⟩ = some (.int .u64 0) := by rw [HM2.out.1.cell]; rfl
  have f13 : x1.cell? ⟨w.heap.size, 13, none⟩ = some (.string ⟨#[]⟩) := by rw [HM2.out.1.cell]; rfl
  have f14 : x1.cell? ⟨w.heap.size, 14, none⟩ = some (.string ⟨#[]⟩) := by rw [HM2.out.1.cell]; rfl
  have z0 := HM2.out.1.frozen 0
  have z1 := HM2.out.1.frozen 1
  have z2 := HM2.out.1.frozen 2
  have z3 := HM2.out.1.frozen 3
  have z4 := HM2.out.1.frozen 4
  have z5 := HM2.out.1.frozen 5
  have z6 := HM2.out.1.frozen 6
  have z7 := HM2.out.1.frozen 7
  have z8 := HM2.out.1.frozen 8
  have z9 := HM2.out.1.frozen 9
  have z10 := HM2.out.1.frozen 10
  have z11 := HM2.out.1.frozen 11
  have z12 := HM2.out.1.frozen 12
  have z13 := HM2.out.1.frozen 13
  have z14 := HM2.out.1.frozen 14
  go_wp2_with fail
  refine Calls.mono (H2.out _ _ HM2.out) ?_
  rintro e x2 ⟨rfl, hs, -, -, -⟩
  clear d0 f0 f1 f2 f3 f4 f5 f6 f7 f8 f9 f10 f11 f12 f13 f14 z0 z1 z2 z3 z4 z5 z6 z7 z8 z9 z10 z11 z12 z13 z14
  have HM3 := Lib.hid hs
  clear hs
  have d0 := (HM3.out.2.2.2.1.cell 0).trans (show _ = some (Value.func (.func 85) #[] #[.pointer (some ⟨w.heap.size + 1, 0, none⟩), .pointer (some ⟨w.heap.size + 2, 0, none⟩)]) by rfl)
  have f0 : x2.cell? ⟨w.heap.size, 0, none⟩ = some (.int .i64 TOS) := by rw [HM3.out.1.cell]; rfl
  have f1 : x2.cell? ⟨w.heap.size, 1, none⟩ = some (.int .i64 0) := by rw [HM3.out.1.cell]; rfl
  have f2 : x2.cell? ⟨w.heap.size, 2, none⟩ = some (.bool false) := by rw [HM3.out.1.cell]; rfl
  have f3 : x2.cell? ⟨w.heap.size, 3, none⟩ = some (.bool false) := by rw [HM3.out.1.cell]; rfl
  have f4 : x2.cell? ⟨w.heap.size, 4, none⟩ = some (.int .i64 0) := by rw [HM3.out.1.cell]; rfl
  have f5 : x2.cell? ⟨w.heap.size, 5, none⟩ = some (.int .i64 0) := by rw [HM3.out.1.cell]; rfl
  have f6 : x2.cell? ⟨w.heap.size, 6, none⟩ = some (.int .i64 0) := by rw [HM3.out.1.cell]; rfl
  have f7 : x2.cell? ⟨w.heap.size, 7, none⟩ = some (.bool false) := by rw [HM3.out.1.cell]; rfl
  have f8 : x2.cell? ⟨w.heap.size, 8, none⟩ = some (.int .u64 0) := by rw [HM3.out.1.cell]; rfl
  have f9 : x2.cell? ⟨w.heap.size, 9, none⟩ = some (.int .u64 0) := by rw [HM3.out.1.cell]; rfl
  have f10 : x2.cell? ⟨w.heap.size, 10, none⟩ = some (.bool false) := by rw [HM3.out.1.cell]; rfl
  have f11 : x2.cell? ⟨w.heap.size, 11, none⟩ = some (.int .u64 0) := by rw [HM3.out.1.cell]; rfl
  have f12 : x2.cell? ⟨w.heap.size, 12, none⟩ = some (.int .u64 0) := by rw [HM3.out.1.cell]; rfl
  have f13 : x2.cell? ⟨w.heap.size, 13, none⟩ = some (.string ⟨#[]⟩) := by rw [HM3.out.1.cell]; rfl
  have f14 : x2.cell? ⟨w.heap.size, 14, none⟩ = some (.string ⟨#[]⟩) := by rw [HM3.out.1.cell]; rfl
  have z0 := HM3.out.1.frozen 0
  have z1 := HM3.out.1.frozen 1
  have z2 := HM3.out.1.frozen 2
  have z3 := HM3.out.1.frozen 3
  have z4 := HM3.out.1.frozen 4
  have z5 := HM3.out.1.frozen 5
  have z6 := HM3.out.1.frozen 6
  have z7 := HM3.out.1.frozen 7
  have z8 := HM3.out.1.frozen 8
  have z9 := HM3.out.1.frozen 9
  have z10 := HM3.out.1.frozen 10
  have z11 := HM3.out.1.frozen 11
  have z12 := HM3.out.1.frozen 12
  have z13 := HM3.out.1.frozen 13
  have z14 := HM3.out.1.frozen 14
  have HS2 : Hid (NS w A n c zs #[.int .i64 TOS, .int .i64 X2, .bool false, .bool false, .int .i64 0, .int .i64 0, .int .i64 0, .bool false, .int .u64 0, .int .u64 0, .bool false, .int .u64 0, .int .u64 0, .string ⟨#[]⟩, .string ⟨#[]⟩] 6 (x2.setCell ⟨w.heap.size, 1, none⟩ (.int .i64 X2))) := Lib.hid (by simpa using HM3.out.put 1 (.int .i64 X2))
  go_wp2_with fail
  refine Calls.mono (H3.out _ _ HS2.out) ?_
  rintro e x3 ⟨rfl, hs, -, -, -⟩
  clear d0 f0 f1 f2 f3 f4 f5 f6 f7 f8 f9 f10 f11 f12 f13 f14 z0 z1 z2 z3 z4 z5 z6 z7 z8 z9 z10 z11 z12 z13 z14
  have HM4 := Lib.hid hs
  clear hs
  have d0 := (HM4.out.2.2.2.1.cell 0).trans (show _ = some (Value.func (.func 85) #[] #[.pointer (some ⟨w.heap.size + 1, 0, none⟩), .pointer (some ⟨w.heap.size + 2, 0, none⟩)]) by rfl)
  have f0 : x3.cell? ⟨w.heap.size, 0, none⟩ = some (.int .i64 TOS) := by rw [HM4.out.1.cell]; rfl
  have f1 : x3.cell? ⟨w.heap.size, 1, none⟩ = some (.int .i64 X2) := by rw [HM4.out.1.cell]; rfl
  have f2 : x3.cell? ⟨w.heap.size, 2, none⟩ = some (.bool false) := by rw [HM4.out.1.cell]; rfl
  have f3 : x3.cell? ⟨w.heap.size, 3, none⟩ = some (.bool false) := by rw [HM4.out.1.cell]; rfl
  have f4 : x3.cell? ⟨w.heap.size, 4, none⟩ = some (.int .i64 0) := by rw [HM4.out.1.cell]; rfl
  have f5 : x3.cell? ⟨w.heap.size, 5, none⟩ = some (.int .i64 0) := by rw [HM4.out.1.cell]; rfl
  have f6 : x3.cell? ⟨w.heap.size, 6, none⟩ = some (.int .i64 0) := by rw [HM4.out.1.cell]; rfl
  have f7 : x3.cell? ⟨w.heap.size, 7, none⟩ = some (.bool false) := by rw [HM4.out.1.cell]; rfl
  have f8 : x3.cell? ⟨w.heap.size, 8, none⟩ = some (.int .u64 0) := by rw [HM4.out.1.cell]; rfl
  have f9 : x3.cell? ⟨w.heap.size, 9, none⟩ = some (.int .u64 0) := by rw [HM4.out.1.cell]; rfl
  have f10 : x3.cell? ⟨w.heap.size, 10, none⟩ = some (.bool false) := by rw [HM4.out.1.cell]; rfl
  have f11 : x3.cell? ⟨w.heap.size, 11, none⟩ = some (.int .u64 0) := by rw [HM4.out.1.cell]; rfl
  have f12 : x3.cell? ⟨w.heap.size, 12, none⟩ = some (.int .u64 0) := by rw [HM4.out.1.cell]; rfl
  have f13 : x3.cell? ⟨w.heap.size, 13, none⟩ = some (.string ⟨#[]⟩) := by rw [HM4.out.1.cell]; rfl
  have f14 : x3.cell? ⟨w.heap.size, 14, none⟩ = some (.string ⟨#[]⟩) := by rw [HM4.out.1.cell]; rfl
  have z0 := HM4.out.1.frozen 0
  have z1 := HM4.out.1.frozen 1
  have z2 := HM4.out.1.frozen 2
  have z3 := HM4.out.1.frozen 3
  have z4 := HM4.out.1.frozen 4
  have z5 := HM4.out.1.frozen 5
  have z6 := HM4.out.1.frozen 6
  have z7 := HM4.out.1.frozen 7
  have z8 := HM4.out.1.frozen 8
  have z9 := HM4.out.1.frozen 9
  have z10 := HM4.out.1.frozen 10
  have z11 := HM4.out.1.frozen 11
  have z12 := HM4.out.1.frozen 12
  have z13 := HM4.out.1.frozen 13
  have z14 := HM4.out.1.frozen 14
  have HS3 : Hid (NS w A n c zs #[.int .i64 TOS, .int .i64 X2, .bool DF, .bool false, .int .i64 0, .int .i64 0, .int .i64 0, .bool false, .int .u64 0, .int .u64 0, .bool false, .int .u64 0, .int .u64 0, .string ⟨#[]⟩, .string ⟨#[]⟩] 8 (x3.setCell ⟨w.heap.size, 2, none⟩ (.bool DF))) := Lib.hid (by simpa using HM4.out.put 2 (.bool DF))
  have HS4 : Hid (NS w A n c zs #[.int .i64 TOS, .int .i64 X2, .bool DF, .bool MF, .int .i64 0, .int .i64 0, .int .i64 0, .bool false, .int .u64 0, .int .u64 0, .bool false, .int .u64 0, .int .u64 0, .string ⟨#[]⟩, .string ⟨#[]⟩] 8 ((x3.setCell ⟨w.heap.size, 2, none⟩ (.bool DF)).setCell ⟨w.heap.size, 3, none⟩ (.bool MF))) := Lib.hid (by simpa using HS3.out.put 3 (.bool MF))
  have HS5 : Hid (NS w A n c zs #[.int .i64 TOS, .int .i64 X2, .bool DF, .bool MF, .int .i64 OFF, .int .i64 0, .int .i64 0, .bool false, .int .u64 0, .int .u64 0, .bool false, .int .u64 0, .int .u64 0, .string ⟨#[]⟩, .string ⟨#[]⟩] 8 (((x3.setCell ⟨w.heap.size, 2, none⟩ (.bool DF)).setCell ⟨w.heap.size, 3, none⟩ (.bool MF)).setCell ⟨w.heap.size, 4, none⟩ (.int .i64 OFF))) := Lib.hid (by simpa using HS4.out.put 4 (.int .i64 OFF))
  go_wp2_with fail
  refine Calls.mono (H4.out _ _ HS5.out) ?_
  rintro e x4 ⟨rfl, hs, -, -, -⟩
  clear d0 f0 f1 f2 f3 f4 f5 f6 f7 f8 f9 f10 f11 f12 f13 f14 z0 z1 z2 z3 z4 z5 z6 z7 z8 z9 z10 z11 z12 z13 z14
  have HM5 := Lib.hid hs
  clear hs
  have d0 := (HM5.out.2.2.2.1.cell 0).trans (show _ = some (Value.func (.func 85) #[] #[.pointer (some ⟨w.heap.size + 1, 0, none⟩), .pointer (some ⟨w.heap.size + 2, 0, none⟩)]) by rfl)
  have f0 : x4.cell? ⟨w.heap.size, 0, none⟩ = some (.int .i64 TOS) := by rw [HM5.out.1.cell]; rfl
  have f1 : x4.cell? ⟨w.heap.size, 1, none⟩ = some (.int .i64 X2) := by rw [HM5.out.1.cell]; rfl
  have f2 : x4.cell? ⟨w.heap.size, 2, none⟩ = some (.bool DF) := by rw [HM5.out.1.cell]; rfl
  have f3 : x4.cell? ⟨w.heap.size, 3, none⟩ = some (.bool MF) := by rw [HM5.out.1.cell]; rfl
  have f4 : x4.cell? ⟨w.heap.size, 4, none⟩ = some (.int .i64 OFF) := by rw [HM5.out.1.cell]; rfl
  have f5 : x4.cell? ⟨w.heap.size, 5, none⟩ = some (.int .i64 0) := by rw [HM5.out.1.cell]; rfl
  have f6 : x4.cell? ⟨w.heap.size, 6, none⟩ = some (.int .i64 0) := by rw [HM5.out.1.cell]; rfl
  have f7 : x4.cell? ⟨w.heap.size, 7, none⟩ = some (.bool false) := by rw [HM5.out.1.cell]; rfl
  have f8 : x4.cell? ⟨w.heap.size, 8, none⟩ = some (.int .u64 0) := by rw [HM5.out.1.cell]; rfl
  have f9 : x4.cell? ⟨w.heap.size, 9, none⟩ = some (.int .u64 0) := by rw [HM5.out.1.cell]; rfl
  have f10 : x4.cell? ⟨w.heap.size, 10, none⟩ = some (.bool false) := by rw [HM5.out.1.cell]; rfl
  have f11 : x4.cell? ⟨w.heap.size, 11, none⟩ = some (.int .u64 0) := by rw [HM5.out.1.cell]; rfl
  have f12 : x4.cell? ⟨w.heap.size, 12, none⟩ = some (.int .u64 0) := by rw [HM5.out.1.cell]; rfl
  have f13 : x4.cell? ⟨w.heap.size, 13, none⟩ = some (.string ⟨#[]⟩) := by rw [HM5.out.1.cell]; rfl
  have f14 : x4.cell? ⟨w.heap.size, 14, none⟩ = some (.string ⟨#[]⟩) := by rw [HM5.out.1.cell]; rfl
  have z0 := HM5.out.1.frozen 0
  have z1 := HM5.out.1.frozen 1
  have z2 := HM5.out.1.frozen 2
  have z3 := HM5.out.1.frozen 3
  have z4 := HM5.out.1.frozen 4
  have z5 := HM5.out.1.frozen 5
  have z6 := HM5.out.1.frozen 6
  have z7 := HM5.out.1.frozen 7
  have z8 := HM5.out.1.frozen 8
  have z9 := HM5.out.1.frozen 9
  have z10 := HM5.out.1.frozen 10
  have z11 := HM5.out.1.frozen 11
  have z12 := HM5.out.1.frozen 12
  have z13 := HM5.out.1.frozen 13
  have z14 := HM5.out.1.frozen 14
  have HS6 : Hid (NS w A n c zs #[.int .i64 TOS, .int .i64 X2, .bool DF, .bool MF, .int .i64 OFF, .int .i64 TTL, .int .i64 0, .bool false, .int .u64 0, .int .u64 0, .bool false, .int .u64 0, .int .u64 0, .string ⟨#[]⟩, .string ⟨#[]⟩] 10 (x4.setCell ⟨w.heap.size, 5, none⟩ (.int .i64 TTL))) := Lib.hid (by simpa using HM5.out.put 5 (.int .i64 TTL))
  have HS7 : Hid (NS w A n c zs #[.int .i64 TOS, .int .i64 X2, .bool DF, .bool MF, .int .i64 OFF, .int .i64 TTL, .int .i64 PRO, .bool false, .int .u64 0, .int .u64 0, .bool false, .int .u64 0, .int .u64 0, .string ⟨#[]⟩, .string ⟨#[]⟩] 10 ((x4.setCell ⟨w.heap.size, 5, none⟩ (.int .i64 TTL)).setCell ⟨w.heap.size, 6, none⟩ (.int .i64 PRO))) := Lib.hid (by simpa using HS6.out.put 6 (.int .i64 PRO))
  go_wp2_with fail
  refine Calls.mono (H5.out _ _ HS7.out) ?_
  rintro e x5 ⟨rfl, hs, -, -, -⟩
  clear d0 f0 f1 f2 f3 f4 f5 f6 f7 f8 f9 f10 f11 f12 f13 f14 z0 z1 z2 z3 z4 z5 z6 z7 z8 z9 z10 z11 z12 z13 z14
  have HM6 := Lib.hid hs
  clear hs
  have d0 := (HM6.out.2.2.2.1.cell 0).trans (show _ = some (Value.func (.func 85) #[] #[.pointer (some ⟨w.heap.size + 1, 0, none⟩), .pointer (some ⟨w.heap.size + 2, 0, none⟩)]) by rfl)
  have f0 : x5.cell? ⟨w.heap.size, 0, none⟩ = some (.int .i64 TOS) := by rw [HM6.out.1.cell]; rfl
  have f1 : x5.cell? ⟨w.heap.size, 1, none⟩ = some (.int .i64 X2) := by rw [HM6.out.1.cell]; rfl
  have f2 : x5.cell? ⟨w.heap.size, 2, none⟩ = some (.bool DF) := by rw [HM6.out.1.cell]; rfl
  have f3 : x5.cell? ⟨w.heap.size, 3, none⟩ = some (.bool MF) := by rw [HM6.out.1.cell]; rfl
  have f4 : x5.cell? ⟨w.heap.size, 4, none⟩ = some (.int .i64 OFF) := by rw [HM6.out.1.cell]; rfl
  have f5 : x5.cell? ⟨w.heap.size, 5, none⟩ = some (.int .i64 TTL) := by rw [HM6.out.1.cell]; rfl
  have f6 : x5.cell? ⟨w.heap.size, 6, none⟩ = some (.int .i64 PRO) := by rw [HM6.out.1.cell]; rfl
  have f7 : x5.cell? ⟨w.heap.size, 7, none⟩ = some (.bool false) := by rw [HM6.out.1.cell]; rfl
  have f8 : x5.cell? ⟨w.heap.size, 8, none⟩ = some (.int .u64 0) := by rw [HM6.out.1.cell]; rfl
  have f9 : x5.cell? ⟨w.heap.size, 9, none⟩ = some (.int .u64 0) := by rw [HM6.out.1.cell]; rfl
  have f10 : x5.cell? ⟨w.heap.size, 10, none⟩ = some (.bool false) := by rw [HM6.out.1.cell]; rfl
  have f11 : x5.cell? ⟨w.heap.size, 11, none⟩ = some (.int .u64 0) := by rw [HM6.out.1.cell]; rfl
  have f12 : x5.cell? ⟨w.heap.size, 12, none⟩ = some (.int .u64 0) := by rw [HM6.out.1.cell]; rfl
  have f13 : x5.cell? ⟨w.heap.size, 13, none⟩ = some (.string ⟨#[]⟩) := by rw [HM6.out.1.cell]; rfl
  have f14 : x5.cell? ⟨w.heap.size, 14, none⟩ = some (.string ⟨#[]⟩) := by rw [HM6.out.1.cell]; rfl
  have z0 := HM6.out.1.frozen 0
  have z1 := HM6.out.1.frozen 1
  have z2 := HM6.out.1.frozen 2
  have z3 := HM6.out.1.frozen 3
  have z4 := HM6.out.1.frozen 4
  have z5 := HM6.out.1.frozen 5
  have z6 := HM6.out.1.frozen 6
  have z7 := HM6.out.1.frozen 7
  have z8 := HM6.out.1.frozen 8
  have z9 := HM6.out.1.frozen 9
  have z10 := HM6.out.1.frozen 10
  have z11 := HM6.out.1.frozen 11
  have z12 := HM6.out.1.frozen 12
  have z13 := HM6.out.1.frozen 13
  have z14 := HM6.out.1.frozen 14
  go_wp2_with fail
  refine Calls.mono (HA.out _ _ HM6.out) ?_
  rintro e x6 ⟨rfl, hs⟩
  clear d0 f0 f1 f2 f3 f4 f5 f6 f7 f8 f9 f10 f11 f12 f13 f14 z0 z1 z2 z3 z4 z5 z6 z7 z8 z9 z10 z11 z12 z13 z14
  have HM7 := Lib.hid hs
  clear hs
  have d0 := (HM7.out.2.2.2.1.cell 0).trans (show _ = some (Value.func (.func 85) #[] #[.pointer (some ⟨w.heap.size + 1, 0, none⟩), .pointer (some ⟨w.heap.size + 2, 0, none⟩)]) by rfl)
  have f0 : x6.cell? ⟨w.heap.size, 0, none⟩ = some (.int .i64 TOS) := by rw [HM7.out.1.cell]; rfl
  have f1 : x6.cell? ⟨w.heap.size, 1, none⟩ = some (.int .i64 X2) := by rw [HM7.out.1.cell]; rfl
  have f2 : x6.cell? ⟨w.heap.size, 2, none⟩ = some (.bool DF) := by rw [HM7.out.1.cell]; rfl
  have f3 : x6.cell? ⟨w.heap.size, 3, none⟩ = some (.bool MF) := by rw [HM7.out.1.cell]; rfl
  have f4 : x6.cell? ⟨w.heap.size, 4, none⟩ = some (.int .i64 OFF) := by rw [HM7.out.1.cell]; rfl
  have f5 : x6.cell? ⟨w.heap.size, 5, none⟩ = some (.int .i64 TTL) := by rw [HM7.out.1.cell]; rfl
  have f6 : x6.cell? ⟨w.heap.size, 6, none⟩ = some (.int .i64 PRO) := by rw [HM7.out.1.cell]; rfl
  have f7 : x6.cell? ⟨w.heap.size, 7, none⟩ = some (.bool false) := by rw [HM7.out.1.cell]; rfl
  have f8 : x6.cell? ⟨w.heap.size, 8, none⟩ = some (.int .u64 0) := by rw [HM7.out.1.cell]; rfl
  have f9 : x6.cell? ⟨w.heap.size, 9, none⟩ = some (.int .u64 0) := by rw [HM7.out.1.cell]; rfl
  have f10 : x6.cell? ⟨w.heap.size, 10, none⟩ = some (.bool false) := by rw [HM7.out.1.cell]; rfl
  have f11 : x6.cell? ⟨w.heap.size, 11, none⟩ = some (.int .u64 0) := by rw [HM7.out.1.cell]; rfl
  have f12 : x6.cell? ⟨w.heap.size, 12, none⟩ = some (.int .u64 0) := by rw [HM7.out.1.cell]; rfl
  have f13 : x6.cell? ⟨w.heap.size, 13, none⟩ = some (.string ⟨#[]⟩) := by rw [HM7.out.1.cell]; rfl
  have f14 : x6.cell? ⟨w.heap.size, 14, none⟩ = some (.string ⟨#[]⟩) := by rw [HM7.out.1.cell]; rfl
  have z0 := HM7.out.1.frozen 0
  have z1 := HM7.out.1.frozen 1
  have z2 := HM7.out.1.frozen 2
  have z3 := HM7.out.1.frozen 3
  have z4 := HM7.out.1.frozen 4
  have z5 := HM7.out.1.frozen 5
  have z6 := HM7.out.1.frozen 6
  have z7 := HM7.out.1.frozen 7
  have z8 := HM7.out.1.frozen 8
  have z9 := HM7.out.1.frozen 9
  have z10 := HM7.out.1.frozen 10
  have z11 := HM7.out.1.frozen 11
  have z12 := HM7.out.1.frozen 12
  have z13 := HM7.out.1.frozen 13
  have z14 := HM7.out.1.frozen 14
  have HS8 : Hid (NS w A n c zs #[.int .i64 TOS, .int .i64 X2, .bool DF, .bool MF, .int .i64 OFF, .int .i64 TTL, .int .i64 PRO, .bool false, .int .u64 0, .int .u64 0, .bool false, .int .u64 0, .int .u64 0, .string ⟨#[]⟩, .string ⟨#[]⟩] 16 (x6.setCell ⟨w.heap.size, 7, none⟩ (.bool false))) := Lib.hid (by simpa using HM7.out.put 7 (.bool false))
  have HS9 : Hid (NS w A n c zs #[.int .i64 TOS, .int .i64 X2, .bool DF, .bool MF, .int .i64 OFF, .int .i64 TTL, .int .i64 PRO, .bool false, .int .u64 0, .int .u64 0, .bool false, .int .u64 0, .int .u64 0, .string ⟨#[]⟩, .string ⟨#[]⟩] 16 ((x6.setCell ⟨w.heap.size, 7, none⟩ (.bool false)).setCell ⟨w.heap.size, 8, none⟩ (.int .u64 0))) := Lib.hid (by simpa using HS8.out.put 8 (.int .u64 0))
  have HS10 : Hid (NS w A n c zs #[.int .i64 TOS, .int .i64 X2, .bool DF, .bool MF, .int .i64 OFF, .int .i64 TTL, .int .i64 PRO, .bool false, .int .u64 0, .int .u64 LA, .bool false, .int .u64 0, .int .u64 0, .string ⟨#[]⟩, .string ⟨#[]⟩] 16 (((x6.setCell ⟨w.heap.size, 7, none⟩ (.bool false)).setCell ⟨w.heap.size, 8, none⟩ (.int .u64 0)).setCell ⟨w.heap.size, 9, none⟩ (.int .u64 LA))) := Lib.hid (by simpa using HS9.out.put 9 (.int .u64 LA))
  go_wp2_with fail
  refine Calls.mono (HB.out _ _ HS10.out) ?_
  rintro e x7 ⟨rfl, hs⟩
  clear d0 f0 f1 f2 f3 f4 f5 f6 f7 f8 f9 f10 f11 f12 f13 f14 z0 z1 z2 z3 z4 z5 z6 z7 z8 z9 z10 z11 z12 z13 z14
  have HM8 := Lib.hid hs
  clear hs
  have d0 := (HM8.out.2.2.2.1.cell 0).trans (show _ = some (Value.func (.func 85) #[] #[.pointer (some ⟨w.heap.size + 1, 0, none⟩), .pointer (some ⟨w.heap.size + 2, 0, none⟩)]) by rfl)
  have f0 : x7.cell? ⟨w.heap.size, 0, none⟩ = some (.int .i64 TOS) := by rw [HM8.out.1.cell]; rfl
  have f1 : x7.cell? ⟨w.heap.size, 1, none⟩ = some (.int .i64 X2) := by rw [HM8.out.1.cell]; rfl
  have f2 : x7.cell? ⟨w.heap.size, 2, none⟩ = some (.bool DF) := by rw [HM8.out.1.cell]; rfl
  have f3 : x7.cell? ⟨w.heap.size, 3, none⟩ = some (.bool MF) := by rw [HM8.out.1.cell]; rfl
  have f4 : x7.cell? ⟨w.heap.size, 4, none⟩ = some (.int .i64 OFF) := by rw [HM8.out.1.cell]; rfl
  have f5 : x7.cell? ⟨w.heap.size, 5, none⟩ = some (.int .i64 TTL) := by rw [HM8.out.1.cell]; rfl
  have f6 : x7.cell? ⟨w.heap.size, 6, none⟩ = some (.int .i64 PRO) := by rw [HM8.out.1.cell]; rfl
  have f7 : x7.cell? ⟨w.heap.size, 7, none⟩ = some (.bool false) := by rw [HM8.out.1.cell]; rfl
  have f8 : x7.cell? ⟨w.heap.size, 8, none⟩ = some (.int .u64 0) := by rw [HM8.out.1.cell]; rfl
  have f9 : x7.cell? ⟨w.heap.size, 9, none⟩ = some (.int .u64 LA) := by rw [HM8.out.1.cell]; rfl
  have f10 : x7.cell? ⟨w.heap.size, 10, none⟩ = some (.bool false) := by rw [HM8.out.1.cell]; rfl
  have f11 : x7.cell? ⟨w.heap.size, 11, none⟩ = some (.int .u64 0) := by rw [HM8.out.1.cell]; rfl
  have f12 : x7.cell? ⟨w.heap.size, 12, none⟩ = some (.int .u64 0) := by rw [HM8.out.1.cell]; rfl
  have f13 : x7.cell? ⟨w.heap.size, 13, none⟩ = some (.string ⟨#[]⟩) := by rw [HM8.out.1.cell]; rfl
  have f14 : x7.cell? ⟨w.heap.size, 14, none⟩ = some (.string ⟨#[]⟩) := by rw [HM8.out.1.cell]; rfl
  have z0 := HM8.out.1.frozen 0
  have z1 := HM8.out.1.frozen 1
  have z2 := HM8.out.1.frozen 2
  have z3 := HM8.out.1.frozen 3
  have z4 := HM8.out.1.frozen 4
  have z5 := HM8.out.1.frozen 5
  have z6 := HM8.out.1.frozen 6
  have z7 := HM8.out.1.frozen 7
  have z8 := HM8.out.1.frozen 8
  have z9 := HM8.out.1.frozen 9
  have z10 := HM8.out.1.frozen 10
  have z11 := HM8.out.1.frozen 11
  have z12 := HM8.out.1.frozen 12
  have z13 := HM8.out.1.frozen 13
  have z14 := HM8.out.1.frozen 14
  have HS11 : Hid (NS w A n c zs #[.int .i64 TOS, .int .i64 X2, .bool DF, .bool MF, .int .i64 OFF, .int .i64 TTL, .int .i64 PRO, .bool false, .int .u64 0, .int .u64 LA, .bool false, .int .u64 0, .int .u64 0, .string ⟨#[]⟩, .string ⟨#[]⟩] 20 (x7.setCell ⟨w.heap.size, 10, none⟩ (.bool false))) := Lib.hid (by simpa using HM8.out.put 10 (.bool false))
  have HS12 : Hid (NS w A n c zs #[.int .i64 TOS, .int .i64 X2, .bool DF, .bool MF, .int .i64 OFF, .int .i64 TTL, .int .i64 PRO, .bool false, .int .u64 0, .int .u64 LA, .bool false, .int .u64 0, .int .u64 0, .string ⟨#[]⟩, .string ⟨#[]⟩] 20 ((x7.setCell ⟨w.heap.size, 10, none⟩ (.bool false)).setCell ⟨w.heap.size, 11, none⟩ (.int .u64 0))) := Lib.hid (by simpa using HS11.out.put 11 (.int .u64 0))
  have HS13 : Hid (NS w A n c zs #[.int .i64 TOS, .int .i64 X2, .bool DF, .bool MF, .int .i64 OFF, .int .i64 TTL, .int .i64 PRO, .bool false, .int .u64 0, .int .u64 LA, .bool false, .int .u64 0, .int .u64 LB, .string ⟨#[]⟩, .string ⟨#[]⟩] 20 (((x7.setCell ⟨w.heap.size, 10, none⟩ (.bool false)).setCell ⟨w.heap.size, 11, none⟩ (.int .u64 0)).setCell ⟨w.heap.size, 12, none⟩ (.int .u64 LB))) := Lib.hid (by simpa using HS12.out.put 12 (.int .u64 LB))
  go_wp2
  have g0 : (((x7.setCell ⟨w.heap.size, 10, none⟩ (.bool false)).setCell ⟨w.heap.size, 11, none⟩ (.int .u64 0)).setCell ⟨w.heap.size, 12, none⟩ (.int .u64 LB)).cell? ⟨w.heap.size, 0, none⟩ = some (.int .i64 TOS) := by rw [HS13.out.1.cell]; rfl
  have g1 : (((x7.setCell ⟨w.heap.size, 10, none⟩ (.bool false)).setCell ⟨w.heap.size, 11, none⟩ (.int .u64 0)).setCell ⟨w.heap.size, 12, none⟩ (.int .u64 LB)).cell? ⟨w.heap.size, 1, none⟩ = some (.int .i64 X2) := by rw [HS13.out.1.cell]; rfl
  have g2 : (((x7.setCell ⟨w.heap.size, 10, none⟩ (.bool false)).setCell ⟨w.heap.size, 11, none⟩ (.int .u64 0)).setCell ⟨w.heap.size, 12, none⟩ (.int .u64 LB)).cell? ⟨w.heap.size, 2, none⟩ = some (.bool DF) := by rw [HS13.out.1.cell]; rfl
  have g3 : (((x7.setCell ⟨w.heap.size, 10, none⟩ (.bool false)).setCell ⟨w.heap.size, 11, none⟩ (.int .u64 0)).setCell ⟨w.heap.size, 12, none⟩ (.int .u64 LB)).cell? ⟨w.heap.size, 3, none⟩ = some (.bool MF) := by rw [HS13.out.1.cell]; rfl
  have g4 : (((x7.setCell ⟨w.heap.size, 10, none⟩ (.bool false)).setCell ⟨w.heap.size, 11, none⟩ (.int .u64 0)).setCell ⟨w.heap.size, 12, none⟩ (.int .u64 LB)).cell? ⟨w.heap.size, 4, none⟩ = some (.int .i64 OFF) := by rw [HS13.out.1.cell]; rfl
  have g5 : (((x7.setCell ⟨w.heap.size, 10, none⟩ (.bool false)).setCell ⟨w.heap.size, 11, none⟩ (.int .u64 0)).setCell ⟨w.heap.size, 12, none⟩ (.int .u64 LB)).cell? ⟨w.heap.size, 5, none⟩ = some (.int .i64 TTL) := by rw [HS13.out.1.cell]; rfl
  have g6 : (((x7.setCell ⟨w.heap.size, 10, none⟩ (.bool false)).setCell ⟨w.heap.size, 11, none⟩ (.int .u64 0)).setCell ⟨w.heap.size, 12, none⟩ (.int .u64 LB)).cell? ⟨w.heap.size, 6, none⟩ = some (.int .i64 PRO) := by rw [HS13.out.1.cell]; rfl
  have g7 : (((x7.setCell ⟨w.heap.size, 10, none⟩ (.bool false)).setCell ⟨w.heap.size, 11, none⟩ (.int .u64 0)).setCell ⟨w.heap.size, 12, none⟩ (.int .u64 LB)).cell? ⟨w.heap.size, 7, none⟩ = some (.bool false) := by rw [HS13.out.1.cell]; rfl
  have g8 : (((x7.setCell ⟨w.heap.size, 10, none⟩ (.bool false)).setCell ⟨w.heap.size, 11, none⟩ (.int .u64 0)).setCell ⟨w.heap.size, 12, none⟩ (.int .u64 LB)).cell? ⟨w.heap.size, 8, none⟩ = some (.int .u64 0) := by rw [HS13.out.1.cell]; rfl
  have g9 : (((x7.setCell ⟨w.heap.size, 10, none⟩ (.bool false)).setCell ⟨w.heap.size, 11, none⟩ (.int .u64 0)).setCell ⟨w.heap.size, 12, none⟩ (.int .u64 LB)).cell? ⟨w.heap.size, 9, none⟩ = some (.int .u64 LA) := by rw [HS13.out.1.cell]; rfl
  have g10 : (((x7.setCell ⟨w.heap.size, 10, none⟩ (.bool false)).setCell ⟨w.heap.size, 11, none⟩ (.int .u64 0)).setCell ⟨w.heap.size, 12, none⟩ (.int .u64 LB)).cell? ⟨w.heap.size, 10, none⟩ = some (.bool false) := by rw [HS13.out.1.cell]; rfl
  have g11 : (((x7.setCell ⟨w.heap.size, 10, none⟩ (.bool false)).setCell ⟨w.heap.size, 11, none⟩ (.int .u64 0)).setCell ⟨w.heap.size, 12, none⟩ (.int .u64 LB)).cell? ⟨w.heap.size, 11, none⟩ = some (.int .u64 0) := by rw [HS13.out.1.cell]; rfl
  have g12 : (((x7.setCell ⟨w.heap.size, 10, none⟩ (.bool false)).setCell ⟨w.heap.size, 11, none⟩ (.int .u64 0)).setCell ⟨w.heap.size, 12, none⟩ (.int .u64 LB)).cell? ⟨w.heap.size, 12, none⟩ = some (.int .u64 LB) := by rw [HS13.out.1.cell]; rfl
  have g13 : (((x7.setCell ⟨w.heap.size, 10, none⟩ (.bool false)).setCell ⟨w.heap.size, 11, none⟩ (.int .u64 0)).setCell ⟨w.heap.size, 12, none⟩ (.int .u64 LB)).cell? ⟨w.heap.size, 13, none⟩ = some (.string ⟨#[]⟩) := by rw [HS13.out.1.cell]; rfl
  have g14 : (((x7.setCell ⟨w.heap.size, 10, none⟩ (.bool false)).setCell ⟨w.heap.size, 11, none⟩ (.int .u64 0)).setCell ⟨w.heap.size, 12, none⟩ (.int .u64 LB)).cell? ⟨w.heap.size, 14, none⟩ = some (.string ⟨#[]⟩) := by rw [HS13.out.1.cell]; rfl
  exact bodyPost_ret (v := .tuple #[(⟨TOS, X2, DF, MF, OFF, TTL, PRO, false, 0, LA, false, 0, LB, ⟨#[]⟩, ⟨#[]⟩⟩ : Pk).val, .int .i64 X1, .bool OD]) (by simp [results, Try.results34, go_sem, g0, g1, g2, g3, g4, g5, g6, g7, g8, g9, g10, g11, g12, g13, g14]) rfl ⟨rfl, by (iterate 15 (refine Below.setCell ?_ ?_ _; rotate_left; first | exact Nat.le_refl _ | (simp; done))); exact HS13.out.2.2.2.2.2⟩
end Go.Proofs.Ytbhddodghbhjiaa
