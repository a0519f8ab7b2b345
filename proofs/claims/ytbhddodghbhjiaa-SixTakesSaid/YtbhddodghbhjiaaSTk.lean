/-
  ip6.Take of any text.
-/
import Derived.Test.YtbhddodghbhjiaaSNm
import Derived.Test.YtbhddodghbhjiaaFConv
import Derived.Test.YtbhddodghbhjiaaSCl
namespace Go.Proofs.Ytbhddodghbhjiaa
open Go.RowKit
set_option linter.unusedVariables false

/-- A packet stored whole into a variable. -/
theorem wpList_st11 {ops : Array Oper} {rest : List Oper} {o : Oper} {a : Act} {w : World} {Q : Exit → Act → World → Prop} (hgd : o.guard = none) (x y : Operand) (ho : o.op = .store 35 x y)
    (g : Nat) (cells old : Array Value) (hx : a.eval x = .pointer (some ⟨g, 0, none⟩)) (hy : a.eval y = .agg cells) (hB : Blk w g 35 old) (h0 : old.size = 11) (hc : cells.size = 11) (h1 : cells.all (·.oneCell') = true)
    (h : ∀ w', Blk w' g 35 cells → Below g w w' → wpList Try.prog ops Q rest (a.put o.dst undef) w') : wpList Try.prog ops Q (o :: rest) a w := by
  have hi : (Try.prog.info? 35).map (·.size) = some 11 := by kernel_rfl
  refine wpList_store_row hgd 35 x y ho g cells hx hy 35 old hB (by rw [hc]; exact hi) (by omega) h1 ?_
  exact h _ (setRow_heap w g old cells 35 _ hB) ⟨rfl, rfl, rfl, by simp [World.setRow], fun k hk => setRow_other w g k cells (by omega)⟩
theorem tk_s40 {s : ByteArray} (h : s.size < 40) : tkS s = (noS, 61) := by unfold tkS; rw [if_pos h]
theorem tk_skd {s : ByteArray} (h : 40 ≤ s.size) (k : fsS s / 268435456 ≠ 6) : tkS s = (noS, 60) := by unfold tkS; rw [if_neg (by omega), if_pos k]
theorem tk_ssh {s : ByteArray} (h : 40 ≤ s.size) (k : fsS s / 268435456 = 6) (j : s.size < 40 + lnS s) : tkS s = (noS, 61) := by unfold tkS; rw [if_neg (by omega), if_neg (by omega), if_pos j]
theorem tk_sok {s : ByteArray} (h : 40 ≤ s.size) (k : fsS s / 268435456 = 6) (j : 40 + lnS s ≤ s.size) : tkS s = (pkX s, 0) := by unfold tkS; rw [if_neg (by omega), if_neg (by omega), if_neg (by omega)]

set_option maxRecDepth 100000 in
set_option maxHeartbeats 8000000 in
theorem stake_s40 (s : ByteArray) (hs : (s.size : Int) ≤ 9223372036854775807) (h : s.size < 40) (w : World) :
    Calls Try.prog 18 #[.string s] w fun e w' => e = .returned (tkSV s) ∧ Below w.heap.size w w' := by
  have HZ : Hid ((#[.int .i64 0, .int .i64 0, .int .i64 0, .int .i64 0, .bool false, .int .u64 0, .int .u64 0, .bool false, .int .u64 0, .int .u64 0, .string ⟨#[]⟩] : Array Value).size = 11 ∧ (#[.int .i64 0, .int .i64 0, .int .i64 0, .int .i64 0, .bool false, .int .u64 0, .int .u64 0, .bool false, .int .u64 0, .int .u64 0, .string ⟨#[]⟩] : Array Value).all (·.oneCell') = true) := Lib.hid ⟨rfl, by simp [Value.oneCell']⟩
  have K0 := Lib.hid (Blk.new w 35 #[.int .i64 0, .int .i64 0, .int .i64 0, .int .i64 0, .bool false, .int .u64 0, .int .u64 0, .bool false, .int .u64 0, .int .u64 0, .string ⟨#[]⟩])
  have L0 := Lib.hid ((Below.refl _ w).alloc (Nat.le_refl _) (.cells #[.int .i64 0, .int .i64 0, .int .i64 0, .int .i64 0, .bool false, .int .u64 0, .int .u64 0, .bool false, .int .u64 0, .int .u64 0, .string ⟨#[]⟩] 35))
  have HX := Lib.hid (tk_s40 h)
  have hI : (s.size : Int) < 40 := by omega
  have f0 : (w.alloc (.cells #[.int .i64 0, .int .i64 0, .int .i64 0, .int .i64 0, .bool false, .int .u64 0, .int .u64 0, .bool false, .int .u64 0, .int .u64 0, .string ⟨#[]⟩] 35)).cell? ⟨w.heap.size, 0, none⟩ = some (.int .i64 0) := by rw [K0.out.cell]; rfl
  have z0 := K0.out.frozen 0
  have f1 : (w.alloc (.cells #[.int .i64 0, .int .i64 0, .int .i64 0, .int .i64 0, .bool false, .int .u64 0, .int .u64 0, .bool false, .int .u64 0, .int .u64 0, .string ⟨#[]⟩] 35)).cell? ⟨w.heap.size, 1, none⟩ = some (.int .i64 0) := by rw [K0.out.cell]; rfl
  have z1 := K0.out.frozen 1
  have f2 : (w.alloc (.cells #[.int .i64 0, .int .i64 0, .int .i64 0, .int .i64 0, .bool false, .int .u64 0, .int .u64 0, .bool false, .int .u64 0, .int .u64 0, .string ⟨#[]⟩] 35)).cell? ⟨w.heap.size, 2, none⟩ = some (.int .i64 0) := by rw [K0.out.cell]; rfl
  have z2 := K0.out.frozen 2
  have f3 : (w.alloc (.cells #[.int .i64 0, .int .i64 0, .int .i64 0, .int .i64 0, .bool false, .int .u64 0, .int .u64 0, .bool false, .int .u64 0, .int .u64 0, .string ⟨#[]⟩] 35)).cell? ⟨w.heap.size, 3, none⟩ = some (.int .i64 0) := by rw [K0.out.cell]; rfl
  have z3 := K0.out.frozen 3
  have f4 : (w.alloc (.cells #[.int .i64 0, .int .i64 0, .int .i64 0, .int .i64 0, .bool false, .int .u64 0, .int .u64 0, .bool false, .int .u64 0, .int .u64 0, .string ⟨#[]⟩] 35)).cell? ⟨w.heap.size, 4, none⟩ = some (.bool false) := by rw [K0.out.cell]; rfl
  have z4 := K0.out.frozen 4
  have f5 : (w.alloc (.cells #[.int .i64 0, .int .i64 0, .int .i64 0, .int .i64 0, .bool false, .int .u64 0, .int .u64 0, .bool false, .int .u64 0, .int .u64 0, .string ⟨#[]⟩] 35)).cell? ⟨w.heap.size, 5, none⟩ = some (.int .u64 0) := by rw [K0.out.cell]; rfl
  have z5 := K0.out.frozen 5
  have f6 : (w.alloc (.cells #[.int .i64 0, .int .i64 0, .int .i64 0, .int .i64 0, .bool false, .int .u64 0, .int .u64 0, .bool false, .int .u64 0, .int .u64 0, .string ⟨#[]⟩] 35)).cell? ⟨w.heap.size, 6, none⟩ = some (.int .u64 0) := by rw [K0.out.cell]; rfl
  have z6 := K0.out.frozen 6
  have f7 : (w.alloc (.cells #[.int .i64 0, .int .i64 0, .int .i64 0, .int .i64 0, .bool false, .int .u64 0, .int .u64 0, .bool false, .int .u64 0, .int .u64 0, .string ⟨#[]⟩] 35)).cell? ⟨w.heap.size, 7, none⟩ = some (.bool false) := by rw [K0.out.cell]; rfl
  have z7 := K0.out.frozen 7
  have f8 : (w.alloc (.cells #[.int .i64 0, .int .i64 0, .int .i64 0, .int .i64 0, .bool false, .int .u64 0, .int .u64 0, .bool false, .int .u64 0, .int .u64 0, .string ⟨#[]⟩] 35)).cell? ⟨w.heap.size, 8, none⟩ = some (.int .u64 0) := by rw [K0.out.cell]; rfl
  have z8 := K0.out.frozen 8
  have f9 : (w.alloc (.cells #[.int .i64 0, .int .i64 0, .int .i64 0, .int .i64 0, .bool false, .int .u64 0, .int .u64 0, .bool false, .int .u64 0, .int .u64 0, .string ⟨#[]⟩] 35)).cell? ⟨w.heap.size, 9, none⟩ = some (.int .u64 0) := by rw [K0.out.cell]; rfl
  have z9 := K0.out.frozen 9
  have f10 : (w.alloc (.cells #[.int .i64 0, .int .i64 0, .int .i64 0, .int .i64 0, .bool false, .int .u64 0, .int .u64 0, .bool false, .int .u64 0, .int .u64 0, .string ⟨#[]⟩] 35)).cell? ⟨w.heap.size, 10, none⟩ = some (.string ⟨#[]⟩) := by rw [K0.out.cell]; rfl
  have z10 := K0.out.frozen 10
  clear h
  go_enter Try.func18, Try.ntmps18
  go_wp2
  refine bodyPost_ret (v := .tuple #[noS.val, .int .i64 61]) (by simp [results, Try.results18, go_sem, noS, f0, f1, f2, f3, f4, f5, f6, f7, f8, f9, f10]) rfl ⟨by unfold tkSV; rw [HX.out], ?_⟩
  first
    | exact L0.out
    | (iterate 11 (refine Below.setCell ?_ (Nat.le_refl _) _)); exact L0.out
set_option maxRecDepth 100000 in
set_option maxHeartbeats 8000000 in
theorem stake_kd (s : ByteArray) (hs : (s.size : Int) ≤ 9223372036854775807) (h : 40 ≤ s.size) (hk : fsS s / 268435456 ≠ 6) (w : World) :
    Calls Try.prog 18 #[.string s] w fun e w' => e = .returned (tkSV s) ∧ Below w.heap.size w w' := by
  have HZ : Hid ((#[.int .i64 0, .int .i64 0, .int .i64 0, .int .i64 0, .bool false, .int .u64 0, .int .u64 0, .bool false, .int .u64 0, .int .u64 0, .string ⟨#[]⟩] : Array Value).size = 11 ∧ (#[.int .i64 0, .int .i64 0, .int .i64 0, .int .i64 0, .bool false, .int .u64 0, .int .u64 0, .bool false, .int .u64 0, .int .u64 0, .string ⟨#[]⟩] : Array Value).all (·.oneCell') = true) := Lib.hid ⟨rfl, by simp [Value.oneCell']⟩
  have K0 := Lib.hid (Blk.new w 35 #[.int .i64 0, .int .i64 0, .int .i64 0, .int .i64 0, .bool false, .int .u64 0, .int .u64 0, .bool false, .int .u64 0, .int .u64 0, .string ⟨#[]⟩])
  have L0 := Lib.hid ((Below.refl _ w).alloc (Nat.le_refl _) (.cells #[.int .i64 0, .int .i64 0, .int .i64 0, .int .i64 0, .bool false, .int .u64 0, .int .u64 0, .bool false, .int .u64 0, .int .u64 0, .string ⟨#[]⟩] 35))
  obtain ⟨E, hE⟩ : ∃ E, s.extract 0 40 = E := ⟨_, rfl⟩
  have hEs : E.size = 40 := by rw [← hE, ByteArray.size_extract]; omega
  have bE : byt E = (byt s).take 40 := by rw [← hE, byt_ext', List.drop_zero]
  have hcv := fun W => conv_bytes W E
  rw [hEs] at hcv
  have HRI := Lib.hid (fun W => bytesWorld_ri W E)
  rw [hEs, bE] at HRI
  have hln : ((byt s).take 40).length = 40 := by rw [List.length_take, byt_len]; omega
  have HNew := Lib.hid (fun (W : World) (c : Nat) (A : Option Addr) (hz : RI .u8 W W.heap.size A 40 ((byt s).take 40)) => new_any W W.heap.size A 40 c ((byt s).take 40) hz (Nat.le_refl _) (by decide))
  have HNum := Lib.hid (fun (V W : World) (r : Nat) (hr : Rd W V.heap.size W.heap.size r ((byt s).take 40) false) (hb : Below V.heap.size V W) => snumbers_at V W r W.heap.size ((byt s).take 40) hr (Nat.le_refl _) hb hln)
  rw [nmS_take (Nat.le_refl _), nA_take (by decide), nA_take (by decide)] at HNum
  have hbd : 0 ≤ nA (byt s) 4 2 := (nA_bd (byt_by s) (i := 4) (k := 2) (by rw [byt_len]; omega)).1
  have hLN : ((lnS s : Nat) : Int) = nA (byt s) 4 2 := by unfold lnS; omega
  have hbd2 : nA (byt s) 4 2 < 65536 := by have := (nA_bd (byt_by s) (i := 4) (k := 2) (by rw [byt_len]; omega)).2; rwa [p2] at this
  have hKD : nA (byt s) 0 4 / 268435456 = fsS s / 268435456 := rfl
  have hPX : pkX s = { nmS (byt s) with d := s.extract 40 (40 + lnS s) } := rfl
  have HX := Lib.hid (tk_skd h hk)
  rw [← hLN] at HNum hbd hbd2
  rw [hKD] at HNum
  have hnm : nmS (byt s) = ⟨nA (byt s) 0 4 / 1048576 % 256, nA (byt s) 0 4 % 1048576, nA (byt s) 6 1, nA (byt s) 7 1, true, nA (byt s) 8 8, nA (byt s) 16 8, true, nA (byt s) 24 8, nA (byt s) 32 8, ⟨#[]⟩⟩ := rfl
  rw [hnm] at HNum hPX
  obtain ⟨C, hC⟩ : ∃ X, nA (byt s) 0 4 / 1048576 % 256 = X := ⟨_, rfl⟩
  obtain ⟨F, hF⟩ : ∃ X, nA (byt s) 0 4 % 1048576 = X := ⟨_, rfl⟩
  obtain ⟨N, hN⟩ : ∃ X, nA (byt s) 6 1 = X := ⟨_, rfl⟩
  obtain ⟨H, hH⟩ : ∃ X, nA (byt s) 7 1 = X := ⟨_, rfl⟩
  obtain ⟨A1, hA1⟩ : ∃ X, nA (byt s) 8 8 = X := ⟨_, rfl⟩
  obtain ⟨A2, hA2⟩ : ∃ X, nA (byt s) 16 8 = X := ⟨_, rfl⟩
  obtain ⟨A3, hA3⟩ : ∃ X, nA (byt s) 24 8 = X := ⟨_, rfl⟩
  obtain ⟨A4, hA4⟩ : ∃ X, nA (byt s) 32 8 = X := ⟨_, rfl⟩
  rw [hC, hF, hN, hH, hA1, hA2, hA3, hA4] at HNum hPX
  obtain ⟨KD, hKD2⟩ : ∃ X, fsS s / 268435456 = X := ⟨_, rfl⟩
  rw [hKD2] at HNum hk
  obtain ⟨LN, hLN2⟩ : ∃ X, lnS s = X := ⟨_, rfl⟩
  rw [hLN2] at HNum hPX hbd2
  have HPX := Lib.hid hPX
  replace HNum : Hid (∀ (V W : World) (r : Nat), Rd W V.heap.size W.heap.size r ((byt s).take 40) false → Below V.heap.size V W → Calls Try.prog 46 #[.pointer (some ⟨r, 0, none⟩)] W fun e w' => e = .returned (.tuple #[.agg #[.int .i64 C, .int .i64 F, .int .i64 N, .int .i64 H, .bool true, .int .u64 A1, .int .u64 A2, .bool true, .int .u64 A3, .int .u64 A4, .string ⟨#[]⟩], .int .i64 (LN : Int), .int .i64 KD]) ∧ Below V.heap.size V w') := HNum
  have hI : ¬ (s.size : Int) < 40 := by omega
  have hI2 : (40 : Int) ≤ s.size := by omega
  have hkd : (KD == 6) = false := by simpa using hk
  obtain ⟨U, hU⟩ : ∃ U, U = w.alloc (.cells #[.int .i64 0, .int .i64 0, .int .i64 0, .int .i64 0, .bool false, .int .u64 0, .int .u64 0, .bool false, .int .u64 0, .int .u64 0, .string ⟨#[]⟩] 35) := ⟨_, rfl⟩
  have hUs : U.heap.size = w.heap.size + 1 := by rw [hU]; simp
  have hb := bytesWorld_below U E
  have HV1 : Hid (RI .u8 (Lib.bytesWorld U 5 E) (Lib.bytesWorld U 5 E).heap.size (some ⟨w.heap.size + 1, 0, none⟩) 40 ((byt s).take 40)) := by have := HRI.out U; rwa [hUs] at this
  have HVK : Hid (Blk (Lib.bytesWorld U 5 E) w.heap.size 35 #[.int .i64 0, .int .i64 0, .int .i64 0, .int .i64 0, .bool false, .int .u64 0, .int .u64 0, .bool false, .int .u64 0, .int .u64 0, .string ⟨#[]⟩]) := Lib.hid (by rw [hU] at hb ⊢; exact K0.out.below hb K0.out.lt)
  have HVL : Hid (Below w.heap.size w (Lib.bytesWorld U 5 E)) := Lib.hid (by rw [hU] at hb ⊢; exact L0.out.trans (hb.mono L0.out.size))
  obtain ⟨V, hV⟩ : ∃ V, V = Lib.bytesWorld U 5 E := ⟨_, rfl⟩
  rw [← hV] at HV1 HVK HVL
  rw [hU] at hV
  have HV := Lib.hid hV
  clear hU hUs hb hV bE hEs hC hF hN hH hA1 hA2 hA3 hA4 hKD hKD2 hLN hLN2 hPX hln hnm hbd h hk
  go_enter Try.func18, Try.ntmps18
  go_wp2_with fail
  rw [← HV.out]
  refine Calls.mono (HNew.out V _ _ HV1.out) ?_
  rintro e w1 ⟨r, rfl, hr, hb⟩
  have HNu := Lib.hid (HNum.out V w1 r hr hb)
  clear hr hb hcv hE hI hbd2
  go_wp2_with fail
  refine Calls.mono HNu.out ?_
  rintro e w2 ⟨rfl, hb⟩
  have HK2 := Lib.hid (HVK.out.below hb HVK.out.lt)
  have HL2 := Lib.hid (HVL.out.trans (hb.mono HVL.out.size))
  have hw2 : w.heap.size < w2.heap.size := HK2.out.lt
  clear hb
  have HK3 := Lib.hid (HK2.out.alloc (.cells #[.int .i64 C, .int .i64 F, .int .i64 N, .int .i64 H, .bool true, .int .u64 A1, .int .u64 A2, .bool true, .int .u64 A3, .int .u64 A4, .string ⟨#[]⟩] 35))
  have HL3 := Lib.hid (HL2.out.alloc HL2.out.size (.cells #[.int .i64 C, .int .i64 F, .int .i64 N, .int .i64 H, .bool true, .int .u64 A1, .int .u64 A2, .bool true, .int .u64 A3, .int .u64 A4, .string ⟨#[]⟩] 35))
  have HN3 := Lib.hid (Blk.new w2 35 #[.int .i64 C, .int .i64 F, .int .i64 N, .int .i64 H, .bool true, .int .u64 A1, .int .u64 A2, .bool true, .int .u64 A3, .int .u64 A4, .string ⟨#[]⟩])
  go_wp2_with (with_reducible refine wpList_st11 rfl (.tmp 2) (.tmp 23) rfl w.heap.size #[.int .i64 0, .int .i64 0, .int .i64 0, .int .i64 0, .bool false, .int .u64 0, .int .u64 0, .bool false, .int .u64 0, .int .u64 0, .string ⟨#[]⟩] #[.int .i64 0, .int .i64 0, .int .i64 0, .int .i64 0, .bool false, .int .u64 0, .int .u64 0, .bool false, .int .u64 0, .int .u64 0, .string ⟨#[]⟩] rfl rfl HK3.out HZ.out.1 HZ.out.1 HZ.out.2 ?_; intro w6 hk6 hb6; have HK6 := Lib.hid hk6; have HL6 := Lib.hid (HL3.out.trans hb6); clear hk6 hb6)
  have f0 : w6.cell? ⟨w.heap.size, 0, none⟩ = some (.int .i64 0) := by rw [HK6.out.cell]; rfl
  have f1 : w6.cell? ⟨w.heap.size, 1, none⟩ = some (.int .i64 0) := by rw [HK6.out.cell]; rfl
  have f2 : w6.cell? ⟨w.heap.size, 2, none⟩ = some (.int .i64 0) := by rw [HK6.out.cell]; rfl
  have f3 : w6.cell? ⟨w.heap.size, 3, none⟩ = some (.int .i64 0) := by rw [HK6.out.cell]; rfl
  have f4 : w6.cell? ⟨w.heap.size, 4, none⟩ = some (.bool false) := by rw [HK6.out.cell]; rfl
  have f5 : w6.cell? ⟨w.heap.size, 5, none⟩ = some (.int .u64 0) := by rw [HK6.out.cell]; rfl
  have f6 : w6.cell? ⟨w.heap.size, 6, none⟩ = some (.int .u64 0) := by rw [HK6.out.cell]; rfl
  have f7 : w6.cell? ⟨w.heap.size, 7, none⟩ = some (.bool false) := by rw [HK6.out.cell]; rfl
  have f8 : w6.cell? ⟨w.heap.size, 8, none⟩ = some (.int .u64 0) := by rw [HK6.out.cell]; rfl
  have f9 : w6.cell? ⟨w.heap.size, 9, none⟩ = some (.int .u64 0) := by rw [HK6.out.cell]; rfl
  have f10 : w6.cell? ⟨w.heap.size, 10, none⟩ = some (.string ⟨#[]⟩) := by rw [HK6.out.cell]; rfl
  refine bodyPost_ret (v := .tuple #[noS.val, .int .i64 60]) (by simp [results, Try.results18, go_sem, noS, f0, f1, f2, f3, f4, f5, f6, f7, f8, f9, f10]) rfl ⟨by unfold tkSV; rw [HX.out], HL6.out⟩
set_option maxRecDepth 100000 in
set_option maxHeartbeats 8000000 in
theorem stake_sh (s : ByteArray) (hs : (s.size : Int) ≤ 9223372036854775807) (h : 40 ≤ s.size) (hk : fsS s / 268435456 = 6) (hj : s.size < 40 + lnS s) (w : World) :
    Calls Try.prog 18 #[.string s] w fun e w' => e = .returned (tkSV s) ∧ Below w.heap.size w w' := by
  have HZ : Hid ((#[.int .i64 0, .int .i64 0, .int .i64 0, .int .i64 0, .bool false, .int .u64 0, .int .u64 0, .bool false, .int .u64 0, .int .u64 0, .string ⟨#[]⟩] : Array Value).size = 11 ∧ (#[.int .i64 0, .int .i64 0, .int .i64 0, .int .i64 0, .bool false, .int .u64 0, .int .u64 0, .bool false, .int .u64 0, .int .u64 0, .string ⟨#[]⟩] : Array Value).all (·.oneCell') = true) := Lib.hid ⟨rfl, by simp [Value.oneCell']⟩
  have K0 := Lib.hid (Blk.new w 35 #[.int .i64 0, .int .i64 0, .int .i64 0, .int .i64 0, .bool false, .int .u64 0, .int .u64 0, .bool false, .int .u64 0, .int .u64 0, .string ⟨#[]⟩])
  have L0 := Lib.hid ((Below.refl _ w).alloc (Nat.le_refl _) (.cells #[.int .i64 0, .int .i64 0, .int .i64 0, .int .i64 0, .bool false, .int .u64 0, .int .u64 0, .bool false, .int .u64 0, .int .u64 0, .string ⟨#[]⟩] 35))
  obtain ⟨E, hE⟩ : ∃ E, s.extract 0 40 = E := ⟨_, rfl⟩
  have hEs : E.size = 40 := by rw [← hE, ByteArray.size_extract]; omega
  have bE : byt E = (byt s).take 40 := by rw [← hE, byt_ext', List.drop_zero]
  have hcv := fun W => conv_bytes W E
  rw [hEs] at hcv
  have HRI := Lib.hid (fun W => bytesWorld_ri W E)
  rw [hEs, bE] at HRI
  have hln : ((byt s).take 40).length = 40 := by rw [List.length_take, byt_len]; omega
  have HNew := Lib.hid (fun (W : World) (c : Nat) (A : Option Addr) (hz : RI .u8 W W.heap.size A 40 ((byt s).take 40)) => new_any W W.heap.size A 40 c ((byt s).take 40) hz (Nat.le_refl _) (by decide))
  have HNum := Lib.hid (fun (V W : World) (r : Nat) (hr : Rd W V.heap.size W.heap.size r ((byt s).take 40) false) (hb : Below V.heap.size V W) => snumbers_at V W r W.heap.size ((byt s).take 40) hr (Nat.le_refl _) hb hln)
  rw [nmS_take (Nat.le_refl _), nA_take (by decide), nA_take (by decide)] at HNum
  have hbd : 0 ≤ nA (byt s) 4 2 := (nA_bd (byt_by s) (i := 4) (k := 2) (by rw [byt_len]; omega)).1
  have hLN : ((lnS s : Nat) : Int) = nA (byt s) 4 2 := by unfold lnS; omega
  have hbd2 : nA (byt s) 4 2 < 65536 := by have := (nA_bd (byt_by s) (i := 4) (k := 2) (by rw [byt_len]; omega)).2; rwa [p2] at this
  have hKD : nA (byt s) 0 4 / 268435456 = fsS s / 268435456 := rfl
  have hPX : pkX s = { nmS (byt s) with d := s.extract 40 (40 + lnS s) } := rfl
  have HX := Lib.hid (tk_ssh h hk hj)
  rw [← hLN] at HNum hbd hbd2
  rw [hKD] at HNum
  have hnm : nmS (byt s) = ⟨nA (byt s) 0 4 / 1048576 % 256, nA (byt s) 0 4 % 1048576, nA (byt s) 6 1, nA (byt s) 7 1, true, nA (byt s) 8 8, nA (byt s) 16 8, true, nA (byt s) 24 8, nA (byt s) 32 8, ⟨#[]⟩⟩ := rfl
  rw [hnm] at HNum hPX
  obtain ⟨C, hC⟩ : ∃ X, nA (byt s) 0 4 / 1048576 % 256 = X := ⟨_, rfl⟩
  obtain ⟨F, hF⟩ : ∃ X, nA (byt s) 0 4 % 1048576 = X := ⟨_, rfl⟩
  obtain ⟨N, hN⟩ : ∃ X, nA (byt s) 6 1 = X := ⟨_, rfl⟩
  obtain ⟨H, hH⟩ : ∃ X, nA (byt s) 7 1 = X := ⟨_, rfl⟩
  obtain ⟨A1, hA1⟩ : ∃ X, nA (byt s) 8 8 = X := ⟨_, rfl⟩
  obtain ⟨A2, hA2⟩ : ∃ X, nA (byt s) 16 8 = X := ⟨_, rfl⟩
  obtain ⟨A3, hA3⟩ : ∃ X, nA (byt s) 24 8 = X := ⟨_, rfl⟩
  obtain ⟨A4, hA4⟩ : ∃ X, nA (byt s) 32 8 = X := ⟨_, rfl⟩
  rw [hC, hF, hN, hH, hA1, hA2, hA3, hA4] at HNum hPX
  obtain ⟨KD, hKD2⟩ : ∃ X, fsS s / 268435456 = X := ⟨_, rfl⟩
  rw [hKD2] at HNum hk
  obtain ⟨LN, hLN2⟩ : ∃ X, lnS s = X := ⟨_, rfl⟩
  rw [hLN2] at HNum hPX hbd2 hj
  have HPX := Lib.hid hPX
  replace HNum : Hid (∀ (V W : World) (r : Nat), Rd W V.heap.size W.heap.size r ((byt s).take 40) false → Below V.heap.size V W → Calls Try.prog 46 #[.pointer (some ⟨r, 0, none⟩)] W fun e w' => e = .returned (.tuple #[.agg #[.int .i64 C, .int .i64 F, .int .i64 N, .int .i64 H, .bool true, .int .u64 A1, .int .u64 A2, .bool true, .int .u64 A3, .int .u64 A4, .string ⟨#[]⟩], .int .i64 (LN : Int), .int .i64 KD]) ∧ Below V.heap.size V w') := HNum
  have hI : ¬ (s.size : Int) < 40 := by omega
  have hI2 : (40 : Int) ≤ s.size := by omega
  subst hk
  have hsh : (s.size : Int) - 40 < (LN : Int) := by omega
  obtain ⟨U, hU⟩ : ∃ U, U = w.alloc (.cells #[.int .i64 0, .int .i64 0, .int .i64 0, .int .i64 0, .bool false, .int .u64 0, .int .u64 0, .bool false, .int .u64 0, .int .u64 0, .string ⟨#[]⟩] 35) := ⟨_, rfl⟩
  have hUs : U.heap.size = w.heap.size + 1 := by rw [hU]; simp
  have hb := bytesWorld_below U E
  have HV1 : Hid (RI .u8 (Lib.bytesWorld U 5 E) (Lib.bytesWorld U 5 E).heap.size (some ⟨w.heap.size + 1, 0, none⟩) 40 ((byt s).take 40)) := by have := HRI.out U; rwa [hUs] at this
  have HVK : Hid (Blk (Lib.bytesWorld U 5 E) w.heap.size 35 #[.int .i64 0, .int .i64 0, .int .i64 0, .int .i64 0, .bool false, .int .u64 0, .int .u64 0, .bool false, .int .u64 0, .int .u64 0, .string ⟨#[]⟩]) := Lib.hid (by rw [hU] at hb ⊢; exact K0.out.below hb K0.out.lt)
  have HVL : Hid (Below w.heap.size w (Lib.bytesWorld U 5 E)) := Lib.hid (by rw [hU] at hb ⊢; exact L0.out.trans (hb.mono L0.out.size))
  obtain ⟨V, hV⟩ : ∃ V, V = Lib.bytesWorld U 5 E := ⟨_, rfl⟩
  rw [← hV] at HV1 HVK HVL
  rw [hU] at hV
  have HV := Lib.hid hV
  clear hU hUs hb hV bE hEs hC hF hN hH hA1 hA2 hA3 hA4 hKD hKD2 hLN hLN2 hPX hln hnm hbd h hj
  go_enter Try.func18, Try.ntmps18
  go_wp2_with fail
  rw [← HV.out]
  refine Calls.mono (HNew.out V _ _ HV1.out) ?_
  rintro e w1 ⟨r, rfl, hr, hb⟩
  have HNu := Lib.hid (HNum.out V w1 r hr hb)
  clear hr hb hcv hE hI hbd2
  go_wp2_with fail
  refine Calls.mono HNu.out ?_
  rintro e w2 ⟨rfl, hb⟩
  have HK2 := Lib.hid (HVK.out.below hb HVK.out.lt)
  have HL2 := Lib.hid (HVL.out.trans (hb.mono HVL.out.size))
  have hw2 : w.heap.size < w2.heap.size := HK2.out.lt
  clear hb
  have HK3 := Lib.hid (HK2.out.alloc (.cells #[.int .i64 C, .int .i64 F, .int .i64 N, .int .i64 H, .bool true, .int .u64 A1, .int .u64 A2, .bool true, .int .u64 A3, .int .u64 A4, .string ⟨#[]⟩] 35))
  have HL3 := Lib.hid (HL2.out.alloc HL2.out.size (.cells #[.int .i64 C, .int .i64 F, .int .i64 N, .int .i64 H, .bool true, .int .u64 A1, .int .u64 A2, .bool true, .int .u64 A3, .int .u64 A4, .string ⟨#[]⟩] 35))
  have HN3 := Lib.hid (Blk.new w2 35 #[.int .i64 C, .int .i64 F, .int .i64 N, .int .i64 H, .bool true, .int .u64 A1, .int .u64 A2, .bool true, .int .u64 A3, .int .u64 A4, .string ⟨#[]⟩])
  go_wp2_with (with_reducible refine wpList_st11 rfl (.tmp 2) (.tmp 30) rfl w.heap.size #[.int .i64 0, .int .i64 0, .int .i64 0, .int .i64 0, .bool false, .int .u64 0, .int .u64 0, .bool false, .int .u64 0, .int .u64 0, .string ⟨#[]⟩] #[.int .i64 0, .int .i64 0, .int .i64 0, .int .i64 0, .bool false, .int .u64 0, .int .u64 0, .bool false, .int .u64 0, .int .u64 0, .string ⟨#[]⟩] rfl rfl HK3.out HZ.out.1 HZ.out.1 HZ.out.2 ?_; intro w6 hk6 hb6; have HK6 := Lib.hid hk6; have HL6 := Lib.hid (HL3.out.trans hb6); clear hk6 hb6)
  have f0 : w6.cell? ⟨w.heap.size, 0, none⟩ = some (.int .i64 0) := by rw [HK6.out.cell]; rfl
  have f1 : w6.cell? ⟨w.heap.size, 1, none⟩ = some (.int .i64 0) := by rw [HK6.out.cell]; rfl
  have f2 : w6.cell? ⟨w.heap.size, 2, none⟩ = some (.int .i64 0) := by rw [HK6.out.cell]; rfl
  have f3 : w6.cell? ⟨w.heap.size, 3, none⟩ = some (.int .i64 0) := by rw [HK6.out.cell]; rfl
  have f4 : w6.cell? ⟨w.heap.size, 4, none⟩ = some (.bool false) := by rw [HK6.out.cell]; rfl
  have f5 : w6.cell? ⟨w.heap.size, 5, none⟩ = some (.int .u64 0) := by rw [HK6.out.cell]; rfl
  have f6 : w6.cell? ⟨w.heap.size, 6, none⟩ = some (.int .u64 0) := by rw [HK6.out.cell]; rfl
  have f7 : w6.cell? ⟨w.heap.size, 7, none⟩ = some (.bool false) := by rw [HK6.out.cell]; rfl
  have f8 : w6.cell? ⟨w.heap.size, 8, none⟩ = some (.int .u64 0) := by rw [HK6.out.cell]; rfl
  have f9 : w6.cell? ⟨w.heap.size, 9, none⟩ = some (.int .u64 0) := by rw [HK6.out.cell]; rfl
  have f10 : w6.cell? ⟨w.heap.size, 10, none⟩ = some (.string ⟨#[]⟩) := by rw [HK6.out.cell]; rfl
  refine bodyPost_ret (v := .tuple #[noS.val, .int .i64 61]) (by simp [results, Try.results18, go_sem, noS, f0, f1, f2, f3, f4, f5, f6, f7, f8, f9, f10]) rfl ⟨by unfold tkSV; rw [HX.out], HL6.out⟩
set_option maxRecDepth 100000 in
set_option maxHeartbeats 8000000 in
theorem stake_ok (s : ByteArray) (hs : (s.size : Int) ≤ 9223372036854775807) (h : 40 ≤ s.size) (hk : fsS s / 268435456 = 6) (hj : 40 + lnS s ≤ s.size) (w : World) :
    Calls Try.prog 18 #[.string s] w fun e w' => e = .returned (tkSV s) ∧ Below w.heap.size w w' := by
  have HZ : Hid ((#[.int .i64 0, .int .i64 0, .int .i64 0, .int .i64 0, .bool false, .int .u64 0, .int .u64 0, .bool false, .int .u64 0, .int .u64 0, .string ⟨#[]⟩] : Array Value).size = 11 ∧ (#[.int .i64 0, .int .i64 0, .int .i64 0, .int .i64 0, .bool false, .int .u64 0, .int .u64 0, .bool false, .int .u64 0, .int .u64 0, .string ⟨#[]⟩] : Array Value).all (·.oneCell') = true) := Lib.hid ⟨rfl, by simp [Value.oneCell']⟩
  have K0 := Lib.hid (Blk.new w 35 #[.int .i64 0, .int .i64 0, .int .i64 0, .int .i64 0, .bool false, .int .u64 0, .int .u64 0, .bool false, .int .u64 0, .int .u64 0, .string ⟨#[]⟩])
  have L0 := Lib.hid ((Below.refl _ w).alloc (Nat.le_refl _) (.cells #[.int .i64 0, .int .i64 0, .int .i64 0, .int .i64 0, .bool false, .int .u64 0, .int .u64 0, .bool false, .int .u64 0, .int .u64 0, .string ⟨#[]⟩] 35))
  obtain ⟨E, hE⟩ : ∃ E, s.extract 0 40 = E := ⟨_, rfl⟩
  have hEs : E.size = 40 := by rw [← hE, ByteArray.size_extract]; omega
  have bE : byt E = (byt s).take 40 := by rw [← hE, byt_ext', List.drop_zero]
  have hcv := fun W => conv_bytes W E
  rw [hEs] at hcv
  have HRI := Lib.hid (fun W => bytesWorld_ri W E)
  rw [hEs, bE] at HRI
  have hln : ((byt s).take 40).length = 40 := by rw [List.length_take, byt_len]; omega
  have HNew := Lib.hid (fun (W : World) (c : Nat) (A : Option Addr) (hz : RI .u8 W W.heap.size A 40 ((byt s).take 40)) => new_any W W.heap.size A 40 c ((byt s).take 40) hz (Nat.le_refl _) (by decide))
  have HNum := Lib.hid (fun (V W : World) (r : Nat) (hr : Rd W V.heap.size W.heap.size r ((byt s).take 40) false) (hb : Below V.heap.size V W) => snumbers_at V W r W.heap.size ((byt s).take 40) hr (Nat.le_refl _) hb hln)
  rw [nmS_take (Nat.le_refl _), nA_take (by decide), nA_take (by decide)] at HNum
  have hbd : 0 ≤ nA (byt s) 4 2 := (nA_bd (byt_by s) (i := 4) (k := 2) (by rw [byt_len]; omega)).1
  have hLN : ((lnS s : Nat) : Int) = nA (byt s) 4 2 := by unfold lnS; omega
  have hbd2 : nA (byt s) 4 2 < 65536 := by have := (nA_bd (byt_by s) (i := 4) (k := 2) (by rw [byt_len]; omega)).2; rwa [p2] at this
  have hKD : nA (byt s) 0 4 / 268435456 = fsS s / 268435456 := rfl
  have hPX : pkX s = { nmS (byt s) with d := s.extract 40 (40 + lnS s) } := rfl
  have HX := Lib.hid (tk_sok h hk hj)
  rw [← hLN] at HNum hbd hbd2
  rw [hKD] at HNum
  have hnm : nmS (byt s) = ⟨nA (byt s) 0 4 / 1048576 % 256, nA (byt s) 0 4 % 1048576, nA (byt s) 6 1, nA (byt s) 7 1, true, nA (byt s) 8 8, nA (byt s) 16 8, true, nA (byt s) 24 8, nA (byt s) 32 8, ⟨#[]⟩⟩ := rfl
  rw [hnm] at HNum hPX
  obtain ⟨C, hC⟩ : ∃ X, nA (byt s) 0 4 / 1048576 % 256 = X := ⟨_, rfl⟩
  obtain ⟨F, hF⟩ : ∃ X, nA (byt s) 0 4 % 1048576 = X := ⟨_, rfl⟩
  obtain ⟨N, hN⟩ : ∃ X, nA (byt s) 6 1 = X := ⟨_, rfl⟩
  obtain ⟨H, hH⟩ : ∃ X, nA (byt s) 7 1 = X := ⟨_, rfl⟩
  obtain ⟨A1, hA1⟩ : ∃ X, nA (byt s) 8 8 = X := ⟨_, rfl⟩
  obtain ⟨A2, hA2⟩ : ∃ X, nA (byt s) 16 8 = X := ⟨_, rfl⟩
  obtain ⟨A3, hA3⟩ : ∃ X, nA (byt s) 24 8 = X := ⟨_, rfl⟩
  obtain ⟨A4, hA4⟩ : ∃ X, nA (byt s) 32 8 = X := ⟨_, rfl⟩
  rw [hC, hF, hN, hH, hA1, hA2, hA3, hA4] at HNum hPX
  obtain ⟨KD, hKD2⟩ : ∃ X, fsS s / 268435456 = X := ⟨_, rfl⟩
  rw [hKD2] at HNum hk
  obtain ⟨LN, hLN2⟩ : ∃ X, lnS s = X := ⟨_, rfl⟩
  rw [hLN2] at HNum hPX hbd2 hj
  have HPX := Lib.hid hPX
  replace HNum : Hid (∀ (V W : World) (r : Nat), Rd W V.heap.size W.heap.size r ((byt s).take 40) false → Below V.heap.size V W → Calls Try.prog 46 #[.pointer (some ⟨r, 0, none⟩)] W fun e w' => e = .returned (.tuple #[.agg #[.int .i64 C, .int .i64 F, .int .i64 N, .int .i64 H, .bool true, .int .u64 A1, .int .u64 A2, .bool true, .int .u64 A3, .int .u64 A4, .string ⟨#[]⟩], .int .i64 (LN : Int), .int .i64 KD]) ∧ Below V.heap.size V w') := HNum
  have hI : ¬ (s.size : Int) < 40 := by omega
  have hI2 : (40 : Int) ≤ s.size := by omega
  subst hk
  have hsh : ¬ (s.size : Int) - 40 < (LN : Int) := by omega
  obtain ⟨T, hT⟩ : ∃ T, 40 + LN = T := ⟨_, rfl⟩
  have hTI : (40 : Int) + (LN : Int) = (T : Int) := by omega
  have hT1 : (40 : Int) ≤ (T : Int) := by omega
  have hT2 : (T : Int) ≤ (s.size : Int) := by omega
  rw [hT] at HPX
  obtain ⟨D, hD⟩ : ∃ D, s.extract 40 T = D := ⟨_, rfl⟩
  have hDs : D.size ≤ 281474976710656 := by rw [← hD, ByteArray.size_extract]; omega
  have HCl := Lib.hid (fun W => sclone_any D hDs W)
  have HD := Lib.hid hD
  obtain ⟨U, hU⟩ : ∃ U, U = w.alloc (.cells #[.int .i64 0, .int .i64 0, .int .i64 0, .int .i64 0, .bool false, .int .u64 0, .int .u64 0, .bool false, .int .u64 0, .int .u64 0, .string ⟨#[]⟩] 35) := ⟨_, rfl⟩
  have hUs : U.heap.size = w.heap.size + 1 := by rw [hU]; simp
  have hb := bytesWorld_below U E
  have HV1 : Hid (RI .u8 (Lib.bytesWorld U 5 E) (Lib.bytesWorld U 5 E).heap.size (some ⟨w.heap.size + 1, 0, none⟩) 40 ((byt s).take 40)) := by have := HRI.out U; rwa [hUs] at this
  have HVK : Hid (Blk (Lib.bytesWorld U 5 E) w.heap.size 35 #[.int .i64 0, .int .i64 0, .int .i64 0, .int .i64 0, .bool false, .int .u64 0, .int .u64 0, .bool false, .int .u64 0, .int .u64 0, .string ⟨#[]⟩]) := Lib.hid (by rw [hU] at hb ⊢; exact K0.out.below hb K0.out.lt)
  have HVL : Hid (Below w.heap.size w (Lib.bytesWorld U 5 E)) := Lib.hid (by rw [hU] at hb ⊢; exact L0.out.trans (hb.mono L0.out.size))
  obtain ⟨V, hV⟩ : ∃ V, V = Lib.bytesWorld U 5 E := ⟨_, rfl⟩
  rw [← hV] at HV1 HVK HVL
  rw [hU] at hV
  have HV := Lib.hid hV
  clear hU hUs hb hV bE hEs hC hF hN hH hA1 hA2 hA3 hA4 hKD hKD2 hLN hLN2 hPX hln hnm hbd h hj hDs hT
  go_enter Try.func18, Try.ntmps18
  go_wp2_with fail
  rw [← HV.out]
  refine Calls.mono (HNew.out V _ _ HV1.out) ?_
  rintro e w1 ⟨r, rfl, hr, hb⟩
  have HNu := Lib.hid (HNum.out V w1 r hr hb)
  clear hr hb hcv hE hI hbd2
  go_wp2_with fail
  refine Calls.mono HNu.out ?_
  rintro e w2 ⟨rfl, hb⟩
  have HK2 := Lib.hid (HVK.out.below hb HVK.out.lt)
  have HL2 := Lib.hid (HVL.out.trans (hb.mono HVL.out.size))
  have hw2 : w.heap.size < w2.heap.size := HK2.out.lt
  clear hb
  have HK3 := Lib.hid (HK2.out.alloc (.cells #[.int .i64 C, .int .i64 F, .int .i64 N, .int .i64 H, .bool true, .int .u64 A1, .int .u64 A2, .bool true, .int .u64 A3, .int .u64 A4, .string ⟨#[]⟩] 35))
  have HL3 := Lib.hid (HL2.out.alloc HL2.out.size (.cells #[.int .i64 C, .int .i64 F, .int .i64 N, .int .i64 H, .bool true, .int .u64 A1, .int .u64 A2, .bool true, .int .u64 A3, .int .u64 A4, .string ⟨#[]⟩] 35))
  have HN3 := Lib.hid (Blk.new w2 35 #[.int .i64 C, .int .i64 F, .int .i64 N, .int .i64 H, .bool true, .int .u64 A1, .int .u64 A2, .bool true, .int .u64 A3, .int .u64 A4, .string ⟨#[]⟩])
  go_wp2_with fail
  refine Calls.mono (HCl.out _) ?_
  rintro e w4 ⟨rfl, hb⟩
  have HK4 := Lib.hid (HK3.out.below hb HK3.out.lt)
  have HL4 := Lib.hid (HL3.out.trans (hb.mono HL3.out.size))
  have HN4 := Lib.hid (HN3.out.below hb HN3.out.lt)
  clear hb
  have m0 : w4.cell? ⟨w2.heap.size, 0, none⟩ = some (.int .i64 C) := by rw [HN4.out.cell]; rfl
  have m1 : w4.cell? ⟨w2.heap.size, 1, none⟩ = some (.int .i64 F) := by rw [HN4.out.cell]; rfl
  have m2 : w4.cell? ⟨w2.heap.size, 2, none⟩ = some (.int .i64 N) := by rw [HN4.out.cell]; rfl
  have m3 : w4.cell? ⟨w2.heap.size, 3, none⟩ = some (.int .i64 H) := by rw [HN4.out.cell]; rfl
  have m4 : w4.cell? ⟨w2.heap.size, 4, none⟩ = some (.bool true) := by rw [HN4.out.cell]; rfl
  have m5 : w4.cell? ⟨w2.heap.size, 5, none⟩ = some (.int .u64 A1) := by rw [HN4.out.cell]; rfl
  have m6 : w4.cell? ⟨w2.heap.size, 6, none⟩ = some (.int .u64 A2) := by rw [HN4.out.cell]; rfl
  have m7 : w4.cell? ⟨w2.heap.size, 7, none⟩ = some (.bool true) := by rw [HN4.out.cell]; rfl
  have m8 : w4.cell? ⟨w2.heap.size, 8, none⟩ = some (.int .u64 A3) := by rw [HN4.out.cell]; rfl
  have m9 : w4.cell? ⟨w2.heap.size, 9, none⟩ = some (.int .u64 A4) := by rw [HN4.out.cell]; rfl
  have m10 : w4.cell? ⟨w2.heap.size, 10, none⟩ = some (.string ⟨#[]⟩) := by rw [HN4.out.cell]; rfl
  have mz := HN4.out.frozen 10
  have HN5 : Hid (Blk (w4.setCell ⟨w2.heap.size, 10, none⟩ (.string D)) w2.heap.size 35 #[.int .i64 C, .int .i64 F, .int .i64 N, .int .i64 H, .bool true, .int .u64 A1, .int .u64 A2, .bool true, .int .u64 A3, .int .u64 A4, .string D]) := Lib.hid (by simpa using HN4.out.set_ 10 (.string D))
  have HK5 := Lib.hid (HK4.out.far (p := ⟨w2.heap.size, 10, none⟩) (show w.heap.size ≠ w2.heap.size by omega) (.string D))
  have HL5 := Lib.hid (HL4.out.setCell (p := ⟨w2.heap.size, 10, none⟩) (show w.heap.size ≤ w2.heap.size by omega) (.string D))
  have n0 : (w4.setCell ⟨w2.heap.size, 10, none⟩ (.string D)).cell? ⟨w2.heap.size, 0, none⟩ = some (.int .i64 C) := by rw [HN5.out.cell]; rfl
  have n1 : (w4.setCell ⟨w2.heap.size, 10, none⟩ (.string D)).cell? ⟨w2.heap.size, 1, none⟩ = some (.int .i64 F) := by rw [HN5.out.cell]; rfl
  have n2 : (w4.setCell ⟨w2.heap.size, 10, none⟩ (.string D)).cell? ⟨w2.heap.size, 2, none⟩ = some (.int .i64 N) := by rw [HN5.out.cell]; rfl
  have n3 : (w4.setCell ⟨w2.heap.size, 10, none⟩ (.string D)).cell? ⟨w2.heap.size, 3, none⟩ = some (.int .i64 H) := by rw [HN5.out.cell]; rfl
  have n4 : (w4.setCell ⟨w2.heap.size, 10, none⟩ (.string D)).cell? ⟨w2.heap.size, 4, none⟩ = some (.bool true) := by rw [HN5.out.cell]; rfl
  have n5 : (w4.setCell ⟨w2.heap.size, 10, none⟩ (.string D)).cell? ⟨w2.heap.size, 5, none⟩ = some (.int .u64 A1) := by rw [HN5.out.cell]; rfl
  have n6 : (w4.setCell ⟨w2.heap.size, 10, none⟩ (.string D)).cell? ⟨w2.heap.size, 6, none⟩ = some (.int .u64 A2) := by rw [HN5.out.cell]; rfl
  have n7 : (w4.setCell ⟨w2.heap.size, 10, none⟩ (.string D)).cell? ⟨w2.heap.size, 7, none⟩ = some (.bool true) := by rw [HN5.out.cell]; rfl
  have n8 : (w4.setCell ⟨w2.heap.size, 10, none⟩ (.string D)).cell? ⟨w2.heap.size, 8, none⟩ = some (.int .u64 A3) := by rw [HN5.out.cell]; rfl
  have n9 : (w4.setCell ⟨w2.heap.size, 10, none⟩ (.string D)).cell? ⟨w2.heap.size, 9, none⟩ = some (.int .u64 A4) := by rw [HN5.out.cell]; rfl
  have n10 : (w4.setCell ⟨w2.heap.size, 10, none⟩ (.string D)).cell? ⟨w2.heap.size, 10, none⟩ = some (.string D) := by rw [HN5.out.cell]; rfl
  have HQ : Hid ((#[.int .i64 C, .int .i64 F, .int .i64 N, .int .i64 H, .bool true, .int .u64 A1, .int .u64 A2, .bool true, .int .u64 A3, .int .u64 A4, .string D] : Array Value).size = 11 ∧ (#[.int .i64 C, .int .i64 F, .int .i64 N, .int .i64 H, .bool true, .int .u64 A1, .int .u64 A2, .bool true, .int .u64 A3, .int .u64 A4, .string D] : Array Value).all (·.oneCell') = true) := Lib.hid ⟨rfl, by simp [Value.oneCell']⟩
  go_wp2_with (with_reducible refine wpList_st11 rfl (.tmp 2) (.tmp 37) rfl w.heap.size #[.int .i64 C, .int .i64 F, .int .i64 N, .int .i64 H, .bool true, .int .u64 A1, .int .u64 A2, .bool true, .int .u64 A3, .int .u64 A4, .string D] #[.int .i64 0, .int .i64 0, .int .i64 0, .int .i64 0, .bool false, .int .u64 0, .int .u64 0, .bool false, .int .u64 0, .int .u64 0, .string ⟨#[]⟩] rfl rfl HK5.out HZ.out.1 HQ.out.1 HQ.out.2 ?_; intro w6 hk6 hb6; have HK6 := Lib.hid hk6; have HL6 := Lib.hid (HL5.out.trans hb6); clear hk6 hb6)
  have g0 : w6.cell? ⟨w.heap.size, 0, none⟩ = some (.int .i64 C) := by rw [HK6.out.cell]; rfl
  have g1 : w6.cell? ⟨w.heap.size, 1, none⟩ = some (.int .i64 F) := by rw [HK6.out.cell]; rfl
  have g2 : w6.cell? ⟨w.heap.size, 2, none⟩ = some (.int .i64 N) := by rw [HK6.out.cell]; rfl
  have g3 : w6.cell? ⟨w.heap.size, 3, none⟩ = some (.int .i64 H) := by rw [HK6.out.cell]; rfl
  have g4 : w6.cell? ⟨w.heap.size, 4, none⟩ = some (.bool true) := by rw [HK6.out.cell]; rfl
  have g5 : w6.cell? ⟨w.heap.size, 5, none⟩ = some (.int .u64 A1) := by rw [HK6.out.cell]; rfl
  have g6 : w6.cell? ⟨w.heap.size, 6, none⟩ = some (.int .u64 A2) := by rw [HK6.out.cell]; rfl
  have g7 : w6.cell? ⟨w.heap.size, 7, none⟩ = some (.bool true) := by rw [HK6.out.cell]; rfl
  have g8 : w6.cell? ⟨w.heap.size, 8, none⟩ = some (.int .u64 A3) := by rw [HK6.out.cell]; rfl
  have g9 : w6.cell? ⟨w.heap.size, 9, none⟩ = some (.int .u64 A4) := by rw [HK6.out.cell]; rfl
  have g10 : w6.cell? ⟨w.heap.size, 10, none⟩ = some (.string D) := by rw [HK6.out.cell]; rfl
  exact bodyPost_ret (v := .tuple #[.agg #[.int .i64 C, .int .i64 F, .int .i64 N, .int .i64 H, .bool true, .int .u64 A1, .int .u64 A2, .bool true, .int .u64 A3, .int .u64 A4, .string D], .int .i64 0]) (by simp [results, Try.results18, go_sem, g0, g1, g2, g3, g4, g5, g6, g7, g8, g9, g10]) rfl ⟨by unfold tkSV; rw [HX.out, HPX.out, HD.out], HL6.out⟩
theorem stake_any (s : ByteArray) (hs : (s.size : Int) ≤ 9223372036854775807) (w : World) :
    Calls Try.prog 18 #[.string s] w fun e w' => e = .returned (tkSV s) ∧ Below w.heap.size w w' := by
  by_cases h : s.size < 40
  · exact stake_s40 s hs h w
  · by_cases hk : fsS s / 268435456 = 6
    · by_cases hj : s.size < 40 + lnS s
      · exact stake_sh s hs (by omega) hk hj w
      · exact stake_ok s hs (by omega) hk (by omega) w
    · exact stake_kd s hs (by omega) hk w
end Go.Proofs.Ytbhddodghbhjiaa
