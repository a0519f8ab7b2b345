/-
  The document's own Take of layer 6: a packet, but for its options; and of any text.
-/
import Derived.Test.YtbhddodghbhjiaaFRTa
import Derived.Test.YtbhddodghbhjiaaFROpt
import Derived.Deep.RegionHeld
namespace Go.Proofs.Ytbhddodghbhjiaa
open Go.RowKit
set_option linter.unusedVariables false

/-- A packet stored whole into a variable, as one operation. -/
theorem wpo_st15 {o : Oper} {a : Act} {w : World} {K : Act → World → Prop} {Q : Exit → Act → World → Prop} (x y : Operand) (ho : o.op = .store 27 x y)
    (g : Nat) (cells old : Array Value) (hx : a.eval x = .pointer (some ⟨g, 0, none⟩)) (hy : a.eval y = .agg cells) (hB : Blk w g 27 old) (h0 : old.size = 15) (hc : cells.size = 15) (h1 : cells.all (·.oneCell') = true)
    (h : ∀ w', Blk w' g 27 cells → Below g w w' → K (a.put o.dst undef) w') : Oper.wp Try.prog o a w K Q := by
  have hi : (Try.prog.info? 27).map (·.size) = some 15 := by kernel_rfl
  refine wp_store_row 27 x y ho g cells hx hy 27 old hB (by rw [hc]; exact hi) (by omega) h1 ?_
  exact h _ (setRow_heap w g old cells 27 _ hB) ⟨rfl, rfl, rfl, by simp [World.setRow], fun k hk => setRow_other w g k cells (by omega)⟩

set_option maxRecDepth 100000 in
set_option maxHeartbeats 16000000 in
theorem frtk_6 (s : ByteArray) (hs : s.size ≤ 140737488355328) (h0 : 20 ≤ s.size) (h1 : ¬ (f1N s < 69 ∨ 79 < f1N s)) (h2 : ¬ s.size < hdL s) (h3 : ¬ fo (tot 0 ((byt s).take (hdL s))) ≠ 65535) (h4 : ¬ (tlN s < hdL s ∨ 32768 ≤ ptN s)) (h5 : ¬ s.size < tlN s)  (w : World) :
    Calls Try.prog 12 #[.string s] w fun e w' => e = .returned (tkRV s) ∧ Below w.heap.size w w' := by
  have HZ : Hid ((#[.int .i64 0, .int .i64 0, .bool false, .bool false, .int .i64 0, .int .i64 0, .int .i64 0, .bool false, .int .u64 0, .int .u64 0, .bool false, .int .u64 0, .int .u64 0, .string ⟨#[]⟩, .string ⟨#[]⟩] : Array Value).size = 15 ∧ (#[.int .i64 0, .int .i64 0, .bool false, .bool false, .int .i64 0, .int .i64 0, .int .i64 0, .bool false, .int .u64 0, .int .u64 0, .bool false, .int .u64 0, .int .u64 0, .string ⟨#[]⟩, .string ⟨#[]⟩] : Array Value).all (·.oneCell') = true) := Lib.hid ⟨rfl, by simp [Value.oneCell']⟩
  have K0 := Lib.hid (Blk.new w 27 #[.int .i64 0, .int .i64 0, .bool false, .bool false, .int .i64 0, .int .i64 0, .int .i64 0, .bool false, .int .u64 0, .int .u64 0, .bool false, .int .u64 0, .int .u64 0, .string ⟨#[]⟩, .string ⟨#[]⟩])
  have L0 := Lib.hid ((Below.refl _ w).alloc (Nat.le_refl _) (.cells #[.int .i64 0, .int .i64 0, .bool false, .bool false, .int .i64 0, .int .i64 0, .int .i64 0, .bool false, .int .u64 0, .int .u64 0, .bool false, .int .u64 0, .int .u64 0, .string ⟨#[]⟩, .string ⟨#[]⟩] 27))
  have HN0 := Lib.hid (fun W => frnum s 0 1 (by decide) (by omega) hs W)
  have HN2 := Lib.hid (fun W => frnum s 2 2 (by decide) (by omega) hs W)
  have HN6 := Lib.hid (fun W => frnum s 6 2 (by decide) (by omega) hs W)
  have b0 := nAt_bd (a := 0) (k := 1) (by rw [byt_len]; omega) (byt_by s)
  have b2 := nAt_bd (a := 2) (k := 2) (by rw [byt_len]; omega) (byt_by s)
  have b6 := nAt_bd (a := 6) (k := 2) (by rw [byt_len]; omega) (byt_by s)
  have p1 : (256 : Int) ^ 1 = 256 := by decide
  have p2 : (256 : Int) ^ 2 = 65536 := by decide
  rw [p1] at b0
  rw [p2] at b2 b6
  have hf1 : nAt (byt s) 0 1 = f1N s := rfl
  have hT0 : ((tlN s : Nat) : Int) = nAt (byt s) 2 2 := by unfold tlN; omega
  have hP0 : nAt (byt s) 6 2 = ptN s := rfl
  have hsI : (s.size : Int) ≤ 140737488355328 := by omega
  have hI : ¬ (s.size : Int) < 20 := by omega
  rw [hf1] at HN0 b0
  rw [← hT0] at HN2 b2
  rw [hP0] at HN6 b6
  have hX0 : tkR s = (if opB (s.extract 20 (hdL s)) = false then (noPk, 50) else (pkS s, 0)) := by unfold tkR; rw [if_neg (show ¬ s.size < 20 by omega), if_neg h1, if_neg h2, if_neg h3, if_neg h4, if_neg h5]
  have hPX : pkS s = ⟨nAt (byt s) 1 1, nAt (byt s) 4 2, decide (ptN s / 16384 % 2 = 1), decide (ptN s / 8192 % 2 = 1), ptN s % 8192, nAt (byt s) 8 1, nAt (byt s) 9 1, false, 0, nAt (byt s) 12 4, false, 0, nAt (byt s) 16 4, s.extract 20 (hdL s), s.extract (hdL s) (tlN s)⟩ := rfl
  have hHe0 : 4 * (f1N s - 64) = ((hdL s : Nat) : Int) := by unfold hdL; omega
  obtain ⟨H, hH⟩ : ∃ H, hdL s = H := ⟨_, rfl⟩
  obtain ⟨F1, hF1⟩ : ∃ F, f1N s = F := ⟨_, rfl⟩
  rw [hH, hF1] at hHe0
  have hHe : 4 * (F1 - 64) = (H : Int) := hHe0
  rw [hF1] at HN0 b0 h1
  have hf69 : ¬ F1 < 69 := by omega
  have hf79 : ¬ 79 < F1 := by omega
  rw [hH] at h2 h3 h4 hX0 hPX
  have hH20 : 20 ≤ H := by omega
  have hH60 : H ≤ 60 := by omega
  obtain ⟨E, hE⟩ : ∃ E, s.extract 0 H = E := ⟨_, rfl⟩
  have hEs : E.size = H := by rw [← hE, ByteArray.size_extract]; omega
  have bE : byt E = (byt s).take H := by rw [← hE, byt_ext, List.drop_zero]
  have hcv := fun W => conv_bytes W E
  rw [hEs] at hcv
  have HRI := Lib.hid (fun W => bytesWorld_ri W E)
  have HBW := Lib.hid (fun W => bytesWorld_below W E)
  rw [hEs, bE] at HRI
  have HSm := Lib.hid (fun (W : World) (A : Option Addr) (c : Nat) (hz : RI .u8 W W.heap.size A H ((byt s).take H)) => refSum_any W W.heap.size A H c _ hz (Nat.le_refl _) (by omega))
  obtain ⟨TT, hTT⟩ : ∃ T, tlN s = T := ⟨_, rfl⟩
  obtain ⟨PT, hPT⟩ : ∃ P, ptN s = P := ⟨_, rfl⟩
  rw [hTT] at HN2 h4 h5 b2 hPX
  rw [hPT] at HN6 h4 b6 hPX
  have h3' : fo (tot 0 ((byt s).take H)) = 65535 := by simpa using h3
  rw [h3'] at HSm
  have HM1 := Lib.hid (fun W => frnum s 1 1 (by decide) (by omega) hs W)
  have c1 := nAt_bd (a := 1) (k := 1) (by rw [byt_len]; omega) (byt_by s)
  have HM4 := Lib.hid (fun W => frnum s 4 2 (by decide) (by omega) hs W)
  have c4 := nAt_bd (a := 4) (k := 2) (by rw [byt_len]; omega) (byt_by s)
  have HM8 := Lib.hid (fun W => frnum s 8 1 (by decide) (by omega) hs W)
  have c8 := nAt_bd (a := 8) (k := 1) (by rw [byt_len]; omega) (byt_by s)
  have HM9 := Lib.hid (fun W => frnum s 9 1 (by decide) (by omega) hs W)
  have c9 := nAt_bd (a := 9) (k := 1) (by rw [byt_len]; omega) (byt_by s)
  have HM12 := Lib.hid (fun W => frnum s 12 4 (by decide) (by omega) hs W)
  have c12 := nAt_bd (a := 12) (k := 4) (by rw [byt_len]; omega) (byt_by s)
  have HM16 := Lib.hid (fun W => frnum s 16 4 (by decide) (by omega) hs W)
  have c16 := nAt_bd (a := 16) (k := 4) (by rw [byt_len]; omega) (byt_by s)
  have p4 : (256 : Int) ^ 4 = 4294967296 := by decide
  rw [p1] at c1 c8 c9
  rw [p2] at c4
  rw [p4] at c12 c16
  obtain ⟨TOS, hTOS⟩ : ∃ X, nAt (byt s) 1 1 = X := ⟨_, rfl⟩
  rw [hTOS] at HM1 c1
  obtain ⟨ID, hID⟩ : ∃ X, nAt (byt s) 4 2 = X := ⟨_, rfl⟩
  rw [hID] at HM4 c4
  obtain ⟨TTL, hTTL⟩ : ∃ X, nAt (byt s) 8 1 = X := ⟨_, rfl⟩
  rw [hTTL] at HM8 c8
  obtain ⟨PRO, hPRO⟩ : ∃ X, nAt (byt s) 9 1 = X := ⟨_, rfl⟩
  rw [hPRO] at HM9 c9
  obtain ⟨LA, hLA⟩ : ∃ X, nAt (byt s) 12 4 = X := ⟨_, rfl⟩
  rw [hLA] at HM12 c12
  obtain ⟨LB, hLB⟩ : ∃ X, nAt (byt s) 16 4 = X := ⟨_, rfl⟩
  rw [hLB] at HM16 c16
  rw [hTOS, hID, hTTL, hPRO, hLA, hLB] at hPX
  obtain ⟨O, hO⟩ : ∃ O, s.extract 20 H = O := ⟨_, rfl⟩
  obtain ⟨D, hD⟩ : ∃ D, s.extract H TT = D := ⟨_, rfl⟩
  have hOs : O.size ≤ 4398046511104 := by rw [← hO, ByteArray.size_extract]; omega
  rw [hO] at hX0 hPX
  rw [hD] at hPX
  obtain ⟨Q1, hQ1⟩ : ∃ X, PT / 16384 = X := ⟨_, rfl⟩
  obtain ⟨Q2, hQ2⟩ : ∃ X, PT / 8192 = X := ⟨_, rfl⟩
  obtain ⟨Q3, hQ3⟩ : ∃ X, Q2 % 2 = X := ⟨_, rfl⟩
  obtain ⟨OFF, hOFF⟩ : ∃ X, PT % 8192 = X := ⟨_, rfl⟩
  have hq11 : Q1 % 2 = Q1 := by omega
  rw [hQ1, hQ2, hQ3, hOFF, hq11] at hPX
  obtain ⟨DF, hDF⟩ : ∃ b : Bool, (Q1 == 1) = b := ⟨_, rfl⟩
  obtain ⟨MF, hMF⟩ : ∃ b : Bool, (Q3 == 1) = b := ⟨_, rfl⟩
  have hd1 : decide (Q1 = 1) = DF := by rw [← hDF]; rfl
  have hd2 : decide (Q3 = 1) = MF := by rw [← hMF]; rfl
  rw [hd1, hd2] at hPX
  have HPX := Lib.hid hPX
  have t1 : Int.tdiv PT 16384 = Q1 := by rw [Int.tdiv_eq_ediv_of_nonneg b6.1]; exact hQ1
  have t2 : Int.tdiv PT 8192 = Q2 := by rw [Int.tdiv_eq_ediv_of_nonneg b6.1]; exact hQ2
  have t3 : Int.tmod Q2 2 = Q3 := by rw [Int.tmod_eq_emod_of_nonneg (by omega)]; exact hQ3
  have t4 : Int.tmod PT 8192 = OFF := by rw [Int.tmod_eq_emod_of_nonneg b6.1]; exact hOFF
  have t5 : IntKind.i64.wrap Q1 = Q1 := by rw [IntKind.wrap_i64]; omega
  have t6 : IntKind.i64.wrap Q2 = Q2 := by rw [IntKind.wrap_i64]; omega
  have t7 : IntKind.i64.wrap Q3 = Q3 := by rw [IntKind.wrap_i64]; omega
  have t8 : IntKind.i64.wrap OFF = OFF := by rw [IntKind.wrap_i64]; omega
  have v12 : IntKind.u64.wrap LA = LA := by rw [IntKind.wrap_u64]; omega
  have v16 : IntKind.u64.wrap LB = LB := by rw [IntKind.wrap_u64]; omega
  have hc : ¬ (s.size : Int) < (H : Int) := by omega
  have hc2 : (H : Int) ≤ s.size := by omega
  have hc3 : (20 : Int) ≤ H := by omega
  have hcs : ¬ (TT : Int) < H := by omega
  have hcs2 : ¬ 32768 ≤ PT := by omega
  have hcs3 : ¬ (s.size : Int) < TT := by omega
  have hcs4 : (TT : Int) ≤ s.size := by omega
  have hcs5 : (H : Int) ≤ TT := by omega
  have HOp := Lib.hid (fun W => ropt_any O hOs W)
  have hopB : opB O = (opn O.data.toList).isSome := rfl
  rw [hopB] at hX0
  obtain ⟨RO, hRO⟩ : ∃ R, opn O.data.toList = R := ⟨_, rfl⟩
  rw [hRO] at HOp hX0
  have HX0 := Lib.hid hX0
  clear b0 b2 b6 p1 p2 p4 hf1 hT0 hP0 hF1 h1 h0 hs h2 hHe0 hH hH20 hH60 hEs bE h3 h3' hTT hPT h4 h5 c1 c4 c8 c9 c12 c16 hPX hX0 hTOS hID hTTL hPRO hLA hLB hQ1 hQ2 hQ3 hOFF hq11 hd1 hd2 hopB hRO hOs
  go_enter Try.func12, Try.ntmps12
  go_wp2_with fail
  refine Calls.mono (HN0.out _) ?_
  rintro e w1 ⟨rfl, hb⟩
  have K1 := Lib.hid (K0.out.below hb K0.out.lt)
  have L1 := Lib.hid (L0.out.trans (hb.mono L0.out.size))
  clear hb
  go_wp2_with fail
  refine Calls.mono (HSm.out _ _ _ (HRI.out w1)) ?_
  rintro e w2 ⟨rfl, hb⟩
  have K1b := K1.out.below (HBW.out w1) K1.out.lt
  have K2 := Lib.hid (K1b.below hb K1b.lt)
  have L1b := L1.out.trans ((HBW.out w1).mono L1.out.size)
  have L2 := Lib.hid (L1b.trans (hb.mono L1b.size))
  clear hb K1b L1b hcv hE
  go_wp2_with fail
  refine Calls.mono (HN2.out _) ?_
  rintro e w3 ⟨rfl, hb⟩
  have K3 := Lib.hid (K2.out.below hb K2.out.lt)
  have L3 := Lib.hid (L2.out.trans (hb.mono L2.out.size))
  clear hb
  go_wp2_with fail
  refine Calls.mono (HN6.out _) ?_
  rintro e w4 ⟨rfl, hb⟩
  have K4 := Lib.hid (K3.out.below hb K3.out.lt)
  have L4 := Lib.hid (L3.out.trans (hb.mono L3.out.size))
  clear hb
  go_wp2
  refine wp_mono (Q := fun e a W => match e with | .normal => (∃ (M : Nat) (u1 u4 u5 u6 u7 u9 u10 u11 u12 u13 u14 u15 u16 u17 u18 u19 u20 u21 u22 u23 u24 u25 u26 u27 u28 u29 u30 u31 u32 u33 u34 u35 u36 u37 u38 u39 u40 u41 u42 u43 u44 u45 u46 u47 u48 u49 u50 u51 u52 u53 u54 u55 u56 u57 u58 u59 u60 u61 u62 u63 u64 u65 u66 u67 u68 u69 u70 u71 u72 u73 u74 u75 u76 u77 u78 u79 u80 u81 u82 u83 u84 u85 u86 u87 u88 u89 u90 u91 u92 u93 u94 u95 u96 u97 u98 u99 u100 u101 : Value), a = { tmps := #[.string s, u1, .pointer (some ⟨w.heap.size, 0, none⟩), .int .i64 0, u4, u5, u6, u7, .pointer (some ⟨M, 0, none⟩), u9, u10, u11, u12, u13, u14, u15, u16, u17, u18, u19, u20, u21, u22, u23, u24, u25, u26, u27, u28, u29, u30, u31, u32, u33, u34, u35, u36, u37, u38, u39, u40, u41, u42, u43, u44, u45, u46, u47, u48, u49, u50, u51, u52, u53, u54, u55, u56, u57, u58, u59, u60, u61, u62, u63, u64, u65, u66, u67, u68, u69, u70, u71, u72, u73, u74, u75, u76, u77, u78, u79, u80, u81, u82, u83, u84, u85, u86, u87, u88, u89, u90, u91, u92, u93, u94, u95, u96, u97, u98, u99, u100, u101], defers := [] } ∧ Hid (Blk W M 27 #[.int .i64 TOS, .int .i64 ID, .bool DF, .bool MF, .int .i64 OFF, .int .i64 TTL, .int .i64 PRO, .bool false, .int .u64 0, .int .u64 0, .bool false, .int .u64 0, .int .u64 0, .string O, .string D] ∧ Blk W w.heap.size 27 #[.int .i64 0, .int .i64 0, .bool false, .bool false, .int .i64 0, .int .i64 0, .int .i64 0, .bool false, .int .u64 0, .int .u64 0, .bool false, .int .u64 0, .int .u64 0, .string ⟨#[]⟩, .string ⟨#[]⟩] ∧ Below w.heap.size w W ∧ w.heap.size < M)) | _ => False) ?_ ?_
  have HQ0 : Hid ((#[.int .i64 TOS, .int .i64 ID, .bool DF, .bool MF, .int .i64 OFF, .int .i64 TTL, .int .i64 PRO, .bool false, .int .u64 0, .int .u64 0, .bool false, .int .u64 0, .int .u64 0, .string O, .string D] : Array Value).size = 15 ∧ (#[.int .i64 TOS, .int .i64 ID, .bool DF, .bool MF, .int .i64 OFF, .int .i64 TTL, .int .i64 PRO, .bool false, .int .u64 0, .int .u64 0, .bool false, .int .u64 0, .int .u64 0, .string O, .string D] : Array Value).all (·.oneCell') = true) := Lib.hid ⟨rfl, by simp [Value.oneCell']⟩
  · refine wp_region_held_drew (S := fun _ => True) (by kernel_rfl) trivial (fun hHeld => ?_)
    refine wpAnyH_take (i := 0) (oi := { dst := some 56, op := Go.Op.move (Go.Operand.tmp 0), type := 9, pos := "ref.go:94", after := #[], guard := none }) (v := ?_) rfl (by kernel_rfl) (by kernel_rfl) (by kernel_rfl) (fun _ _ _ h => h) (Or.inl ⟨by rfl, ?_⟩) (by assumption) ?_
    rotate_left
    · intro w hSw
      (try dsimp only at hSw)
      go_simp
      try (with_reducible rfl)
    try simp only [Act.put, List.setIfInBounds_toArray, List.set_cons_zero, List.set_cons_succ]
    refine wpAnyH_take (i := 2) (oi := { dst := some 58, op := Go.Op.move (Go.Operand.tmp 0), type := 9, pos := "ref.go:94", after := #[], guard := none }) (v := ?_) rfl (by kernel_rfl) (by kernel_rfl) (by kernel_rfl) (fun _ _ _ h => h) (Or.inl ⟨by rfl, ?_⟩) (by assumption) ?_
    rotate_left
    · intro w hSw
      (try dsimp only at hSw)
      go_simp
      try (with_reducible rfl)
    try simp only [Act.put, List.setIfInBounds_toArray, List.set_cons_zero, List.set_cons_succ]
    refine wpAnyH_take (i := 4) (oi := { dst := some 60, op := Go.Op.move (Go.Operand.tmp 7), type := 3, pos := "ref.go:94", after := #[], guard := none }) (v := ?_) rfl (by kernel_rfl) (by kernel_rfl) (by kernel_rfl) (fun _ _ _ h => h) (Or.inl ⟨by rfl, ?_⟩) (by assumption) ?_
    rotate_left
    · intro w hSw
      (try dsimp only at hSw)
      go_simp
      try (with_reducible rfl)
    try simp only [Act.put, List.setIfInBounds_toArray, List.set_cons_zero, List.set_cons_succ]
    refine wpAnyH_take (i := 5) (oi := { dst := some 61, op := Go.Op.binOp Go.BinOp.quo 3 (Go.Operand.tmp 60) (Go.Operand.const (Go.Value.int Go.IntKind.i64 16384)) 3, type := 3, pos := "ref.go:94", after := #[{ on := 4, ground := Go.Ground.data }], guard := none }) (v := ?_) rfl (by kernel_rfl) (by kernel_rfl) (by kernel_rfl) (fun _ _ _ h => h) (Or.inl ⟨by rfl, ?_⟩) (by assumption) ?_
    rotate_left
    · intro w hSw
      (try dsimp only at hSw)
      go_simp
      try (with_reducible rfl)
    try simp only [Act.put, List.setIfInBounds_toArray, List.set_cons_zero, List.set_cons_succ]
    refine wpAnyH_take (i := 6) (oi := { dst := some 62, op := Go.Op.binOp Go.BinOp.eql 3 (Go.Operand.tmp 61) (Go.Operand.const (Go.Value.int Go.IntKind.i64 1)) 3, type := 4, pos := "ref.go:94", after := #[{ on := 5, ground := Go.Ground.data }], guard := none }) (v := ?_) rfl (by kernel_rfl) (by kernel_rfl) (by kernel_rfl) (fun _ _ _ h => h) (Or.inl ⟨by rfl, ?_⟩) (by assumption) ?_
    rotate_left
    · intro w hSw
      (try dsimp only at hSw)
      go_simp
      try (with_reducible rfl)
    try simp only [Act.put, List.setIfInBounds_toArray, List.set_cons_zero, List.set_cons_succ]
    refine wpAnyH_take (i := 7) (oi := { dst := some 63, op := Go.Op.move (Go.Operand.tmp 7), type := 3, pos := "ref.go:94", after := #[], guard := none }) (v := ?_) rfl (by kernel_rfl) (by kernel_rfl) (by kernel_rfl) (fun _ _ _ h => h) (Or.inl ⟨by rfl, ?_⟩) (by assumption) ?_
    rotate_left
    · intro w hSw
      (try dsimp only at hSw)
      go_simp
      try (with_reducible rfl)
    try simp only [Act.put, List.setIfInBounds_toArray, List.set_cons_zero, List.set_cons_succ]
    refine wpAnyH_take (i := 8) (oi := { dst := some 64, op := Go.Op.binOp Go.BinOp.quo 3 (Go.Operand.tmp 63) (Go.Operand.const (Go.Value.int Go.IntKind.i64 8192)) 3, type := 3, pos := "ref.go:94", after := #[{ on := 7, ground := Go.Ground.data }], guard := none }) (v := ?_) rfl (by kernel_rfl) (by kernel_rfl) (by kernel_rfl) (fun _ _ _ h => h) (Or.inl ⟨by rfl, ?_⟩) (by assumption) ?_
    rotate_left
    · intro w hSw
      (try dsimp only at hSw)
      go_simp
      try (with_reducible rfl)
    try simp only [Act.put, List.setIfInBounds_toArray, List.set_cons_zero, List.set_cons_succ]
    refine wpAnyH_take (i := 9) (oi := { dst := some 65, op := Go.Op.binOp Go.BinOp.rem 3 (Go.Operand.tmp 64) (Go.Operand.const (Go.Value.int Go.IntKind.i64 2)) 3, type := 3, pos := "ref.go:94", after := #[{ on := 8, ground := Go.Ground.data }], guard := none }) (v := ?_) rfl (by kernel_rfl) (by kernel_rfl) (by kernel_rfl) (fun _ _ _ h => h) (Or.inl ⟨by rfl, ?_⟩) (by assumption) ?_
    rotate_left
    · intro w hSw
      (try dsimp only at hSw)
      go_simp
      try (with_reducible rfl)
    try simp only [Act.put, List.setIfInBounds_toArray, List.set_cons_zero, List.set_cons_succ]
    refine wpAnyH_take (i := 10) (oi := { dst := some 66, op := Go.Op.binOp Go.BinOp.eql 3 (Go.Operand.tmp 65) (Go.Operand.const (Go.Value.int Go.IntKind.i64 1)) 3, type := 4, pos := "ref.go:94", after := #[{ on := 9, ground := Go.Ground.data }], guard := none }) (v := ?_) rfl (by kernel_rfl) (by kernel_rfl) (by kernel_rfl) (fun _ _ _ h => h) (Or.inl ⟨by rfl, ?_⟩) (by assumption) ?_
    rotate_left
    · intro w hSw
      (try dsimp only at hSw)
      go_simp
      try (with_reducible rfl)
    try simp only [Act.put, List.setIfInBounds_toArray, List.set_cons_zero, List.set_cons_succ]
    refine wpAnyH_take (i := 11) (oi := { dst := some 67, op := Go.Op.move (Go.Operand.tmp 7), type := 3, pos := "ref.go:94", after := #[], guard := none }) (v := ?_) rfl (by kernel_rfl) (by kernel_rfl) (by kernel_rfl) (fun _ _ _ h => h) (Or.inl ⟨by rfl, ?_⟩) (by assumption) ?_
    rotate_left
    · intro w hSw
      (try dsimp only at hSw)
      go_simp
      try (with_reducible rfl)
    try simp only [Act.put, List.setIfInBounds_toArray, List.set_cons_zero, List.set_cons_succ]
    refine wpAnyH_take (i := 12) (oi := { dst := some 68, op := Go.Op.binOp Go.BinOp.rem 3 (Go.Operand.tmp 67) (Go.Operand.const (Go.Value.int Go.IntKind.i64 8192)) 3, type := 3, pos := "ref.go:94", after := #[{ on := 11, ground := Go.Ground.data }], guard := none }) (v := ?_) rfl (by kernel_rfl) (by kernel_rfl) (by kernel_rfl) (fun _ _ _ h => h) (Or.inl ⟨by rfl, ?_⟩) (by assumption) ?_
    rotate_left
    · intro w hSw
      (try dsimp only at hSw)
      go_simp
      try (with_reducible rfl)
    try simp only [Act.put, List.setIfInBounds_toArray, List.set_cons_zero, List.set_cons_succ]
    refine wpAnyH_take (i := 13) (oi := { dst := some 69, op := Go.Op.move (Go.Operand.tmp 0), type := 9, pos := "ref.go:94", after := #[], guard := none }) (v := ?_) rfl (by kernel_rfl) (by kernel_rfl) (by kernel_rfl) (fun _ _ _ h => h) (Or.inl ⟨by rfl, ?_⟩) (by assumption) ?_
    rotate_left
    · intro w hSw
      (try dsimp only at hSw)
      go_simp
      try (with_reducible rfl)
    try simp only [Act.put, List.setIfInBounds_toArray, List.set_cons_zero, List.set_cons_succ]
    refine wpAnyH_take (i := 15) (oi := { dst := some 71, op := Go.Op.move (Go.Operand.tmp 0), type := 9, pos := "ref.go:94", after := #[], guard := none }) (v := ?_) rfl (by kernel_rfl) (by kernel_rfl) (by kernel_rfl) (fun _ _ _ h => h) (Or.inl ⟨by rfl, ?_⟩) (by assumption) ?_
    rotate_left
    · intro w hSw
      (try dsimp only at hSw)
      go_simp
      try (with_reducible rfl)
    try simp only [Act.put, List.setIfInBounds_toArray, List.set_cons_zero, List.set_cons_succ]
    refine wpAnyH_take (i := 17) (oi := { dst := some 73, op := Go.Op.move (Go.Operand.tmp 0), type := 9, pos := "ref.go:94", after := #[], guard := none }) (v := ?_) rfl (by kernel_rfl) (by kernel_rfl) (by kernel_rfl) (fun _ _ _ h => h) (Or.inl ⟨by rfl, ?_⟩) (by assumption) ?_
    rotate_left
    · intro w hSw
      (try dsimp only at hSw)
      go_simp
      try (with_reducible rfl)
    try simp only [Act.put, List.setIfInBounds_toArray, List.set_cons_zero, List.set_cons_succ]
    refine wpAnyH_take (i := 18) (oi := { dst := some 74, op := Go.Op.move (Go.Operand.tmp 5), type := 3, pos := "ref.go:94", after := #[], guard := none }) (v := ?_) rfl (by kernel_rfl) (by kernel_rfl) (by kernel_rfl) (fun _ _ _ h => h) (Or.inl ⟨by rfl, ?_⟩) (by assumption) ?_
    rotate_left
    · intro w hSw
      (try dsimp only at hSw)
      go_simp
      try (with_reducible rfl)
    try simp only [Act.put, List.setIfInBounds_toArray, List.set_cons_zero, List.set_cons_succ]
    refine wpAnyH_take (i := 19) (oi := { dst := some 75, op := Go.Op.slice 9 (Go.Operand.tmp 73) (some (Go.Operand.const (Go.Value.int Go.IntKind.i64 20))) (some (Go.Operand.tmp 74)) none, type := 9, pos := "ref.go:94", after := #[{ on := 17, ground := Go.Ground.data }, { on := 18, ground := Go.Ground.data }], guard := none }) (v := ?_) rfl (by kernel_rfl) (by kernel_rfl) (by kernel_rfl) (fun _ _ _ h => h) (Or.inl ⟨by rfl, ?_⟩) (by assumption) ?_
    rotate_left
    · intro w hSw
      (try dsimp only at hSw)
      go_simp
      try (with_reducible rfl)
    try simp only [Act.put, List.setIfInBounds_toArray, List.set_cons_zero, List.set_cons_succ]
    refine wpAnyH_take (i := 20) (oi := { dst := some 76, op := Go.Op.move (Go.Operand.tmp 0), type := 9, pos := "ref.go:94", after := #[], guard := none }) (v := ?_) rfl (by kernel_rfl) (by kernel_rfl) (by kernel_rfl) (fun _ _ _ h => h) (Or.inl ⟨by rfl, ?_⟩) (by assumption) ?_
    rotate_left
    · intro w hSw
      (try dsimp only at hSw)
      go_simp
      try (with_reducible rfl)
    try simp only [Act.put, List.setIfInBounds_toArray, List.set_cons_zero, List.set_cons_succ]
    refine wpAnyH_take (i := 21) (oi := { dst := some 77, op := Go.Op.move (Go.Operand.tmp 5), type := 3, pos := "ref.go:94", after := #[], guard := none }) (v := ?_) rfl (by kernel_rfl) (by kernel_rfl) (by kernel_rfl) (fun _ _ _ h => h) (Or.inl ⟨by rfl, ?_⟩) (by assumption) ?_
    rotate_left
    · intro w hSw
      (try dsimp only at hSw)
      go_simp
      try (with_reducible rfl)
    try simp only [Act.put, List.setIfInBounds_toArray, List.set_cons_zero, List.set_cons_succ]
    refine wpAnyH_take (i := 22) (oi := { dst := some 78, op := Go.Op.move (Go.Operand.tmp 6), type := 3, pos := "ref.go:94", after := #[], guard := none }) (v := ?_) rfl (by kernel_rfl) (by kernel_rfl) (by kernel_rfl) (fun _ _ _ h => h) (Or.inl ⟨by rfl, ?_⟩) (by assumption) ?_
    rotate_left
    · intro w hSw
      (try dsimp only at hSw)
      go_simp
      try (with_reducible rfl)
    try simp only [Act.put, List.setIfInBounds_toArray, List.set_cons_zero, List.set_cons_succ]
    refine wpAnyH_take (i := 23) (oi := { dst := some 79, op := Go.Op.slice 9 (Go.Operand.tmp 76) (some (Go.Operand.tmp 77)) (some (Go.Operand.tmp 78)) none, type := 9, pos := "ref.go:94", after := #[{ on := 20, ground := Go.Ground.data }, { on := 21, ground := Go.Ground.data }, { on := 22, ground := Go.Ground.data }], guard := none }) (v := ?_) rfl (by kernel_rfl) (by kernel_rfl) (by kernel_rfl) (fun _ _ _ h => h) (Or.inl ⟨by rfl, ?_⟩) (by assumption) ?_
    rotate_left
    · intro w hSw
      (try dsimp only at hSw)
      go_simp
      try (with_reducible rfl)
    try simp only [Act.put, List.setIfInBounds_toArray, List.set_cons_zero, List.set_cons_succ]
    refine wpAnyH_ready (rs := [1, 25]) (by kernel_rfl) (by simp) ?_
    refine (AllReadyH.cons (o := { dst := some 57, op := Go.Op.call { callee := Go.Callee.value (Go.Operand.func 37), args := #[Go.Operand.tmp 56, Go.Operand.const (Go.Value.int Go.IntKind.i64 1), Go.Operand.const (Go.Value.int Go.IntKind.i64 1)], argTypes := #[9, 3, 3] }, type := 3, pos := "ref.go:94", after := #[{ on := 0, ground := Go.Ground.data }], guard := none }) rfl (fun K hK => ?_) (AllReadyH.cons (o := { dst := some 8, op := Go.Op.alloc 27, type := 0, pos := "ref.go:94", after := #[], guard := none }) rfl (fun K hK => ?_) AllReadyH.nil))
    · go_simp
      (go_at_call 37; (with_reducible refine Calls.mono (HM1.out _) ?_); rintro e y1 ⟨rfl, hb⟩)
      have KK1 := Lib.hid (K4.out.drew.below hb K4.out.drew.lt)
      have LL1 := Lib.hid (L4.out.drew.trans (hb.mono L4.out.drew.size))
      clear hb
      go_wp2_with fail
      refine hK.out _ _ ?_ (fun hHeld => ?_)
      · trivial
      clear hK K
      try simp only [Act.put, List.setIfInBounds_toArray, List.set_cons_zero, List.set_cons_succ]
      refine wpAnyH_ready (rs := [3, 25]) (by kernel_rfl) (by simp) ?_
      refine (AllReadyH.cons (o := { dst := some 59, op := Go.Op.call { callee := Go.Callee.value (Go.Operand.func 37), args := #[Go.Operand.tmp 58, Go.Operand.const (Go.Value.int Go.IntKind.i64 4), Go.Operand.const (Go.Value.int Go.IntKind.i64 2)], argTypes := #[9, 3, 3] }, type := 3, pos := "ref.go:94", after := #[{ on := 2, ground := Go.Ground.data }, { on := 1, ground := Go.Ground.chain }], guard := none }) rfl (fun K hK => ?_) (AllReadyH.cons (o := { dst := some 8, op := Go.Op.alloc 27, type := 0, pos := "ref.go:94", after := #[], guard := none }) rfl (fun K hK => ?_) AllReadyH.nil))
      · go_simp
        (go_at_call 37; (with_reducible refine Calls.mono (HM4.out _) ?_); rintro e y2 ⟨rfl, hb⟩)
        have KK2 := Lib.hid (KK1.out.below hb KK1.out.lt)
        have LL2 := Lib.hid (LL1.out.trans (hb.mono LL1.out.size))
        clear hb
        go_wp2_with fail
        refine hK.out _ _ ?_ (fun hHeld => ?_)
        · trivial
        clear hK K
        try simp only [Act.put, List.setIfInBounds_toArray, List.set_cons_zero, List.set_cons_succ]
        refine wpAnyH_ready (rs := [14, 25]) (by kernel_rfl) (by simp) ?_
        refine (AllReadyH.cons (o := { dst := some 70, op := Go.Op.call { callee := Go.Callee.value (Go.Operand.func 37), args := #[Go.Operand.tmp 69, Go.Operand.const (Go.Value.int Go.IntKind.i64 8), Go.Operand.const (Go.Value.int Go.IntKind.i64 1)], argTypes := #[9, 3, 3] }, type := 3, pos := "ref.go:94", after := #[{ on := 13, ground := Go.Ground.data }, { on := 3, ground := Go.Ground.chain }], guard := none }) rfl (fun K hK => ?_) (AllReadyH.cons (o := { dst := some 8, op := Go.Op.alloc 27, type := 0, pos := "ref.go:94", after := #[], guard := none }) rfl (fun K hK => ?_) AllReadyH.nil))
        · go_simp
          (go_at_call 37; (with_reducible refine Calls.mono (HM8.out _) ?_); rintro e y3 ⟨rfl, hb⟩)
          have KK3 := Lib.hid (KK2.out.below hb KK2.out.lt)
          have LL3 := Lib.hid (LL2.out.trans (hb.mono LL2.out.size))
          clear hb
          go_wp2_with fail
          refine hK.out _ _ ?_ (fun hHeld => ?_)
          · trivial
          clear hK K
          try simp only [Act.put, List.setIfInBounds_toArray, List.set_cons_zero, List.set_cons_succ]
          refine wpAnyH_ready (rs := [16, 25]) (by kernel_rfl) (by simp) ?_
          refine (AllReadyH.cons (o := { dst := some 72, op := Go.Op.call { callee := Go.Callee.value (Go.Operand.func 37), args := #[Go.Operand.tmp 71, Go.Operand.const (Go.Value.int Go.IntKind.i64 9), Go.Operand.const (Go.Value.int Go.IntKind.i64 1)], argTypes := #[9, 3, 3] }, type := 3, pos := "ref.go:94", after := #[{ on := 15, ground := Go.Ground.data }, { on := 14, ground := Go.Ground.chain }], guard := none }) rfl (fun K hK => ?_) (AllReadyH.cons (o := { dst := some 8, op := Go.Op.alloc 27, type := 0, pos := "ref.go:94", after := #[], guard := none }) rfl (fun K hK => ?_) AllReadyH.nil))
          · go_simp
            (go_at_call 37; (with_reducible refine Calls.mono (HM9.out _) ?_); rintro e y4 ⟨rfl, hb⟩)
            have KK4 := Lib.hid (KK3.out.below hb KK3.out.lt)
            have LL4 := Lib.hid (LL3.out.trans (hb.mono LL3.out.size))
            clear hb
            go_wp2_with fail
            refine hK.out _ _ ?_ (fun hHeld => ?_)
            · trivial
            clear hK K
            try simp only [Act.put, List.setIfInBounds_toArray, List.set_cons_zero, List.set_cons_succ]
            refine wpAnyH_take (i := 24) (oi := { dst := some 80, op := Go.Op.build 27 #[(0, Go.Operand.tmp 57), (1, Go.Operand.tmp 59), (2, Go.Operand.tmp 62), (3, Go.Operand.tmp 66), (4, Go.Operand.tmp 68), (5, Go.Operand.tmp 70), (6, Go.Operand.tmp 72), (9, Go.Operand.tmp 75), (10, Go.Operand.tmp 79)], type := 27, pos := "ref.go:94", after := #[{ on := 1, ground := Go.Ground.data }, { on := 3, ground := Go.Ground.data }, { on := 6, ground := Go.Ground.data }, { on := 10, ground := Go.Ground.data }, { on := 12, ground := Go.Ground.data }, { on := 14, ground := Go.Ground.data }, { on := 16, ground := Go.Ground.data }, { on := 19, ground := Go.Ground.data }, { on := 23, ground := Go.Ground.data }], guard := none }) (v := ?_) rfl (by kernel_rfl) (by kernel_rfl) (by kernel_rfl) (fun _ _ _ h => h) (Or.inl ⟨by rfl, ?_⟩) (by assumption) ?_
            rotate_left
            · intro w hSw
              (try dsimp only at hSw)
              go_simp
              try (with_reducible rfl)
            try simp only [Act.put, List.setIfInBounds_toArray, List.set_cons_zero, List.set_cons_succ]
            refine wpAnyH_ready (rs := [25]) (by kernel_rfl) (by simp) ?_
            refine (AllReadyH.cons (o := { dst := some 8, op := Go.Op.alloc 27, type := 0, pos := "ref.go:94", after := #[], guard := none }) rfl (fun K hK => ?_) AllReadyH.nil)
            · go_simp
              have KK5 := Lib.hid (KK4.out.alloc (.cells #[.int .i64 0, .int .i64 0, .bool false, .bool false, .int .i64 0, .int .i64 0, .int .i64 0, .bool false, .int .u64 0, .int .u64 0, .bool false, .int .u64 0, .int .u64 0, .string ⟨#[]⟩, .string ⟨#[]⟩] 27))
              have LL5 := Lib.hid (LL4.out.alloc LL4.out.size (.cells #[.int .i64 0, .int .i64 0, .bool false, .bool false, .int .i64 0, .int .i64 0, .int .i64 0, .bool false, .int .u64 0, .int .u64 0, .bool false, .int .u64 0, .int .u64 0, .string ⟨#[]⟩, .string ⟨#[]⟩] 27))
              have MM5 : Hid (Blk (y4.alloc (.cells #[.int .i64 0, .int .i64 0, .bool false, .bool false, .int .i64 0, .int .i64 0, .int .i64 0, .bool false, .int .u64 0, .int .u64 0, .bool false, .int .u64 0, .int .u64 0, .string ⟨#[]⟩, .string ⟨#[]⟩] 27)) y4.heap.size 27 #[.int .i64 0, .int .i64 0, .bool false, .bool false, .int .i64 0, .int .i64 0, .int .i64 0, .bool false, .int .u64 0, .int .u64 0, .bool false, .int .u64 0, .int .u64 0, .string ⟨#[]⟩, .string ⟨#[]⟩]) := Lib.hid (Blk.new y4 27 #[.int .i64 0, .int .i64 0, .bool false, .bool false, .int .i64 0, .int .i64 0, .int .i64 0, .bool false, .int .u64 0, .int .u64 0, .bool false, .int .u64 0, .int .u64 0, .string ⟨#[]⟩, .string ⟨#[]⟩])
              have hM : w.heap.size < y4.heap.size := KK4.out.lt
              refine hK.out _ _ ?_ (fun hHeld => ?_)
              · trivial
              clear hK K
              try simp only [Act.put, List.setIfInBounds_toArray, List.set_cons_zero, List.set_cons_succ]
              refine wpAnyH_ready (rs := [26]) (by kernel_rfl) (by simp) ?_
              refine (AllReadyH.cons (o := { dst := none, op := Go.Op.store 27 (Go.Operand.tmp 8) (Go.Operand.tmp 80), type := 0, pos := "ref.go:94", after := #[{ on := 25, ground := Go.Ground.data }, { on := 24, ground := Go.Ground.data }, { on := 16, ground := Go.Ground.chain }, { on := 0, ground := Go.Ground.phase }, { on := 1, ground := Go.Ground.phase }, { on := 2, ground := Go.Ground.phase }, { on := 3, ground := Go.Ground.phase }, { on := 4, ground := Go.Ground.phase }, { on := 5, ground := Go.Ground.phase }, { on := 6, ground := Go.Ground.phase }, { on := 7, ground := Go.Ground.phase }, { on := 8, ground := Go.Ground.phase }, { on := 9, ground := Go.Ground.phase }, { on := 10, ground := Go.Ground.phase }, { on := 11, ground := Go.Ground.phase }, { on := 12, ground := Go.Ground.phase }, { on := 13, ground := Go.Ground.phase }, { on := 14, ground := Go.Ground.phase }, { on := 15, ground := Go.Ground.phase }, { on := 16, ground := Go.Ground.phase }, { on := 17, ground := Go.Ground.phase }, { on := 18, ground := Go.Ground.phase }, { on := 19, ground := Go.Ground.phase }, { on := 20, ground := Go.Ground.phase }, { on := 21, ground := Go.Ground.phase }, { on := 22, ground := Go.Ground.phase }, { on := 23, ground := Go.Ground.phase }, { on := 24, ground := Go.Ground.phase }, { on := 25, ground := Go.Ground.phase }], guard := none }) rfl (fun K hK => ?_) AllReadyH.nil)
              · rw [if_pos (by rfl)]
                refine wpo_st15 (.tmp 8) (.tmp 80) rfl y4.heap.size #[.int .i64 TOS, .int .i64 ID, .bool DF, .bool MF, .int .i64 OFF, .int .i64 TTL, .int .i64 PRO, .bool false, .int .u64 0, .int .u64 0, .bool false, .int .u64 0, .int .u64 0, .string O, .string D] #[.int .i64 0, .int .i64 0, .bool false, .bool false, .int .i64 0, .int .i64 0, .int .i64 0, .bool false, .int .u64 0, .int .u64 0, .bool false, .int .u64 0, .int .u64 0, .string ⟨#[]⟩, .string ⟨#[]⟩] rfl rfl MM5.out HZ.out.1 HQ0.out.1 HQ0.out.2 (fun w9 hk9 hb9 => ?_)
                have KF := Lib.hid (KK5.out.below hb9 hM)
                have LF := Lib.hid (LL5.out.trans (hb9.mono (Nat.le_of_lt hM)))
                have MF9 := Lib.hid hk9
                clear hk9 hb9
                refine hK.out _ _ ?_ (fun hHeld => ?_)
                · trivial
                clear hK K
                try simp only [Act.put]
                refine wpAnyH_done (by kernel_rfl) ?_ _
                exact ⟨y4.heap.size, _, _, _, _, _, _, _, _, _, _, _, _, _, _, _, _, _, _, _, _, _, _, _, _, _, _, _, _, _, _, _, _, _, _, _, _, _, _, _, _, _, _, _, _, _, _, _, _, _, _, _, _, _, _, _, _, _, _, _, _, _, _, _, _, _, _, _, _, _, _, _, _, _, _, _, _, _, _, _, _, _, _, _, _, _, _, _, _, _, _, _, _, _, _, _, _, _, _, rfl, Lib.hid ⟨MF9.out, KF.out, LF.out, hM⟩⟩
          · go_simp
            have KK4 := Lib.hid (KK3.out.alloc (.cells #[.int .i64 0, .int .i64 0, .bool false, .bool false, .int .i64 0, .int .i64 0, .int .i64 0, .bool false, .int .u64 0, .int .u64 0, .bool false, .int .u64 0, .int .u64 0, .string ⟨#[]⟩, .string ⟨#[]⟩] 27))
            have LL4 := Lib.hid (LL3.out.alloc LL3.out.size (.cells #[.int .i64 0, .int .i64 0, .bool false, .bool false, .int .i64 0, .int .i64 0, .int .i64 0, .bool false, .int .u64 0, .int .u64 0, .bool false, .int .u64 0, .int .u64 0, .string ⟨#[]⟩, .string ⟨#[]⟩] 27))
            have MM4 : Hid (Blk (y3.alloc (.cells #[.int .i64 0, .int .i64 0, .bool false, .bool false, .int .i64 0, .int .i64 0, .int .i64 0, .bool false, .int .u64 0, .int .u64 0, .bool false, .int .u64 0, .int .u64 0, .string ⟨#[]⟩, .string ⟨#[]⟩] 27)) y3.heap.size 27 #[.int .i64 0, .int .i64 0, .bool false, .bool false, .int .i64 0, .int .i64 0, .int .i64 0, .bool false, .int .u64 0, .int .u64 0, .bool false, .int .u64 0, .int .u64 0, .string ⟨#[]⟩, .string ⟨#[]⟩]) := Lib.hid (Blk.new y3 27 #[.int .i64 0, .int .i64 0, .bool false, .bool false, .int .i64 0, .int .i64 0, .int .i64 0, .bool false, .int .u64 0, .int .u64 0, .bool false, .int .u64 0, .int .u64 0, .string ⟨#[]⟩, .string ⟨#[]⟩])
            have hM : w.heap.size < y3.heap.size := KK3.out.lt
            refine hK.out _ _ ?_ (fun hHeld => ?_)
            · trivial
            clear hK K
            try simp only [Act.put, List.setIfInBounds_toArray, List.set_cons_zero, List.set_cons_succ]
            refine wpAnyH_ready (rs := [16]) (by kernel_rfl) (by simp) ?_
            refine (AllReadyH.cons (o := { dst := some 72, op := Go.Op.call { callee := Go.Callee.value (Go.Operand.func 37), args := #[Go.Operand.tmp 71, Go.Operand.const (Go.Value.int Go.IntKind.i64 9), Go.Operand.const (Go.Value.int Go.IntKind.i64 1)], argTypes := #[9, 3, 3] }, type := 3, pos := "ref.go:94", after := #[{ on := 15, ground := Go.Ground.data }, { on := 14, ground := Go.Ground.chain }], guard := none }) rfl (fun K hK => ?_) AllReadyH.nil)
            · go_simp
              (go_at_call 37; (with_reducible refine Calls.mono (HM9.out _) ?_); rintro e y5 ⟨rfl, hb⟩)
              have KK5 := Lib.hid (KK4.out.below hb KK4.out.lt)
              have LL5 := Lib.hid (LL4.out.trans (hb.mono LL4.out.size))
              have MM5 := Lib.hid (MM4.out.below hb MM4.out.lt)
              clear hb
              go_wp2_with fail
              refine hK.out _ _ ?_ (fun hHeld => ?_)
              · trivial
              clear hK K
              try simp only [Act.put, List.setIfInBounds_toArray, List.set_cons_zero, List.set_cons_succ]
              refine wpAnyH_take (i := 24) (oi := { dst := some 80, op := Go.Op.build 27 #[(0, Go.Operand.tmp 57), (1, Go.Operand.tmp 59), (2, Go.Operand.tmp 62), (3, Go.Operand.tmp 66), (4, Go.Operand.tmp 68), (5, Go.Operand.tmp 70), (6, Go.Operand.tmp 72), (9, Go.Operand.tmp 75), (10, Go.Operand.tmp 79)], type := 27, pos := "ref.go:94", after := #[{ on := 1, ground := Go.Ground.data }, { on := 3, ground := Go.Ground.data }, { on := 6, ground := Go.Ground.data }, { on := 10, ground := Go.Ground.data }, { on := 12, ground := Go.Ground.data }, { on := 14, ground := Go.Ground.data }, { on := 16, ground := Go.Ground.data }, { on := 19, ground := Go.Ground.data }, { on := 23, ground := Go.Ground.data }], guard := none }) (v := ?_) rfl (by kernel_rfl) (by kernel_rfl) (by kernel_rfl) (fun _ _ _ h => h) (Or.inl ⟨by rfl, ?_⟩) (by assumption) ?_
              rotate_left
              · intro w hSw
                (try dsimp only at hSw)
                go_simp
                try (with_reducible rfl)
              try simp only [Act.put, List.setIfInBounds_toArray, List.set_cons_zero, List.set_cons_succ]
              refine wpAnyH_ready (rs := [26]) (by kernel_rfl) (by simp) ?_
              refine (AllReadyH.cons (o := { dst := none, op := Go.Op.store 27 (Go.Operand.tmp 8) (Go.Operand.tmp 80), type := 0, pos := "ref.go:94", after := #[{ on := 25, ground := Go.Ground.data }, { on := 24, ground := Go.Ground.data }, { on := 16, ground := Go.Ground.chain }, { on := 0, ground := Go.Ground.phase }, { on := 1, ground := Go.Ground.phase }, { on := 2, ground := Go.Ground.phase }, { on := 3, ground := Go.Ground.phase }, { on := 4, ground := Go.Ground.phase }, { on := 5, ground := Go.Ground.phase }, { on := 6, ground := Go.Ground.phase }, { on := 7, ground := Go.Ground.phase }, { on := 8, ground := Go.Ground.phase }, { on := 9, ground := Go.Ground.phase }, { on := 10, ground := Go.Ground.phase }, { on := 11, ground := Go.Ground.phase }, { on := 12, ground := Go.Ground.phase }, { on := 13, ground := Go.Ground.phase }, { on := 14, ground := Go.Ground.phase }, { on := 15, ground := Go.Ground.phase }, { on := 16, ground := Go.Ground.phase }, { on := 17, ground := Go.Ground.phase }, { on := 18, ground := Go.Ground.phase }, { on := 19, ground := Go.Ground.phase }, { on := 20, ground := Go.Ground.phase }, { on := 21, ground := Go.Ground.phase }, { on := 22, ground := Go.Ground.phase }, { on := 23, ground := Go.Ground.phase }, { on := 24, ground := Go.Ground.phase }, { on := 25, ground := Go.Ground.phase }], guard := none }) rfl (fun K hK => ?_) AllReadyH.nil)
              · rw [if_pos (by rfl)]
                refine wpo_st15 (.tmp 8) (.tmp 80) rfl y3.heap.size #[.int .i64 TOS, .int .i64 ID, .bool DF, .bool MF, .int .i64 OFF, .int .i64 TTL, .int .i64 PRO, .bool false, .int .u64 0, .int .u64 0, .bool false, .int .u64 0, .int .u64 0, .string O, .string D] #[.int .i64 0, .int .i64 0, .bool false, .bool false, .int .i64 0, .int .i64 0, .int .i64 0, .bool false, .int .u64 0, .int .u64 0, .bool false, .int .u64 0, .int .u64 0, .string ⟨#[]⟩, .string ⟨#[]⟩] rfl rfl MM5.out HZ.out.1 HQ0.out.1 HQ0.out.2 (fun w9 hk9 hb9 => ?_)
                have KF := Lib.hid (KK5.out.below hb9 hM)
                have LF := Lib.hid (LL5.out.trans (hb9.mono (Nat.le_of_lt hM)))
                have MF9 := Lib.hid hk9
                clear hk9 hb9
                refine hK.out _ _ ?_ (fun hHeld => ?_)
                · trivial
                clear hK K
                try simp only [Act.put]
                refine wpAnyH_done (by kernel_rfl) ?_ _
                exact ⟨y3.heap.size, _, _, _, _, _, _, _, _, _, _, _, _, _, _, _, _, _, _, _, _, _, _, _, _, _, _, _, _, _, _, _, _, _, _, _, _, _, _, _, _, _, _, _, _, _, _, _, _, _, _, _, _, _, _, _, _, _, _, _, _, _, _, _, _, _, _, _, _, _, _, _, _, _, _, _, _, _, _, _, _, _, _, _, _, _, _, _, _, _, _, _, _, _, _, _, _, _, _, rfl, Lib.hid ⟨MF9.out, KF.out, LF.out, hM⟩⟩
        · go_simp
          have KK3 := Lib.hid (KK2.out.alloc (.cells #[.int .i64 0, .int .i64 0, .bool false, .bool false, .int .i64 0, .int .i64 0, .int .i64 0, .bool false, .int .u64 0, .int .u64 0, .bool false, .int .u64 0, .int .u64 0, .string ⟨#[]⟩, .string ⟨#[]⟩] 27))
          have LL3 := Lib.hid (LL2.out.alloc LL2.out.size (.cells #[.int .i64 0, .int .i64 0, .bool false, .bool false, .int .i64 0, .int .i64 0, .int .i64 0, .bool false, .int .u64 0, .int .u64 0, .bool false, .int .u64 0, .int .u64 0, .string ⟨#[]⟩, .string ⟨#[]⟩] 27))
          have MM3 : Hid (Blk (y2.alloc (.cells #[.int .i64 0, .int .i64 0, .bool false, .bool false, .int .i64 0, .int .i64 0, .int .i64 0, .bool false, .int .u64 0, .int .u64 0, .bool false, .int .u64 0, .int .u64 0, .string ⟨#[]⟩, .string ⟨#[]⟩] 27)) y2.heap.size 27 #[.int .i64 0, .int .i64 0, .bool false, .bool false, .int .i64 0, .int .i64 0, .int .i64 0, .bool false, .int .u64 0, .int .u64 0, .bool false, .int .u64 0, .int .u64 0, .string ⟨#[]⟩, .string ⟨#[]⟩]) := Lib.hid (Blk.new y2 27 #[.int .i64 0, .int .i64 0, .bool false, .bool false, .int .i64 0, .int .i64 0, .int .i64 0, .bool false, .int .u64 0, .int .u64 0, .bool false, .int .u64 0, .int .u64 0, .string ⟨#[]⟩, .string ⟨#[]⟩])
          have hM : w.heap.size < y2.heap.size := KK2.out.lt
          refine hK.out _ _ ?_ (fun hHeld => ?_)
          · trivial
          clear hK K
          try simp only [Act.put, List.setIfInBounds_toArray, List.set_cons_zero, List.set_cons_succ]
          refine wpAnyH_ready (rs := [14]) (by kernel_rfl) (by simp) ?_
          refine (AllReadyH.cons (o := { dst := some 70, op := Go.Op.call { callee := Go.Callee.value (Go.Operand.func 37), args := #[Go.Operand.tmp 69, Go.Operand.const (Go.Value.int Go.IntKind.i64 8), Go.Operand.const (Go.Value.int Go.IntKind.i64 1)], argTypes := #[9, 3, 3] }, type := 3, pos := "ref.go:94", after := #[{ on := 13, ground := Go.Ground.data }, { on := 3, ground := Go.Ground.chain }], guard := none }) rfl (fun K hK => ?_) AllReadyH.nil)
          · go_simp
            (go_at_call 37; (with_reducible refine Calls.mono (HM8.out _) ?_); rintro e y4 ⟨rfl, hb⟩)
            have KK4 := Lib.hid (KK3.out.below hb KK3.out.lt)
            have LL4 := Lib.hid (LL3.out.trans (hb.mono LL3.out.size))
            have MM4 := Lib.hid (MM3.out.below hb MM3.out.lt)
            clear hb
            go_wp2_with fail
            refine hK.out _ _ ?_ (fun hHeld => ?_)
            · trivial
            clear hK K
            try simp only [Act.put, List.setIfInBounds_toArray, List.set_cons_zero, List.set_cons_succ]
            refine wpAnyH_ready (rs := [16]) (by kernel_rfl) (by simp) ?_
            refine (AllReadyH.cons (o := { dst := some 72, op := Go.Op.call { callee := Go.Callee.value (Go.Operand.func 37), args := #[Go.Operand.tmp 71, Go.Operand.const (Go.Value.int Go.IntKind.i64 9), Go.Operand.const (Go.Value.int Go.IntKind.i64 1)], argTypes := #[9, 3, 3] }, type := 3, pos := "ref.go:94", after := #[{ on := 15, ground := Go.Ground.data }, { on := 14, ground := Go.Ground.chain }], guard := none }) rfl (fun K hK => ?_) AllReadyH.nil)
            · go_simp
              (go_at_call 37; (with_reducible refine Calls.mono (HM9.out _) ?_); rintro e y5 ⟨rfl, hb⟩)
              have KK5 := Lib.hid (KK4.out.below hb KK4.out.lt)
              have LL5 := Lib.hid (LL4.out.trans (hb.mono LL4.out.size))
              have MM5 := Lib.hid (MM4.out.below hb MM4.out.lt)
              clear hb
              go_wp2_with fail
              refine hK.out _ _ ?_ (fun hHeld => ?_)
              · trivial
              clear hK K
              try simp only [Act.put, List.setIfInBounds_toArray, List.set_cons_zero, List.set_cons_succ]
              refine wpAnyH_take (i := 24) (oi := { dst := some 80, op := Go.Op.build 27 #[(0, Go.Operand.tmp 57), (1, Go.Operand.tmp 59), (2, Go.Operand.tmp 62), (3, Go.Operand.tmp 66), (4, Go.Operand.tmp 68), (5, Go.Operand.tmp 70), (6, Go.Operand.tmp 72), (9, Go.Operand.tmp 75), (10, Go.Operand.tmp 79)], type := 27, pos := "ref.go:94", after := #[{ on := 1, ground := Go.Ground.data }, { on := 3, ground := Go.Ground.data }, { on := 6, ground := Go.Ground.data }, { on := 10, ground := Go.Ground.data }, { on := 12, ground := Go.Ground.data }, { on := 14, ground := Go.Ground.data }, { on := 16, ground := Go.Ground.data }, { on := 19, ground := Go.Ground.data }, { on := 23, ground := Go.Ground.data }], guard := none }) (v := ?_) rfl (by kernel_rfl) (by kernel_rfl) (by kernel_rfl) (fun _ _ _ h => h) (Or.inl ⟨by rfl, ?_⟩) (by assumption) ?_
              rotate_left
              · intro w hSw
                (try dsimp only at hSw)
                go_simp
                try (with_reducible rfl)
              try simp only [Act.put, List.setIfInBounds_toArray, List.set_cons_zero, List.set_cons_succ]
              refine wpAnyH_ready (rs := [26]) (by kernel_rfl) (by simp) ?_
              refine (AllReadyH.cons (o := { dst := none, op := Go.Op.store 27 (Go.Operand.tmp 8) (Go.Operand.tmp 80), type := 0, pos := "ref.go:94", after := #[{ on := 25, ground := Go.Ground.data }, { on := 24, ground := Go.Ground.data }, { on := 16, ground := Go.Ground.chain }, { on := 0, ground := Go.Ground.phase }, { on := 1, ground := Go.Ground.phase }, { on := 2, ground := Go.Ground.phase }, { on := 3, ground := Go.Ground.phase }, { on := 4, ground := Go.Ground.phase }, { on := 5, ground := Go.Ground.phase }, { on := 6, ground := Go.Ground.phase }, { on := 7, ground := Go.Ground.phase }, { on := 8, ground := Go.Ground.phase }, { on := 9, ground := Go.Ground.phase }, { on := 10, ground := Go.Ground.phase }, { on := 11, ground := Go.Ground.phase }, { on := 12, ground := Go.Ground.phase }, { on := 13, ground := Go.Ground.phase }, { on := 14, ground := Go.Ground.phase }, { on := 15, ground := Go.Ground.phase }, { on := 16, ground := Go.Ground.phase }, { on := 17, ground := Go.Ground.phase }, { on := 18, ground := Go.Ground.phase }, { on := 19, ground := Go.Ground.phase }, { on := 20, ground := Go.Ground.phase }, { on := 21, ground := Go.Ground.phase }, { on := 22, ground := Go.Ground.phase }, { on := 23, ground := Go.Ground.phase }, { on := 24, ground := Go.Ground.phase }, { on := 25, ground := Go.Ground.phase }], guard := none }) rfl (fun K hK => ?_) AllReadyH.nil)
              · rw [if_pos (by rfl)]
                refine wpo_st15 (.tmp 8) (.tmp 80) rfl y2.heap.size #[.int .i64 TOS, .int .i64 ID, .bool DF, .bool MF, .int .i64 OFF, .int .i64 TTL, .int .i64 PRO, .bool false, .int .u64 0, .int .u64 0, .bool false, .int .u64 0, .int .u64 0, .string O, .string D] #[.int .i64 0, .int .i64 0, .bool false, .bool false, .int .i64 0, .int .i64 0, .int .i64 0, .bool false, .int .u64 0, .int .u64 0, .bool false, .int .u64 0, .int .u64 0, .string ⟨#[]⟩, .string ⟨#[]⟩] rfl rfl MM5.out HZ.out.1 HQ0.out.1 HQ0.out.2 (fun w9 hk9 hb9 => ?_)
                have KF := Lib.hid (KK5.out.below hb9 hM)
                have LF := Lib.hid (LL5.out.trans (hb9.mono (Nat.le_of_lt hM)))
                have MF9 := Lib.hid hk9
                clear hk9 hb9
                refine hK.out _ _ ?_ (fun hHeld => ?_)
                · trivial
                clear hK K
                try simp only [Act.put]
                refine wpAnyH_done (by kernel_rfl) ?_ _
                exact ⟨y2.heap.size, _, _, _, _, _, _, _, _, _, _, _, _, _, _, _, _, _, _, _, _, _, _, _, _, _, _, _, _, _, _, _, _, _, _, _, _, _, _, _, _, _, _, _, _, _, _, _, _, _, _, _, _, _, _, _, _, _, _, _, _, _, _, _, _, _, _, _, _, _, _, _, _, _, _, _, _, _, _, _, _, _, _, _, _, _, _, _, _, _, _, _, _, _, _, _, _, _, _, rfl, Lib.hid ⟨MF9.out, KF.out, LF.out, hM⟩⟩
      · go_simp
        have KK2 := Lib.hid (KK1.out.alloc (.cells #[.int .i64 0, .int .i64 0, .bool false, .bool false, .int .i64 0, .int .i64 0, .int .i64 0, .bool false, .int .u64 0, .int .u64 0, .bool false, .int .u64 0, .int .u64 0, .string ⟨#[]⟩, .string ⟨#[]⟩] 27))
        have LL2 := Lib.hid (LL1.out.alloc LL1.out.size (.cells #[.int .i64 0, .int .i64 0, .bool false, .bool false, .int .i64 0, .int .i64 0, .int .i64 0, .bool false, .int .u64 0, .int .u64 0, .bool false, .int .u64 0, .int .u64 0, .string ⟨#[]⟩, .string ⟨#[]⟩] 27))
        have MM2 : Hid (Blk (y1.alloc (.cells #[.int .i64 0, .int .i64 0, .bool false, .bool false, .int .i64 0, .int .i64 0, .int .i64 0, .bool false, .int .u64 0, .int .u64 0, .bool false, .int .u64 0, .int .u64 0, .string ⟨#[]⟩, .string ⟨#[]⟩] 27)) y1.heap.size 27 #[.int .i64 0, .int .i64 0, .bool false, .bool false, .int .i64 0, .int .i64 0, .int .i64 0, .bool false, .int .u64 0, .int .u64 0, .bool false, .int .u64 0, .int .u64 0, .string ⟨#[]⟩, .string ⟨#[]⟩]) := Lib.hid (Blk.new y1 27 #[.int .i64 0, .int .i64 0, .bool false, .bool false, .int .i64 0, .int .i64 0, .int .i64 0, .bool false, .int .u64 0, .int .u64 0, .bool false, .int .u64 0, .int .u64 0, .string ⟨#[]⟩, .string ⟨#[]⟩])
        have hM : w.heap.size < y1.heap.size := KK1.out.lt
        refine hK.out _ _ ?_ (fun hHeld => ?_)
        · trivial
        clear hK K
        try simp only [Act.put, List.setIfInBounds_toArray, List.set_cons_zero, List.set_cons_succ]
        refine wpAnyH_ready (rs := [3]) (by kernel_rfl) (by simp) ?_
        refine (AllReadyH.cons (o := { dst := some 59, op := Go.Op.call { callee := Go.Callee.value (Go.Operand.func 37), args := #[Go.Operand.tmp 58, Go.Operand.const (Go.Value.int Go.IntKind.i64 4), Go.Operand.const (Go.Value.int Go.IntKind.i64 2)], argTypes := #[9, 3, 3] }, type := 3, pos := "ref.go:94", after := #[{ on := 2, ground := Go.Ground.data }, { on := 1, ground := Go.Ground.chain }], guard := none }) rfl (fun K hK => ?_) AllReadyH.nil)
        · go_simp
          (go_at_call 37; (with_reducible refine Calls.mono (HM4.out _) ?_); rintro e y3 ⟨rfl, hb⟩)
          have KK3 := Lib.hid (KK2.out.below hb KK2.out.lt)
          have LL3 := Lib.hid (LL2.out.trans (hb.mono LL2.out.size))
          have MM3 := Lib.hid (MM2.out.below hb MM2.out.lt)
          clear hb
          go_wp2_with fail
          refine hK.out _ _ ?_ (fun hHeld => ?_)
          · trivial
          clear hK K
          try simp only [Act.put, List.setIfInBounds_toArray, List.set_cons_zero, List.set_cons_succ]
          refine wpAnyH_ready (rs := [14]) (by kernel_rfl) (by simp) ?_
          refine (AllReadyH.cons (o := { dst := some 70, op := Go.Op.call { callee := Go.Callee.value (Go.Operand.func 37), args := #[Go.Operand.tmp 69, Go.Operand.const (Go.Value.int Go.IntKind.i64 8), Go.Operand.const (Go.Value.int Go.IntKind.i64 1)], argTypes := #[9, 3, 3] }, type := 3, pos := "ref.go:94", after := #[{ on := 13, ground := Go.Ground.data }, { on := 3, ground := Go.Ground.chain }], guard := none }) rfl (fun K hK => ?_) AllReadyH.nil)
          · go_simp
            (go_at_call 37; (with_reducible refine Calls.mono (HM8.out _) ?_); rintro e y4 ⟨rfl, hb⟩)
            have KK4 := Lib.hid (KK3.out.below hb KK3.out.lt)
            have LL4 := Lib.hid (LL3.out.trans (hb.mono LL3.out.size))
            have MM4 := Lib.hid (MM3.out.below hb MM3.out.lt)
            clear hb
            go_wp2_with fail
            refine hK.out _ _ ?_ (fun hHeld => ?_)
            · trivial
            clear hK K
            try simp only [Act.put, List.setIfInBounds_toArray, List.set_cons_zero, List.set_cons_succ]
            refine wpAnyH_ready (rs := [16]) (by kernel_rfl) (by simp) ?_
            refine (AllReadyH.cons (o := { dst := some 72, op := Go.Op.call { callee := Go.Callee.value (Go.Operand.func 37), args := #[Go.Operand.tmp 71, Go.Operand.const (Go.Value.int Go.IntKind.i64 9), Go.Operand.const (Go.Value.int Go.IntKind.i64 1)], argTypes := #[9, 3, 3] }, type := 3, pos := "ref.go:94", after := #[{ on := 15, ground := Go.Ground.data }, { on := 14, ground := Go.Ground.chain }], guard := none }) rfl (fun K hK => ?_) AllReadyH.nil)
            · go_simp
              (go_at_call 37; (with_reducible refine Calls.mono (HM9.out _) ?_); rintro e y5 ⟨rfl, hb⟩)
              have KK5 := Lib.hid (KK4.out.below hb KK4.out.lt)
              have LL5 := Lib.hid (LL4.out.trans (hb.mono LL4.out.size))
              have MM5 := Lib.hid (MM4.out.below hb MM4.out.lt)
              clear hb
              go_wp2_with fail
              refine hK.out _ _ ?_ (fun hHeld => ?_)
              · trivial
              clear hK K
              try simp only [Act.put, List.setIfInBounds_toArray, List.set_cons_zero, List.set_cons_succ]
              refine wpAnyH_take (i := 24) (oi := { dst := some 80, op := Go.Op.build 27 #[(0, Go.Operand.tmp 57), (1, Go.Operand.tmp 59), (2, Go.Operand.tmp 62), (3, Go.Operand.tmp 66), (4, Go.Operand.tmp 68), (5, Go.Operand.tmp 70), (6, Go.Operand.tmp 72), (9, Go.Operand.tmp 75), (10, Go.Operand.tmp 79)], type := 27, pos := "ref.go:94", after := #[{ on := 1, ground := Go.Ground.data }, { on := 3, ground := Go.Ground.data }, { on := 6, ground := Go.Ground.data }, { on := 10, ground := Go.Ground.data }, { on := 12, ground := Go.Ground.data }, { on := 14, ground := Go.Ground.data }, { on := 16, ground := Go.Ground.data }, { on := 19, ground := Go.Ground.data }, { on := 23, ground := Go.Ground.data }], guard := none }) (v := ?_) rfl (by kernel_rfl) (by kernel_rfl) (by kernel_rfl) (fun _ _ _ h => h) (Or.inl ⟨by rfl, ?_⟩) (by assumption) ?_
              rotate_left
              · intro w hSw
                (try dsimp only at hSw)
                go_simp
                try (with_reducible rfl)
              try simp only [Act.put, List.setIfInBounds_toArray, List.set_cons_zero, List.set_cons_succ]
              refine wpAnyH_ready (rs := [26]) (by kernel_rfl) (by simp) ?_
              refine (AllReadyH.cons (o := { dst := none, op := Go.Op.store 27 (Go.Operand.tmp 8) (Go.Operand.tmp 80), type := 0, pos := "ref.go:94", after := #[{ on := 25, ground := Go.Ground.data }, { on := 24, ground := Go.Ground.data }, { on := 16, ground := Go.Ground.chain }, { on := 0, ground := Go.Ground.phase }, { on := 1, ground := Go.Ground.phase }, { on := 2, ground := Go.Ground.phase }, { on := 3, ground := Go.Ground.phase }, { on := 4, ground := Go.Ground.phase }, { on := 5, ground := Go.Ground.phase }, { on := 6, ground := Go.Ground.phase }, { on := 7, ground := Go.Ground.phase }, { on := 8, ground := Go.Ground.phase }, { on := 9, ground := Go.Ground.phase }, { on := 10, ground := Go.Ground.phase }, { on := 11, ground := Go.Ground.phase }, { on := 12, ground := Go.Ground.phase }, { on := 13, ground := Go.Ground.phase }, { on := 14, ground := Go.Ground.phase }, { on := 15, ground := Go.Ground.phase }, { on := 16, ground := Go.Ground.phase }, { on := 17, ground := Go.Ground.phase }, { on := 18, ground := Go.Ground.phase }, { on := 19, ground := Go.Ground.phase }, { on := 20, ground := Go.Ground.phase }, { on := 21, ground := Go.Ground.phase }, { on := 22, ground := Go.Ground.phase }, { on := 23, ground := Go.Ground.phase }, { on := 24, ground := Go.Ground.phase }, { on := 25, ground := Go.Ground.phase }], guard := none }) rfl (fun K hK => ?_) AllReadyH.nil)
              · rw [if_pos (by rfl)]
                refine wpo_st15 (.tmp 8) (.tmp 80) rfl y1.heap.size #[.int .i64 TOS, .int .i64 ID, .bool DF, .bool MF, .int .i64 OFF, .int .i64 TTL, .int .i64 PRO, .bool false, .int .u64 0, .int .u64 0, .bool false, .int .u64 0, .int .u64 0, .string O, .string D] #[.int .i64 0, .int .i64 0, .bool false, .bool false, .int .i64 0, .int .i64 0, .int .i64 0, .bool false, .int .u64 0, .int .u64 0, .bool false, .int .u64 0, .int .u64 0, .string ⟨#[]⟩, .string ⟨#[]⟩] rfl rfl MM5.out HZ.out.1 HQ0.out.1 HQ0.out.2 (fun w9 hk9 hb9 => ?_)
                have KF := Lib.hid (KK5.out.below hb9 hM)
                have LF := Lib.hid (LL5.out.trans (hb9.mono (Nat.le_of_lt hM)))
                have MF9 := Lib.hid hk9
                clear hk9 hb9
                refine hK.out _ _ ?_ (fun hHeld => ?_)
                · trivial
                clear hK K
                try simp only [Act.put]
                refine wpAnyH_done (by kernel_rfl) ?_ _
                exact ⟨y1.heap.size, _, _, _, _, _, _, _, _, _, _, _, _, _, _, _, _, _, _, _, _, _, _, _, _, _, _, _, _, _, _, _, _, _, _, _, _, _, _, _, _, _, _, _, _, _, _, _, _, _, _, _, _, _, _, _, _, _, _, _, _, _, _, _, _, _, _, _, _, _, _, _, _, _, _, _, _, _, _, _, _, _, _, _, _, _, _, _, _, _, _, _, _, _, _, _, _, _, _, rfl, Lib.hid ⟨MF9.out, KF.out, LF.out, hM⟩⟩
    · go_simp
      have KK1 := Lib.hid (K4.out.drew.alloc (.cells #[.int .i64 0, .int .i64 0, .bool false, .bool false, .int .i64 0, .int .i64 0, .int .i64 0, .bool false, .int .u64 0, .int .u64 0, .bool false, .int .u64 0, .int .u64 0, .string ⟨#[]⟩, .string ⟨#[]⟩] 27))
      have LL1 := Lib.hid (L4.out.drew.alloc L4.out.drew.size (.cells #[.int .i64 0, .int .i64 0, .bool false, .bool false, .int .i64 0, .int .i64 0, .int .i64 0, .bool false, .int .u64 0, .int .u64 0, .bool false, .int .u64 0, .int .u64 0, .string ⟨#[]⟩, .string ⟨#[]⟩] 27))
      have MM1 : Hid (Blk (w4.drew.alloc (.cells #[.int .i64 0, .int .i64 0, .bool false, .bool false, .int .i64 0, .int .i64 0, .int .i64 0, .bool false, .int .u64 0, .int .u64 0, .bool false, .int .u64 0, .int .u64 0, .string ⟨#[]⟩, .string ⟨#[]⟩] 27)) w4.heap.size 27 #[.int .i64 0, .int .i64 0, .bool false, .bool false, .int .i64 0, .int .i64 0, .int .i64 0, .bool false, .int .u64 0, .int .u64 0, .bool false, .int .u64 0, .int .u64 0, .string ⟨#[]⟩, .string ⟨#[]⟩]) := Lib.hid (Blk.new w4.drew 27 #[.int .i64 0, .int .i64 0, .bool false, .bool false, .int .i64 0, .int .i64 0, .int .i64 0, .bool false, .int .u64 0, .int .u64 0, .bool false, .int .u64 0, .int .u64 0, .string ⟨#[]⟩, .string ⟨#[]⟩])
      have hM : w.heap.size < w4.heap.size := K4.out.drew.lt
      refine hK.out _ _ ?_ (fun hHeld => ?_)
      · trivial
      clear hK K
      try simp only [Act.put, List.setIfInBounds_toArray, List.set_cons_zero, List.set_cons_succ]
      refine wpAnyH_ready (rs := [1]) (by kernel_rfl) (by simp) ?_
      refine (AllReadyH.cons (o := { dst := some 57, op := Go.Op.call { callee := Go.Callee.value (Go.Operand.func 37), args := #[Go.Operand.tmp 56, Go.Operand.const (Go.Value.int Go.IntKind.i64 1), Go.Operand.const (Go.Value.int Go.IntKind.i64 1)], argTypes := #[9, 3, 3] }, type := 3, pos := "ref.go:94", after := #[{ on := 0, ground := Go.Ground.data }], guard := none }) rfl (fun K hK => ?_) AllReadyH.nil)
      · go_simp
        (go_at_call 37; (with_reducible refine Calls.mono (HM1.out _) ?_); rintro e y2 ⟨rfl, hb⟩)
        have KK2 := Lib.hid (KK1.out.below hb KK1.out.lt)
        have LL2 := Lib.hid (LL1.out.trans (hb.mono LL1.out.size))
        have MM2 := Lib.hid (MM1.out.below hb MM1.out.lt)
        clear hb
        go_wp2_with fail
        refine hK.out _ _ ?_ (fun hHeld => ?_)
        · trivial
        clear hK K
        try simp only [Act.put, List.setIfInBounds_toArray, List.set_cons_zero, List.set_cons_succ]
        refine wpAnyH_ready (rs := [3]) (by kernel_rfl) (by simp) ?_
        refine (AllReadyH.cons (o := { dst := some 59, op := Go.Op.call { callee := Go.Callee.value (Go.Operand.func 37), args := #[Go.Operand.tmp 58, Go.Operand.const (Go.Value.int Go.IntKind.i64 4), Go.Operand.const (Go.Value.int Go.IntKind.i64 2)], argTypes := #[9, 3, 3] }, type := 3, pos := "ref.go:94", after := #[{ on := 2, ground := Go.Ground.data }, { on := 1, ground := Go.Ground.chain }], guard := none }) rfl (fun K hK => ?_) AllReadyH.nil)
        · go_simp
          (go_at_call 37; (with_reducible refine Calls.mono (HM4.out _) ?_); rintro e y3 ⟨rfl, hb⟩)
          have KK3 := Lib.hid (KK2.out.below hb KK2.out.lt)
          have LL3 := Lib.hid (LL2.out.trans (hb.mono LL2.out.size))
          have MM3 := Lib.hid (MM2.out.below hb MM2.out.lt)
          clear hb
          go_wp2_with fail
          refine hK.out _ _ ?_ (fun hHeld => ?_)
          · trivial
          clear hK K
          try simp only [Act.put, List.setIfInBounds_toArray, List.set_cons_zero, List.set_cons_succ]
          refine wpAnyH_ready (rs := [14]) (by kernel_rfl) (by simp) ?_
          refine (AllReadyH.cons (o := { dst := some 70, op := Go.Op.call { callee := Go.Callee.value (Go.Operand.func 37), args := #[Go.Operand.tmp 69, Go.Operand.const (Go.Value.int Go.IntKind.i64 8), Go.Operand.const (Go.Value.int Go.IntKind.i64 1)], argTypes := #[9, 3, 3] }, type := 3, pos := "ref.go:94", after := #[{ on := 13, ground := Go.Ground.data }, { on := 3, ground := Go.Ground.chain }], guard := none }) rfl (fun K hK => ?_) AllReadyH.nil)
          · go_simp
            (go_at_call 37; (with_reducible refine Calls.mono (HM8.out _) ?_); rintro e y4 ⟨rfl, hb⟩)
            have KK4 := Lib.hid (KK3.out.below hb KK3.out.lt)
            have LL4 := Lib.hid (LL3.out.trans (hb.mono LL3.out.size))
            have MM4 := Lib.hid (MM3.out.below hb MM3.out.lt)
            clear hb
            go_wp2_with fail
            refine hK.out _ _ ?_ (fun hHeld => ?_)
            · trivial
            clear hK K
            try simp only [Act.put, List.setIfInBounds_toArray, List.set_cons_zero, List.set_cons_succ]
            refine wpAnyH_ready (rs := [16]) (by kernel_rfl) (by simp) ?_
            refine (AllReadyH.cons (o := { dst := some 72, op := Go.Op.call { callee := Go.Callee.value (Go.Operand.func 37), args := #[Go.Operand.tmp 71, Go.Operand.const (Go.Value.int Go.IntKind.i64 9), Go.Operand.const (Go.Value.int Go.IntKind.i64 1)], argTypes := #[9, 3, 3] }, type := 3, pos := "ref.go:94", after := #[{ on := 15, ground := Go.Ground.data }, { on := 14, ground := Go.Ground.chain }], guard := none }) rfl (fun K hK => ?_) AllReadyH.nil)
            · go_simp
              (go_at_call 37; (with_reducible refine Calls.mono (HM9.out _) ?_); rintro e y5 ⟨rfl, hb⟩)
              have KK5 := Lib.hid (KK4.out.below hb KK4.out.lt)
              have LL5 := Lib.hid (LL4.out.trans (hb.mono LL4.out.size))
              have MM5 := Lib.hid (MM4.out.below hb MM4.out.lt)
              clear hb
              go_wp2_with fail
              refine hK.out _ _ ?_ (fun hHeld => ?_)
              · trivial
              clear hK K
              try simp only [Act.put, List.setIfInBounds_toArray, List.set_cons_zero, List.set_cons_succ]
              refine wpAnyH_take (i := 24) (oi := { dst := some 80, op := Go.Op.build 27 #[(0, Go.Operand.tmp 57), (1, Go.Operand.tmp 59), (2, Go.Operand.tmp 62), (3, Go.Operand.tmp 66), (4, Go.Operand.tmp 68), (5, Go.Operand.tmp 70), (6, Go.Operand.tmp 72), (9, Go.Operand.tmp 75), (10, Go.Operand.tmp 79)], type := 27, pos := "ref.go:94", after := #[{ on := 1, ground := Go.Ground.data }, { on := 3, ground := Go.Ground.data }, { on := 6, ground := Go.Ground.data }, { on := 10, ground := Go.Ground.data }, { on := 12, ground := Go.Ground.data }, { on := 14, ground := Go.Ground.data }, { on := 16, ground := Go.Ground.data }, { on := 19, ground := Go.Ground.data }, { on := 23, ground := Go.Ground.data }], guard := none }) (v := ?_) rfl (by kernel_rfl) (by kernel_rfl) (by kernel_rfl) (fun _ _ _ h => h) (Or.inl ⟨by rfl, ?_⟩) (by assumption) ?_
              rotate_left
              · intro w hSw
                (try dsimp only at hSw)
                go_simp
                try (with_reducible rfl)
              try simp only [Act.put, List.setIfInBounds_toArray, List.set_cons_zero, List.set_cons_succ]
              refine wpAnyH_ready (rs := [26]) (by kernel_rfl) (by simp) ?_
              refine (AllReadyH.cons (o := { dst := none, op := Go.Op.store 27 (Go.Operand.tmp 8) (Go.Operand.tmp 80), type := 0, pos := "ref.go:94", after := #[{ on := 25, ground := Go.Ground.data }, { on := 24, ground := Go.Ground.data }, { on := 16, ground := Go.Ground.chain }, { on := 0, ground := Go.Ground.phase }, { on := 1, ground := Go.Ground.phase }, { on := 2, ground := Go.Ground.phase }, { on := 3, ground := Go.Ground.phase }, { on := 4, ground := Go.Ground.phase }, { on := 5, ground := Go.Ground.phase }, { on := 6, ground := Go.Ground.phase }, { on := 7, ground := Go.Ground.phase }, { on := 8, ground := Go.Ground.phase }, { on := 9, ground := Go.Ground.phase }, { on := 10, ground := Go.Ground.phase }, { on := 11, ground := Go.Ground.phase }, { on := 12, ground := Go.Ground.phase }, { on := 13, ground := Go.Ground.phase }, { on := 14, ground := Go.Ground.phase }, { on := 15, ground := Go.Ground.phase }, { on := 16, ground := Go.Ground.phase }, { on := 17, ground := Go.Ground.phase }, { on := 18, ground := Go.Ground.phase }, { on := 19, ground := Go.Ground.phase }, { on := 20, ground := Go.Ground.phase }, { on := 21, ground := Go.Ground.phase }, { on := 22, ground := Go.Ground.phase }, { on := 23, ground := Go.Ground.phase }, { on := 24, ground := Go.Ground.phase }, { on := 25, ground := Go.Ground.phase }], guard := none }) rfl (fun K hK => ?_) AllReadyH.nil)
              · rw [if_pos (by rfl)]
                refine wpo_st15 (.tmp 8) (.tmp 80) rfl w4.heap.size #[.int .i64 TOS, .int .i64 ID, .bool DF, .bool MF, .int .i64 OFF, .int .i64 TTL, .int .i64 PRO, .bool false, .int .u64 0, .int .u64 0, .bool false, .int .u64 0, .int .u64 0, .string O, .string D] #[.int .i64 0, .int .i64 0, .bool false, .bool false, .int .i64 0, .int .i64 0, .int .i64 0, .bool false, .int .u64 0, .int .u64 0, .bool false, .int .u64 0, .int .u64 0, .string ⟨#[]⟩, .string ⟨#[]⟩] rfl rfl MM5.out HZ.out.1 HQ0.out.1 HQ0.out.2 (fun w9 hk9 hb9 => ?_)
                have KF := Lib.hid (KK5.out.below hb9 hM)
                have LF := Lib.hid (LL5.out.trans (hb9.mono (Nat.le_of_lt hM)))
                have MF9 := Lib.hid hk9
                clear hk9 hb9
                refine hK.out _ _ ?_ (fun hHeld => ?_)
                · trivial
                clear hK K
                try simp only [Act.put]
                refine wpAnyH_done (by kernel_rfl) ?_ _
                exact ⟨w4.heap.size, _, _, _, _, _, _, _, _, _, _, _, _, _, _, _, _, _, _, _, _, _, _, _, _, _, _, _, _, _, _, _, _, _, _, _, _, _, _, _, _, _, _, _, _, _, _, _, _, _, _, _, _, _, _, _, _, _, _, _, _, _, _, _, _, _, _, _, _, _, _, _, _, _, _, _, _, _, _, _, _, _, _, _, _, _, _, _, _, _, _, _, _, _, _, _, _, _, _, rfl, Lib.hid ⟨MF9.out, KF.out, LF.out, hM⟩⟩
  · intro e a W h
    obtain rfl : e = .normal := by cases e <;> first | rfl | exact h.elim
    obtain ⟨M, u1, u4, u5, u6, u7, u9, u10, u11, u12, u13, u14, u15, u16, u17, u18, u19, u20, u21, u22, u23, u24, u25, u26, u27, u28, u29, u30, u31, u32, u33, u34, u35, u36, u37, u38, u39, u40, u41, u42, u43, u44, u45, u46, u47, u48, u49, u50, u51, u52, u53, u54, u55, u56, u57, u58, u59, u60, u61, u62, u63, u64, u65, u66, u67, u68, u69, u70, u71, u72, u73, u74, u75, u76, u77, u78, u79, u80, u81, u82, u83, u84, u85, u86, u87, u88, u89, u90, u91, u92, u93, u94, u95, u96, u97, u98, u99, u100, u101, rfl, hH⟩ := h
    have KR := Lib.hid hH.out.2.1
    have KM := Lib.hid hH.out.1
    have LW := Lib.hid hH.out.2.2.1
    have hM : w.heap.size < M := hH.out.2.2.2
    clear hH
    rename_i K hK
    refine hK _ _ ?_
    go_wp2_with fail
    refine Calls.mono (HM12.out _) ?_
    rintro e p1 ⟨rfl, hb⟩
    have KRp1 := Lib.hid (KR.out.below hb KR.out.lt)
    have KMp1 := Lib.hid (KM.out.below hb KM.out.lt)
    have LWp1 := Lib.hid (LW.out.trans (hb.mono LW.out.size))
    clear hb
    obtain ⟨g0, g1, g2, g3, g4, g5, g6, g7, g8, g9, g10, g11, g12, g13, g14⟩ := KMp1.out.e15
    have z7 := KMp1.out.frozen 7
    have z8 := KMp1.out.frozen 8
    have z9 := KMp1.out.frozen 9
    have KMq1 := Lib.hid (((KMp1.out.set_ 7 (.bool false)).set_ 8 (.int .u64 0)).set_ 9 (.int .u64 LA))
    simp only [List.setIfInBounds_toArray, List.set_cons_zero, List.set_cons_succ] at KMq1
    have KRq1 := Lib.hid (((KRp1.out.far (p := ⟨M, 7, none⟩) (show w.heap.size ≠ M by omega) (.bool false)).far (p := ⟨M, 8, none⟩) (show w.heap.size ≠ M by omega) (.int .u64 0)).far (p := ⟨M, 9, none⟩) (show w.heap.size ≠ M by omega) (.int .u64 LA))
    have LWq1 := Lib.hid (((LWp1.out.setCell (p := ⟨M, 7, none⟩) (show w.heap.size ≤ M by omega) (.bool false)).setCell (p := ⟨M, 8, none⟩) (show w.heap.size ≤ M by omega) (.int .u64 0)).setCell (p := ⟨M, 9, none⟩) (show w.heap.size ≤ M by omega) (.int .u64 LA))
    go_wp2_with fail
    refine Calls.mono (HM16.out _) ?_
    rintro e p2 ⟨rfl, hb⟩
    have KRp2 := Lib.hid (KRq1.out.below hb KRq1.out.lt)
    have KMp2 := Lib.hid (KMq1.out.below hb KMq1.out.lt)
    have LWp2 := Lib.hid (LWq1.out.trans (hb.mono LWq1.out.size))
    clear hb
    clear g0 g1 g2 g3 g4 g5 g6 g7 g8 g9 g10 g11 g12 g13 g14 z7 z8 z9
    obtain ⟨g0, g1, g2, g3, g4, g5, g6, g7, g8, g9, g10, g11, g12, g13, g14⟩ := KMp2.out.e15
    have z10 := KMp2.out.frozen 10
    have z11 := KMp2.out.frozen 11
    have z12 := KMp2.out.frozen 12
    have KMq2 := Lib.hid (((KMp2.out.set_ 10 (.bool false)).set_ 11 (.int .u64 0)).set_ 12 (.int .u64 LB))
    simp only [List.setIfInBounds_toArray, List.set_cons_zero, List.set_cons_succ] at KMq2
    have KRq2 := Lib.hid (((KRp2.out.far (p := ⟨M, 10, none⟩) (show w.heap.size ≠ M by omega) (.bool false)).far (p := ⟨M, 11, none⟩) (show w.heap.size ≠ M by omega) (.int .u64 0)).far (p := ⟨M, 12, none⟩) (show w.heap.size ≠ M by omega) (.int .u64 LB))
    have LWq2 := Lib.hid (((LWp2.out.setCell (p := ⟨M, 10, none⟩) (show w.heap.size ≤ M by omega) (.bool false)).setCell (p := ⟨M, 11, none⟩) (show w.heap.size ≤ M by omega) (.int .u64 0)).setCell (p := ⟨M, 12, none⟩) (show w.heap.size ≤ M by omega) (.int .u64 LB))
    obtain ⟨k0, k1, k2, k3, k4, k5, k6, k7, k8, k9, k10, k11, k12, k13, k14⟩ := KMq2.out.e15
    go_wp2_with fail
    refine Calls.mono (HOp.out _) ?_
    intro e p3 hp
    unfold OpOut at hp
    clear g0 g1 g2 g3 g4 g5 g6 g7 g8 g9 g10 g11 g12 g13 g14 z10 z11 z12 k0 k1 k2 k3 k4 k5 k6 k7 k8 k9 k10 k11 k12 k13 k14
    cases RO with
    | none =>
      obtain ⟨rfl, hb⟩ := hp
      have HX : Hid (tkR s = (noPk, 50)) := Lib.hid (by rw [HX0.out]; rfl)
      have KRp3 := Lib.hid (KRq2.out.below hb KRq2.out.lt)
      have LWp3 := Lib.hid (LWq2.out.trans (hb.mono LWq2.out.size))
      clear hb
      go_wp2_with (with_reducible refine wpList_st15 rfl (.tmp 2) (.tmp 99) rfl w.heap.size #[.int .i64 0, .int .i64 0, .bool false, .bool false, .int .i64 0, .int .i64 0, .int .i64 0, .bool false, .int .u64 0, .int .u64 0, .bool false, .int .u64 0, .int .u64 0, .string ⟨#[]⟩, .string ⟨#[]⟩] #[.int .i64 0, .int .i64 0, .bool false, .bool false, .int .i64 0, .int .i64 0, .int .i64 0, .bool false, .int .u64 0, .int .u64 0, .bool false, .int .u64 0, .int .u64 0, .string ⟨#[]⟩, .string ⟨#[]⟩] rfl rfl KRp3.out HZ.out.1 HZ.out.1 HZ.out.2 ?_; intro w6 hk6 hb6; have HK6 := Lib.hid hk6; have HL6 := Lib.hid (LWp3.out.trans hb6); clear hk6 hb6)
      obtain ⟨g0, g1, g2, g3, g4, g5, g6, g7, g8, g9, g10, g11, g12, g13, g14⟩ := HK6.out.e15
      exact bodyPost_ret (v := .tuple #[noPk.val, .int .i64 50]) (by simp [results, Try.results12, go_sem, g0, g1, g2, g3, g4, g5, g6, g7, g8, g9, g10, g11, g12, g13, g14]) rfl ⟨by unfold tkRV; rw [HX.out], HL6.out⟩
    | some os =>
      obtain ⟨v, rfl, hown, hb, -⟩ := hp
      have HX : Hid (tkR s = (pkS s, 0)) := Lib.hid (by rw [HX0.out]; rfl)
      have KRp3 := Lib.hid (KRq2.out.below hb KRq2.out.lt)
      have KMp3 := Lib.hid (KMq2.out.below hb KMq2.out.lt)
      have LWp3 := Lib.hid (LWq2.out.trans (hb.mono LWq2.out.size))
      clear hb hown
      have HQ : Hid ((#[.int .i64 TOS, .int .i64 ID, .bool DF, .bool MF, .int .i64 OFF, .int .i64 TTL, .int .i64 PRO, .bool false, .int .u64 0, .int .u64 LA, .bool false, .int .u64 0, .int .u64 LB, .string O, .string D] : Array Value).size = 15 ∧ (#[.int .i64 TOS, .int .i64 ID, .bool DF, .bool MF, .int .i64 OFF, .int .i64 TTL, .int .i64 PRO, .bool false, .int .u64 0, .int .u64 LA, .bool false, .int .u64 0, .int .u64 LB, .string O, .string D] : Array Value).all (·.oneCell') = true) := Lib.hid ⟨rfl, by simp [Value.oneCell']⟩
      obtain ⟨g0, g1, g2, g3, g4, g5, g6, g7, g8, g9, g10, g11, g12, g13, g14⟩ := KMp3.out.e15
      go_wp2_with (with_reducible refine wpList_st15 rfl (.tmp 2) (.tmp 101) rfl w.heap.size #[.int .i64 TOS, .int .i64 ID, .bool DF, .bool MF, .int .i64 OFF, .int .i64 TTL, .int .i64 PRO, .bool false, .int .u64 0, .int .u64 LA, .bool false, .int .u64 0, .int .u64 LB, .string O, .string D] #[.int .i64 0, .int .i64 0, .bool false, .bool false, .int .i64 0, .int .i64 0, .int .i64 0, .bool false, .int .u64 0, .int .u64 0, .bool false, .int .u64 0, .int .u64 0, .string ⟨#[]⟩, .string ⟨#[]⟩] rfl rfl KRp3.out HZ.out.1 HQ.out.1 HQ.out.2 ?_; intro w6 hk6 hb6; have HK6 := Lib.hid hk6; have HL6 := Lib.hid (LWp3.out.trans hb6); clear hk6 hb6)
      obtain ⟨r0, r1, r2, r3, r4, r5, r6, r7, r8, r9, r10, r11, r12, r13, r14⟩ := HK6.out.e15
      exact bodyPost_ret (v := .tuple #[.agg #[.int .i64 TOS, .int .i64 ID, .bool DF, .bool MF, .int .i64 OFF, .int .i64 TTL, .int .i64 PRO, .bool false, .int .u64 0, .int .u64 LA, .bool false, .int .u64 0, .int .u64 LB, .string O, .string D], .int .i64 0]) (by simp [results, Try.results12, go_sem, r0, r1, r2, r3, r4, r5, r6, r7, r8, r9, r10, r11, r12, r13, r14]) rfl ⟨by unfold tkRV; rw [HX.out, HPX.out], HL6.out⟩
theorem frtake_any (s : ByteArray) (hs : s.size ≤ 140737488355328) (w : World) :
    Calls Try.prog 12 #[.string s] w fun e w' => e = .returned (tkRV s) ∧ Below w.heap.size w w' := by
  by_cases h0 : s.size < 20
  · exact frtk_0 s hs h0 w
  have h0' : 20 ≤ s.size := by omega
  by_cases h1 : f1N s < 69 ∨ 79 < f1N s
  · exact frtk_1 s hs h0' h1 w
  by_cases h2 : s.size < hdL s
  · exact frtk_2 s hs h0' h1 h2 w
  by_cases h3 : fo (tot 0 ((byt s).take (hdL s))) ≠ 65535
  · exact frtk_3 s hs h0' h1 h2 h3 w
  by_cases h4 : tlN s < hdL s ∨ 32768 ≤ ptN s
  · exact frtk_4 s hs h0' h1 h2 h3 h4 w
  by_cases h5 : s.size < tlN s
  · exact frtk_5 s hs h0' h1 h2 h3 h4 h5 w
  · exact frtk_6 s hs h0' h1 h2 h3 h4 h5 w
end Go.Proofs.Ytbhddodghbhjiaa
