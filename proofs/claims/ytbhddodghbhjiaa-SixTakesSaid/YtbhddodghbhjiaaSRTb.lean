/-
  The document's own Take of any text.
-/
import Derived.Test.YtbhddodghbhjiaaSRTa
import Derived.Deep.RegionHeld
namespace Go.Proofs.Ytbhddodghbhjiaa
open Go.RowKit
set_option linter.unusedVariables false

set_option maxRecDepth 100000 in
set_option maxHeartbeats 4000000 in
theorem srtk_ok (s : ByteArray) (hs : (s.size : Int) ≤ 9223372036854775807) (h : 40 ≤ s.size) (hk : fsS s / 268435456 = 6) (hj : 40 + lnS s ≤ s.size) (w : World) :
    Calls Try.prog 19 #[.string s] w fun e w' => e = .returned (tkSV s) ∧ Below w.heap.size w w' := by
  have HZ : Hid ((#[.int .i64 0, .int .i64 0, .int .i64 0, .int .i64 0, .bool false, .int .u64 0, .int .u64 0, .bool false, .int .u64 0, .int .u64 0, .string ⟨#[]⟩] : Array Value).size = 11 ∧ (#[.int .i64 0, .int .i64 0, .int .i64 0, .int .i64 0, .bool false, .int .u64 0, .int .u64 0, .bool false, .int .u64 0, .int .u64 0, .string ⟨#[]⟩] : Array Value).all (·.oneCell') = true) := Lib.hid ⟨rfl, by simp [Value.oneCell']⟩
  have K0 := Lib.hid (Blk.new w 35 #[.int .i64 0, .int .i64 0, .int .i64 0, .int .i64 0, .bool false, .int .u64 0, .int .u64 0, .bool false, .int .u64 0, .int .u64 0, .string ⟨#[]⟩])
  have L0 := Lib.hid ((Below.refl _ w).alloc (Nat.le_refl _) (.cells #[.int .i64 0, .int .i64 0, .int .i64 0, .int .i64 0, .bool false, .int .u64 0, .int .u64 0, .bool false, .int .u64 0, .int .u64 0, .string ⟨#[]⟩] 35))
  have HN0 := Lib.hid (fun W => srnum s 0 4 (by decide) (by decide) (by omega) W)
  have HN4 := Lib.hid (fun W => srnum s 4 2 (by decide) (by decide) (by omega) W)
  have HN6 := Lib.hid (fun W => srnum s 6 1 (by decide) (by decide) (by omega) W)
  have HN7 := Lib.hid (fun W => srnum s 7 1 (by decide) (by decide) (by omega) W)
  have HN8 := Lib.hid (fun W => srnum s 8 8 (by decide) (by decide) (by omega) W)
  have HN16 := Lib.hid (fun W => srnum s 16 8 (by decide) (by decide) (by omega) W)
  have HN24 := Lib.hid (fun W => srnum s 24 8 (by decide) (by decide) (by omega) W)
  have HN32 := Lib.hid (fun W => srnum s 32 8 (by decide) (by decide) (by omega) W)
  have b0 := nA_bd (byt_by s) (i := 0) (k := 4) (by rw [byt_len]; omega)
  have b4 := nA_bd (byt_by s) (i := 4) (k := 2) (by rw [byt_len]; omega)
  have b6 := nA_bd (byt_by s) (i := 6) (k := 1) (by rw [byt_len]; omega)
  have b7 := nA_bd (byt_by s) (i := 7) (k := 1) (by rw [byt_len]; omega)
  rw [p4] at b0
  rw [p2] at b4
  rw [p1] at b6 b7
  have hLN : ((lnS s : Nat) : Int) = nA (byt s) 4 2 := by unfold lnS; omega
  have hPX : pkX s = ⟨nA (byt s) 0 4 / 1048576 % 256, nA (byt s) 0 4 % 1048576, nA (byt s) 6 1, nA (byt s) 7 1, true, nA (byt s) 8 8, nA (byt s) 16 8, true, nA (byt s) 24 8, nA (byt s) 32 8, s.extract 40 (40 + lnS s)⟩ := rfl
  have HX := Lib.hid (tk_sok h hk hj)
  rw [← hLN] at HN4 b4
  have hfs : fsS s = nA (byt s) 0 4 := rfl
  rw [hfs] at hk
  obtain ⟨F, hF⟩ : ∃ X, nA (byt s) 0 4 = X := ⟨_, rfl⟩
  obtain ⟨N, hN⟩ : ∃ X, nA (byt s) 6 1 = X := ⟨_, rfl⟩
  obtain ⟨H, hH⟩ : ∃ X, nA (byt s) 7 1 = X := ⟨_, rfl⟩
  obtain ⟨A1, hA1⟩ : ∃ X, nA (byt s) 8 8 = X := ⟨_, rfl⟩
  obtain ⟨A2, hA2⟩ : ∃ X, nA (byt s) 16 8 = X := ⟨_, rfl⟩
  obtain ⟨A3, hA3⟩ : ∃ X, nA (byt s) 24 8 = X := ⟨_, rfl⟩
  obtain ⟨A4, hA4⟩ : ∃ X, nA (byt s) 32 8 = X := ⟨_, rfl⟩
  rw [hF, hN, hH, hA1, hA2, hA3, hA4] at hPX
  rw [hF] at HN0 hk b0
  rw [hN] at HN6 b6
  rw [hH] at HN7 b7
  rw [hA1] at HN8
  rw [hA2] at HN16
  rw [hA3] at HN24
  rw [hA4] at HN32
  obtain ⟨LN, hLN2⟩ : ∃ X, lnS s = X := ⟨_, rfl⟩
  rw [hLN2] at HN4 hPX b4 hj
  obtain ⟨T, hT⟩ : ∃ T, 40 + LN = T := ⟨_, rfl⟩
  have hTI : (40 : Int) + (LN : Int) = (T : Int) := by omega
  have hwF : IntKind.i64.wrap F = F := by rw [IntKind.wrap_i64]; omega
  have hwL : IntKind.i64.wrap (LN : Int) = (LN : Int) := by rw [IntKind.wrap_i64]; omega
  have hT9 : (T : Int) ≤ 70000 := by omega
  have hI : ¬ (s.size : Int) < 40 := by omega
  have hq : Int.tdiv F 268435456 = 6 := by rw [Int.tdiv_eq_ediv_of_nonneg b0.1]; exact hk
  have hq2 : F / 268435456 = 6 := hk
  have hb1 : 0 ≤ F ∧ F ≤ 4294967295 := by omega
  have hb2 : 0 ≤ N ∧ N ≤ 255 := by omega
  have hb3 : 0 ≤ H ∧ H ≤ 255 := by omega
  have hsh : ¬ (s.size : Int) < (T : Int) := by omega
  have hT1 : (40 : Int) ≤ (T : Int) := by omega
  have hT2 : (T : Int) ≤ (s.size : Int) := by omega
  rw [hT] at hPX
  obtain ⟨D, hD⟩ : ∃ D, s.extract 40 T = D := ⟨_, rfl⟩
  rw [hD] at hPX
  obtain ⟨X1, hX1⟩ : ∃ X, F / 1048576 = X := ⟨_, rfl⟩
  obtain ⟨C, hC⟩ : ∃ X, X1 % 256 = X := ⟨_, rfl⟩
  obtain ⟨FL, hFL⟩ : ∃ X, F % 1048576 = X := ⟨_, rfl⟩
  rw [hX1, hC, hFL] at hPX
  have HPX := Lib.hid hPX
  have hX10 : 0 ≤ X1 ∧ X1 ≤ 4096 := by omega
  have t1 : Int.tdiv F 1048576 = X1 := by rw [Int.tdiv_eq_ediv_of_nonneg b0.1]; exact hX1
  have t2 : Int.tmod X1 256 = C := by rw [Int.tmod_eq_emod_of_nonneg hX10.1]; exact hC
  have t3 : Int.tmod F 1048576 = FL := by rw [Int.tmod_eq_emod_of_nonneg b0.1]; exact hFL
  have t4 : IntKind.i64.wrap X1 = X1 := by rw [IntKind.wrap_i64]; omega
  have t5 : IntKind.i64.wrap C = C := by rw [IntKind.wrap_i64]; omega
  have t6 : IntKind.i64.wrap FL = FL := by rw [IntKind.wrap_i64]; omega
  have t7 : IntKind.i64.wrap N = N := by rw [IntKind.wrap_i64]; omega
  have t8 : IntKind.i64.wrap H = H := by rw [IntKind.wrap_i64]; omega
  clear b0 b4 b6 b7 hLN hPX hfs hF hN hH hA1 hA2 hA3 hA4 hLN2 hT hk h hj
  go_enter Try.func19, Try.ntmps19
  go_wp2_with fail
  refine Calls.mono (HN0.out _) ?_
  rintro e w1 ⟨rfl, hb⟩
  have K1 := Lib.hid (K0.out.below hb K0.out.lt)
  have L1 := Lib.hid (L0.out.trans (hb.mono L0.out.size))
  clear hb
  go_wp2_with fail
  refine Calls.mono (HN4.out _) ?_
  rintro e w2 ⟨rfl, hb⟩
  have K2 := Lib.hid (K1.out.below hb K1.out.lt)
  have L2 := Lib.hid (L1.out.trans (hb.mono L1.out.size))
  clear hb
  go_wp2
  refine wp_mono (Q := fun e a W => match e with | .normal => (∃ (M : Nat) (u1 u4 u5 u7 u8 u9 u10 u11 u12 u13 u14 u15 u16 u17 u18 u19 u20 u21 u22 u23 u24 u25 u26 u27 u28 u29 u30 u31 u32 u33 u34 u35 u36 u37 u38 u39 u40 u41 u42 u43 u44 u45 u46 u47 u48 u49 u50 u51 u52 u53 u54 : Value), a = { tmps := #[.string s, u1, .pointer (some ⟨w.heap.size, 0, none⟩), .int .i64 0, u4, u5, .pointer (some ⟨M, 0, none⟩), u7, u8, u9, u10, u11, u12, u13, u14, u15, u16, u17, u18, u19, u20, u21, u22, u23, u24, u25, u26, u27, u28, u29, u30, u31, u32, u33, u34, u35, u36, u37, u38, u39, u40, u41, u42, u43, u44, u45, u46, u47, u48, u49, u50, u51, u52, u53, u54], defers := [] } ∧ Hid (Blk W M 35 #[.int .i64 C, .int .i64 FL, .int .i64 N, .int .i64 H, .bool false, .int .u64 0, .int .u64 0, .bool false, .int .u64 0, .int .u64 0, .string D] ∧ Blk W w.heap.size 35 #[.int .i64 0, .int .i64 0, .int .i64 0, .int .i64 0, .bool false, .int .u64 0, .int .u64 0, .bool false, .int .u64 0, .int .u64 0, .string ⟨#[]⟩] ∧ Below w.heap.size w W ∧ w.heap.size < M)) | _ => False) ?_ ?_
  · refine wp_region_held_drew (S := fun _ => True) (by kernel_rfl) trivial (fun hHeld => ?_)
    refine wpAnyH_take (i := 0) (oi := { dst := some 27, op := Go.Op.move (Go.Operand.tmp 4), type := 3, pos := "ref.go:51", after := #[], guard := none }) (v := ?_) rfl (by kernel_rfl) (by kernel_rfl) (by kernel_rfl) (fun _ _ _ h => h) (Or.inl ⟨by rfl, ?_⟩) (by assumption) ?_
    rotate_left
    · intro w hSw
      (try dsimp only at hSw)
      go_simp
      try (with_reducible rfl)
    try simp only [Act.put, List.setIfInBounds_toArray, List.set_cons_zero, List.set_cons_succ]
    refine wpAnyH_take (i := 1) (oi := { dst := some 28, op := Go.Op.binOp Go.BinOp.quo 3 (Go.Operand.tmp 27) (Go.Operand.const (Go.Value.int Go.IntKind.i64 1048576)) 3, type := 3, pos := "ref.go:51", after := #[{ on := 0, ground := Go.Ground.data }], guard := none }) (v := ?_) rfl (by kernel_rfl) (by kernel_rfl) (by kernel_rfl) (fun _ _ _ h => h) (Or.inl ⟨by rfl, ?_⟩) (by assumption) ?_
    rotate_left
    · intro w hSw
      (try dsimp only at hSw)
      go_simp
      try (with_reducible rfl)
    try simp only [Act.put, List.setIfInBounds_toArray, List.set_cons_zero, List.set_cons_succ]
    refine wpAnyH_take (i := 2) (oi := { dst := some 29, op := Go.Op.binOp Go.BinOp.rem 3 (Go.Operand.tmp 28) (Go.Operand.const (Go.Value.int Go.IntKind.i64 256)) 3, type := 3, pos := "ref.go:51", after := #[{ on := 1, ground := Go.Ground.data }], guard := none }) (v := ?_) rfl (by kernel_rfl) (by kernel_rfl) (by kernel_rfl) (fun _ _ _ h => h) (Or.inl ⟨by rfl, ?_⟩) (by assumption) ?_
    rotate_left
    · intro w hSw
      (try dsimp only at hSw)
      go_simp
      try (with_reducible rfl)
    try simp only [Act.put, List.setIfInBounds_toArray, List.set_cons_zero, List.set_cons_succ]
    refine wpAnyH_take (i := 3) (oi := { dst := some 30, op := Go.Op.move (Go.Operand.tmp 4), type := 3, pos := "ref.go:51", after := #[], guard := none }) (v := ?_) rfl (by kernel_rfl) (by kernel_rfl) (by kernel_rfl) (fun _ _ _ h => h) (Or.inl ⟨by rfl, ?_⟩) (by assumption) ?_
    rotate_left
    · intro w hSw
      (try dsimp only at hSw)
      go_simp
      try (with_reducible rfl)
    try simp only [Act.put, List.setIfInBounds_toArray, List.set_cons_zero, List.set_cons_succ]
    refine wpAnyH_take (i := 4) (oi := { dst := some 31, op := Go.Op.binOp Go.BinOp.rem 3 (Go.Operand.tmp 30) (Go.Operand.const (Go.Value.int Go.IntKind.i64 1048576)) 3, type := 3, pos := "ref.go:51", after := #[{ on := 3, ground := Go.Ground.data }], guard := none }) (v := ?_) rfl (by kernel_rfl) (by kernel_rfl) (by kernel_rfl) (fun _ _ _ h => h) (Or.inl ⟨by rfl, ?_⟩) (by assumption) ?_
    rotate_left
    · intro w hSw
      (try dsimp only at hSw)
      go_simp
      try (with_reducible rfl)
    try simp only [Act.put, List.setIfInBounds_toArray, List.set_cons_zero, List.set_cons_succ]
    refine wpAnyH_take (i := 5) (oi := { dst := some 32, op := Go.Op.move (Go.Operand.tmp 0), type := 9, pos := "ref.go:51", after := #[], guard := none }) (v := ?_) rfl (by kernel_rfl) (by kernel_rfl) (by kernel_rfl) (fun _ _ _ h => h) (Or.inl ⟨by rfl, ?_⟩) (by assumption) ?_
    rotate_left
    · intro w hSw
      (try dsimp only at hSw)
      go_simp
      try (with_reducible rfl)
    try simp only [Act.put, List.setIfInBounds_toArray, List.set_cons_zero, List.set_cons_succ]
    refine wpAnyH_take (i := 8) (oi := { dst := some 35, op := Go.Op.move (Go.Operand.tmp 0), type := 9, pos := "ref.go:51", after := #[], guard := none }) (v := ?_) rfl (by kernel_rfl) (by kernel_rfl) (by kernel_rfl) (fun _ _ _ h => h) (Or.inl ⟨by rfl, ?_⟩) (by assumption) ?_
    rotate_left
    · intro w hSw
      (try dsimp only at hSw)
      go_simp
      try (with_reducible rfl)
    try simp only [Act.put, List.setIfInBounds_toArray, List.set_cons_zero, List.set_cons_succ]
    refine wpAnyH_take (i := 11) (oi := { dst := some 38, op := Go.Op.move (Go.Operand.tmp 0), type := 9, pos := "ref.go:51", after := #[], guard := none }) (v := ?_) rfl (by kernel_rfl) (by kernel_rfl) (by kernel_rfl) (fun _ _ _ h => h) (Or.inl ⟨by rfl, ?_⟩) (by assumption) ?_
    rotate_left
    · intro w hSw
      (try dsimp only at hSw)
      go_simp
      try (with_reducible rfl)
    try simp only [Act.put, List.setIfInBounds_toArray, List.set_cons_zero, List.set_cons_succ]
    refine wpAnyH_take (i := 12) (oi := { dst := some 39, op := Go.Op.move (Go.Operand.tmp 5), type := 3, pos := "ref.go:51", after := #[], guard := none }) (v := ?_) rfl (by kernel_rfl) (by kernel_rfl) (by kernel_rfl) (fun _ _ _ h => h) (Or.inl ⟨by rfl, ?_⟩) (by assumption) ?_
    rotate_left
    · intro w hSw
      (try dsimp only at hSw)
      go_simp
      try (with_reducible rfl)
    try simp only [Act.put, List.setIfInBounds_toArray, List.set_cons_zero, List.set_cons_succ]
    refine wpAnyH_take (i := 13) (oi := { dst := some 40, op := Go.Op.slice 9 (Go.Operand.tmp 38) (some (Go.Operand.const (Go.Value.int Go.IntKind.i64 40))) (some (Go.Operand.tmp 39)) none, type := 9, pos := "ref.go:51", after := #[{ on := 11, ground := Go.Ground.data }, { on := 12, ground := Go.Ground.data }], guard := none }) (v := ?_) rfl (by kernel_rfl) (by kernel_rfl) (by kernel_rfl) (fun _ _ _ h => h) (Or.inl ⟨by rfl, ?_⟩) (by assumption) ?_
    rotate_left
    · intro w hSw
      (try dsimp only at hSw)
      go_simp
      try (with_reducible rfl)
    try simp only [Act.put, List.setIfInBounds_toArray, List.set_cons_zero, List.set_cons_succ]
    refine wpAnyH_ready (rs := [6, 15]) (by kernel_rfl) (by simp) ?_
    refine (AllReadyH.cons (o := { dst := some 33, op := Go.Op.call { callee := Go.Callee.value (Go.Operand.func 48), args := #[Go.Operand.tmp 32, Go.Operand.const (Go.Value.int Go.IntKind.i64 6), Go.Operand.const (Go.Value.int Go.IntKind.i64 1)], argTypes := #[9, 3, 3] }, type := 23, pos := "ref.go:51", after := #[{ on := 5, ground := Go.Ground.data }], guard := none }) rfl (fun K hK => ?_) (AllReadyH.cons (o := { dst := some 6, op := Go.Op.alloc 35, type := 0, pos := "ref.go:51", after := #[], guard := none }) rfl (fun K hK => ?_) AllReadyH.nil))
    · go_simp
      (go_at_call 48; (with_reducible refine Calls.mono (HN6.out _) ?_); rintro e y1 ⟨rfl, hb⟩)
      have KK1 := Lib.hid (K2.out.drew.below hb K2.out.drew.lt)
      have LL1 := Lib.hid (L2.out.drew.trans (hb.mono L2.out.drew.size))
      clear hb
      go_wp2_with fail
      refine hK.out _ _ ?_ (fun hHeld => ?_)
      · trivial
      clear hK K
      try simp only [Act.put, List.setIfInBounds_toArray, List.set_cons_zero, List.set_cons_succ]
      refine wpAnyH_take (i := 7) (oi := { dst := some 34, op := Go.Op.convert 23 3 (Go.Operand.tmp 33), type := 3, pos := "ref.go:51", after := #[{ on := 6, ground := Go.Ground.data }], guard := none }) (v := ?_) rfl (by kernel_rfl) (by kernel_rfl) (by kernel_rfl) (fun _ _ _ h => h) (Or.inl ⟨by rfl, ?_⟩) (by assumption) ?_
      rotate_left
      · intro w hSw
        (try dsimp only at hSw)
        go_simp
        try (with_reducible rfl)
      try simp only [Act.put, List.setIfInBounds_toArray, List.set_cons_zero, List.set_cons_succ]
      refine wpAnyH_ready (rs := [9, 15]) (by kernel_rfl) (by simp) ?_
      refine (AllReadyH.cons (o := { dst := some 36, op := Go.Op.call { callee := Go.Callee.value (Go.Operand.func 48), args := #[Go.Operand.tmp 35, Go.Operand.const (Go.Value.int Go.IntKind.i64 7), Go.Operand.const (Go.Value.int Go.IntKind.i64 1)], argTypes := #[9, 3, 3] }, type := 23, pos := "ref.go:51", after := #[{ on := 8, ground := Go.Ground.data }, { on := 6, ground := Go.Ground.chain }], guard := none }) rfl (fun K hK => ?_) (AllReadyH.cons (o := { dst := some 6, op := Go.Op.alloc 35, type := 0, pos := "ref.go:51", after := #[], guard := none }) rfl (fun K hK => ?_) AllReadyH.nil))
      · go_simp
        (go_at_call 48; (with_reducible refine Calls.mono (HN7.out _) ?_); rintro e y2 ⟨rfl, hb⟩)
        have KK2 := Lib.hid (KK1.out.below hb KK1.out.lt)
        have LL2 := Lib.hid (LL1.out.trans (hb.mono LL1.out.size))
        clear hb
        go_wp2_with fail
        refine hK.out _ _ ?_ (fun hHeld => ?_)
        · trivial
        clear hK K
        try simp only [Act.put, List.setIfInBounds_toArray, List.set_cons_zero, List.set_cons_succ]
        refine wpAnyH_take (i := 10) (oi := { dst := some 37, op := Go.Op.convert 23 3 (Go.Operand.tmp 36), type := 3, pos := "ref.go:51", after := #[{ on := 9, ground := Go.Ground.data }], guard := none }) (v := ?_) rfl (by kernel_rfl) (by kernel_rfl) (by kernel_rfl) (fun _ _ _ h => h) (Or.inl ⟨by rfl, ?_⟩) (by assumption) ?_
        rotate_left
        · intro w hSw
          (try dsimp only at hSw)
          go_simp
          try (with_reducible rfl)
        try simp only [Act.put, List.setIfInBounds_toArray, List.set_cons_zero, List.set_cons_succ]
        refine wpAnyH_take (i := 14) (oi := { dst := some 41, op := Go.Op.build 35 #[(0, Go.Operand.tmp 29), (1, Go.Operand.tmp 31), (2, Go.Operand.tmp 34), (3, Go.Operand.tmp 37), (6, Go.Operand.tmp 40)], type := 35, pos := "ref.go:51", after := #[{ on := 2, ground := Go.Ground.data }, { on := 4, ground := Go.Ground.data }, { on := 7, ground := Go.Ground.data }, { on := 10, ground := Go.Ground.data }, { on := 13, ground := Go.Ground.data }], guard := none }) (v := ?_) rfl (by kernel_rfl) (by kernel_rfl) (by kernel_rfl) (fun _ _ _ h => h) (Or.inl ⟨by rfl, ?_⟩) (by assumption) ?_
        rotate_left
        · intro w hSw
          (try dsimp only at hSw)
          go_simp
          try (with_reducible rfl)
        try simp only [Act.put, List.setIfInBounds_toArray, List.set_cons_zero, List.set_cons_succ]
        refine wpAnyH_ready (rs := [15]) (by kernel_rfl) (by simp) ?_
        refine (AllReadyH.cons (o := { dst := some 6, op := Go.Op.alloc 35, type := 0, pos := "ref.go:51", after := #[], guard := none }) rfl (fun K hK => ?_) AllReadyH.nil)
        · go_simp
          have KK3 := Lib.hid (KK2.out.alloc (.cells #[.int .i64 0, .int .i64 0, .int .i64 0, .int .i64 0, .bool false, .int .u64 0, .int .u64 0, .bool false, .int .u64 0, .int .u64 0, .string ⟨#[]⟩] 35))
          have LL3 := Lib.hid (LL2.out.alloc LL2.out.size (.cells #[.int .i64 0, .int .i64 0, .int .i64 0, .int .i64 0, .bool false, .int .u64 0, .int .u64 0, .bool false, .int .u64 0, .int .u64 0, .string ⟨#[]⟩] 35))
          have MM3 : Hid (Blk (y2.alloc (.cells #[.int .i64 0, .int .i64 0, .int .i64 0, .int .i64 0, .bool false, .int .u64 0, .int .u64 0, .bool false, .int .u64 0, .int .u64 0, .string ⟨#[]⟩] 35)) y2.heap.size 35 #[.int .i64 0, .int .i64 0, .int .i64 0, .int .i64 0, .bool false, .int .u64 0, .int .u64 0, .bool false, .int .u64 0, .int .u64 0, .string ⟨#[]⟩]) := Lib.hid (Blk.new y2 35 #[.int .i64 0, .int .i64 0, .int .i64 0, .int .i64 0, .bool false, .int .u64 0, .int .u64 0, .bool false, .int .u64 0, .int .u64 0, .string ⟨#[]⟩])
          have hM : w.heap.size < y2.heap.size := KK2.out.lt
          refine hK.out _ _ ?_ (fun hHeld => ?_)
          · trivial
          clear hK K
          try simp only [Act.put, List.setIfInBounds_toArray, List.set_cons_zero, List.set_cons_succ]
          refine wpAnyH_ready (rs := [16]) (by kernel_rfl) (by simp) ?_
          refine (AllReadyH.cons (o := { dst := none, op := Go.Op.store 35 (Go.Operand.tmp 6) (Go.Operand.tmp 41), type := 0, pos := "ref.go:51", after := #[{ on := 15, ground := Go.Ground.data }, { on := 14, ground := Go.Ground.data }, { on := 9, ground := Go.Ground.chain }, { on := 0, ground := Go.Ground.phase }, { on := 1, ground := Go.Ground.phase }, { on := 2, ground := Go.Ground.phase }, { on := 3, ground := Go.Ground.phase }, { on := 4, ground := Go.Ground.phase }, { on := 5, ground := Go.Ground.phase }, { on := 6, ground := Go.Ground.phase }, { on := 7, ground := Go.Ground.phase }, { on := 8, ground := Go.Ground.phase }, { on := 9, ground := Go.Ground.phase }, { on := 10, ground := Go.Ground.phase }, { on := 11, ground := Go.Ground.phase }, { on := 12, ground := Go.Ground.phase }, { on := 13, ground := Go.Ground.phase }, { on := 14, ground := Go.Ground.phase }, { on := 15, ground := Go.Ground.phase }], guard := none }) rfl (fun K hK => ?_) AllReadyH.nil)
          · obtain ⟨g0, g1, g2, g3, g4, g5, g6, g7, g8, g9, g10⟩ := MM3.out.e11
            have z0 := MM3.out.frozen 0
            have z1 := MM3.out.frozen 1
            have z2 := MM3.out.frozen 2
            have z3 := MM3.out.frozen 3
            have z4 := MM3.out.frozen 4
            have z5 := MM3.out.frozen 5
            have z6 := MM3.out.frozen 6
            have z7 := MM3.out.frozen 7
            have z8 := MM3.out.frozen 8
            have z9 := MM3.out.frozen 9
            have z10 := MM3.out.frozen 10
            go_simp
            refine hK.out _ _ ?_ (fun hHeld => ?_)
            · trivial
            clear hK K
            try simp only [Act.put, List.setIfInBounds_toArray, List.set_cons_zero, List.set_cons_succ]
            refine wpAnyH_done (by kernel_rfl) ?_ _
            refine ⟨y2.heap.size, _, _, _, _, _, _, _, _, _, _, _, _, _, _, _, _, _, _, _, _, _, _, _, _, _, _, _, _, _, _, _, _, _, _, _, _, _, _, _, _, _, _, _, _, _, _, _, _, _, _, _, rfl, Lib.hid ⟨?_, ?_, ?_, hM⟩⟩
            · exact Blk.new y2 35 #[.int .i64 C, .int .i64 FL, .int .i64 N, .int .i64 H, .bool false, .int .u64 0, .int .u64 0, .bool false, .int .u64 0, .int .u64 0, .string D]
            · exact KK2.out.alloc _
            · exact LL2.out.alloc LL2.out.size _
      · go_simp
        have KK2 := Lib.hid (KK1.out.alloc (.cells #[.int .i64 0, .int .i64 0, .int .i64 0, .int .i64 0, .bool false, .int .u64 0, .int .u64 0, .bool false, .int .u64 0, .int .u64 0, .string ⟨#[]⟩] 35))
        have LL2 := Lib.hid (LL1.out.alloc LL1.out.size (.cells #[.int .i64 0, .int .i64 0, .int .i64 0, .int .i64 0, .bool false, .int .u64 0, .int .u64 0, .bool false, .int .u64 0, .int .u64 0, .string ⟨#[]⟩] 35))
        have MM2 : Hid (Blk (y1.alloc (.cells #[.int .i64 0, .int .i64 0, .int .i64 0, .int .i64 0, .bool false, .int .u64 0, .int .u64 0, .bool false, .int .u64 0, .int .u64 0, .string ⟨#[]⟩] 35)) y1.heap.size 35 #[.int .i64 0, .int .i64 0, .int .i64 0, .int .i64 0, .bool false, .int .u64 0, .int .u64 0, .bool false, .int .u64 0, .int .u64 0, .string ⟨#[]⟩]) := Lib.hid (Blk.new y1 35 #[.int .i64 0, .int .i64 0, .int .i64 0, .int .i64 0, .bool false, .int .u64 0, .int .u64 0, .bool false, .int .u64 0, .int .u64 0, .string ⟨#[]⟩])
        have hM : w.heap.size < y1.heap.size := KK1.out.lt
        refine hK.out _ _ ?_ (fun hHeld => ?_)
        · trivial
        clear hK K
        try simp only [Act.put, List.setIfInBounds_toArray, List.set_cons_zero, List.set_cons_succ]
        refine wpAnyH_ready (rs := [9]) (by kernel_rfl) (by simp) ?_
        refine (AllReadyH.cons (o := { dst := some 36, op := Go.Op.call { callee := Go.Callee.value (Go.Operand.func 48), args := #[Go.Operand.tmp 35, Go.Operand.const (Go.Value.int Go.IntKind.i64 7), Go.Operand.const (Go.Value.int Go.IntKind.i64 1)], argTypes := #[9, 3, 3] }, type := 23, pos := "ref.go:51", after := #[{ on := 8, ground := Go.Ground.data }, { on := 6, ground := Go.Ground.chain }], guard := none }) rfl (fun K hK => ?_) AllReadyH.nil)
        · go_simp
          (go_at_call 48; (with_reducible refine Calls.mono (HN7.out _) ?_); rintro e y3 ⟨rfl, hb⟩)
          have KK3 := Lib.hid (KK2.out.below hb KK2.out.lt)
          have LL3 := Lib.hid (LL2.out.trans (hb.mono LL2.out.size))
          have MM3 := Lib.hid (MM2.out.below hb MM2.out.lt)
          clear hb
          go_wp2_with fail
          refine hK.out _ _ ?_ (fun hHeld => ?_)
          · trivial
          clear hK K
          try simp only [Act.put, List.setIfInBounds_toArray, List.set_cons_zero, List.set_cons_succ]
          refine wpAnyH_take (i := 10) (oi := { dst := some 37, op := Go.Op.convert 23 3 (Go.Operand.tmp 36), type := 3, pos := "ref.go:51", after := #[{ on := 9, ground := Go.Ground.data }], guard := none }) (v := ?_) rfl (by kernel_rfl) (by kernel_rfl) (by kernel_rfl) (fun _ _ _ h => h) (Or.inl ⟨by rfl, ?_⟩) (by assumption) ?_
          rotate_left
          · intro w hSw
            (try dsimp only at hSw)
            go_simp
            try (with_reducible rfl)
          try simp only [Act.put, List.setIfInBounds_toArray, List.set_cons_zero, List.set_cons_succ]
          refine wpAnyH_take (i := 14) (oi := { dst := some 41, op := Go.Op.build 35 #[(0, Go.Operand.tmp 29), (1, Go.Operand.tmp 31), (2, Go.Operand.tmp 34), (3, Go.Operand.tmp 37), (6, Go.Operand.tmp 40)], type := 35, pos := "ref.go:51", after := #[{ on := 2, ground := Go.Ground.data }, { on := 4, ground := Go.Ground.data }, { on := 7, ground := Go.Ground.data }, { on := 10, ground := Go.Ground.data }, { on := 13, ground := Go.Ground.data }], guard := none }) (v := ?_) rfl (by kernel_rfl) (by kernel_rfl) (by kernel_rfl) (fun _ _ _ h => h) (Or.inl ⟨by rfl, ?_⟩) (by assumption) ?_
          rotate_left
          · intro w hSw
            (try dsimp only at hSw)
            go_simp
            try (with_reducible rfl)
          try simp only [Act.put, List.setIfInBounds_toArray, List.set_cons_zero, List.set_cons_succ]
          refine wpAnyH_ready (rs := [16]) (by kernel_rfl) (by simp) ?_
          refine (AllReadyH.cons (o := { dst := none, op := Go.Op.store 35 (Go.Operand.tmp 6) (Go.Operand.tmp 41), type := 0, pos := "ref.go:51", after := #[{ on := 15, ground := Go.Ground.data }, { on := 14, ground := Go.Ground.data }, { on := 9, ground := Go.Ground.chain }, { on := 0, ground := Go.Ground.phase }, { on := 1, ground := Go.Ground.phase }, { on := 2, ground := Go.Ground.phase }, { on := 3, ground := Go.Ground.phase }, { on := 4, ground := Go.Ground.phase }, { on := 5, ground := Go.Ground.phase }, { on := 6, ground := Go.Ground.phase }, { on := 7, ground := Go.Ground.phase }, { on := 8, ground := Go.Ground.phase }, { on := 9, ground := Go.Ground.phase }, { on := 10, ground := Go.Ground.phase }, { on := 11, ground := Go.Ground.phase }, { on := 12, ground := Go.Ground.phase }, { on := 13, ground := Go.Ground.phase }, { on := 14, ground := Go.Ground.phase }, { on := 15, ground := Go.Ground.phase }], guard := none }) rfl (fun K hK => ?_) AllReadyH.nil)
          · obtain ⟨g0, g1, g2, g3, g4, g5, g6, g7, g8, g9, g10⟩ := MM3.out.e11
            have z0 := MM3.out.frozen 0
            have z1 := MM3.out.frozen 1
            have z2 := MM3.out.frozen 2
            have z3 := MM3.out.frozen 3
            have z4 := MM3.out.frozen 4
            have z5 := MM3.out.frozen 5
            have z6 := MM3.out.frozen 6
            have z7 := MM3.out.frozen 7
            have z8 := MM3.out.frozen 8
            have z9 := MM3.out.frozen 9
            have z10 := MM3.out.frozen 10
            go_simp
            refine hK.out _ _ ?_ (fun hHeld => ?_)
            · trivial
            clear hK K
            try simp only [Act.put, List.setIfInBounds_toArray, List.set_cons_zero, List.set_cons_succ]
            refine wpAnyH_done (by kernel_rfl) ?_ _
            have FB := (((((((((((MM3.out.set_ 0 (.int .i64 C)).set_ 1 (.int .i64 FL)).set_ 2 (.int .i64 N)).set_ 3 (.int .i64 H)).set_ 4 (.bool false)).set_ 5 (.int .u64 0)).set_ 6 (.int .u64 0)).set_ 7 (.bool false)).set_ 8 (.int .u64 0)).set_ 9 (.int .u64 0)).set_ 10 (.string D))
            simp only [List.setIfInBounds_toArray, List.set_cons_zero, List.set_cons_succ] at FB
            refine ⟨y1.heap.size, _, _, _, _, _, _, _, _, _, _, _, _, _, _, _, _, _, _, _, _, _, _, _, _, _, _, _, _, _, _, _, _, _, _, _, _, _, _, _, _, _, _, _, _, _, _, _, _, _, _, _, rfl, Lib.hid ⟨?_, ?_, ?_, hM⟩⟩
            · exact FB
            · exact (((((((((((KK3.out.far (p := ⟨y1.heap.size, 0, none⟩) (show w.heap.size ≠ y1.heap.size by omega) (.int .i64 C)).far (p := ⟨y1.heap.size, 1, none⟩) (show w.heap.size ≠ y1.heap.size by omega) (.int .i64 FL)).far (p := ⟨y1.heap.size, 2, none⟩) (show w.heap.size ≠ y1.heap.size by omega) (.int .i64 N)).far (p := ⟨y1.heap.size, 3, none⟩) (show w.heap.size ≠ y1.heap.size by omega) (.int .i64 H)).far (p := ⟨y1.heap.size, 4, none⟩) (show w.heap.size ≠ y1.heap.size by omega) (.bool false)).far (p := ⟨y1.heap.size, 5, none⟩) (show w.heap.size ≠ y1.heap.size by omega) (.int .u64 0)).far (p := ⟨y1.heap.size, 6, none⟩) (show w.heap.size ≠ y1.heap.size by omega) (.int .u64 0)).far (p := ⟨y1.heap.size, 7, none⟩) (show w.heap.size ≠ y1.heap.size by omega) (.bool false)).far (p := ⟨y1.heap.size, 8, none⟩) (show w.heap.size ≠ y1.heap.size by omega) (.int .u64 0)).far (p := ⟨y1.heap.size, 9, none⟩) (show w.heap.size ≠ y1.heap.size by omega) (.int .u64 0)).far (p := ⟨y1.heap.size, 10, none⟩) (show w.heap.size ≠ y1.heap.size by omega) (.string D))
            · exact (((((((((((LL3.out.setCell (p := ⟨y1.heap.size, 0, none⟩) (show w.heap.size ≤ y1.heap.size by omega) (.int .i64 C)).setCell (p := ⟨y1.heap.size, 1, none⟩) (show w.heap.size ≤ y1.heap.size by omega) (.int .i64 FL)).setCell (p := ⟨y1.heap.size, 2, none⟩) (show w.heap.size ≤ y1.heap.size by omega) (.int .i64 N)).setCell (p := ⟨y1.heap.size, 3, none⟩) (show w.heap.size ≤ y1.heap.size by omega) (.int .i64 H)).setCell (p := ⟨y1.heap.size, 4, none⟩) (show w.heap.size ≤ y1.heap.size by omega) (.bool false)).setCell (p := ⟨y1.heap.size, 5, none⟩) (show w.heap.size ≤ y1.heap.size by omega) (.int .u64 0)).setCell (p := ⟨y1.heap.size, 6, none⟩) (show w.heap.size ≤ y1.heap.size by omega) (.int .u64 0)).setCell (p := ⟨y1.heap.size, 7, none⟩) (show w.heap.size ≤ y1.heap.size by omega) (.bool false)).setCell (p := ⟨y1.heap.size, 8, none⟩) (show w.heap.size ≤ y1.heap.size by omega) (.int .u64 0)).setCell (p := ⟨y1.heap.size, 9, none⟩) (show w.heap.size ≤ y1.heap.size by omega) (.int .u64 0)).setCell (p := ⟨y1.heap.size, 10, none⟩) (show w.heap.size ≤ y1.heap.size by omega) (.string D))
    · go_simp
      have KK1 := Lib.hid (K2.out.drew.alloc (.cells #[.int .i64 0, .int .i64 0, .int .i64 0, .int .i64 0, .bool false, .int .u64 0, .int .u64 0, .bool false, .int .u64 0, .int .u64 0, .string ⟨#[]⟩] 35))
      have LL1 := Lib.hid (L2.out.drew.alloc L2.out.drew.size (.cells #[.int .i64 0, .int .i64 0, .int .i64 0, .int .i64 0, .bool false, .int .u64 0, .int .u64 0, .bool false, .int .u64 0, .int .u64 0, .string ⟨#[]⟩] 35))
      have MM1 : Hid (Blk (w2.drew.alloc (.cells #[.int .i64 0, .int .i64 0, .int .i64 0, .int .i64 0, .bool false, .int .u64 0, .int .u64 0, .bool false, .int .u64 0, .int .u64 0, .string ⟨#[]⟩] 35)) w2.heap.size 35 #[.int .i64 0, .int .i64 0, .int .i64 0, .int .i64 0, .bool false, .int .u64 0, .int .u64 0, .bool false, .int .u64 0, .int .u64 0, .string ⟨#[]⟩]) := Lib.hid (Blk.new w2.drew 35 #[.int .i64 0, .int .i64 0, .int .i64 0, .int .i64 0, .bool false, .int .u64 0, .int .u64 0, .bool false, .int .u64 0, .int .u64 0, .string ⟨#[]⟩])
      have hM : w.heap.size < w2.heap.size := K2.out.drew.lt
      refine hK.out _ _ ?_ (fun hHeld => ?_)
      · trivial
      clear hK K
      try simp only [Act.put, List.setIfInBounds_toArray, List.set_cons_zero, List.set_cons_succ]
      refine wpAnyH_ready (rs := [6]) (by kernel_rfl) (by simp) ?_
      refine (AllReadyH.cons (o := { dst := some 33, op := Go.Op.call { callee := Go.Callee.value (Go.Operand.func 48), args := #[Go.Operand.tmp 32, Go.Operand.const (Go.Value.int Go.IntKind.i64 6), Go.Operand.const (Go.Value.int Go.IntKind.i64 1)], argTypes := #[9, 3, 3] }, type := 23, pos := "ref.go:51", after := #[{ on := 5, ground := Go.Ground.data }], guard := none }) rfl (fun K hK => ?_) AllReadyH.nil)
      · go_simp
        (go_at_call 48; (with_reducible refine Calls.mono (HN6.out _) ?_); rintro e y2 ⟨rfl, hb⟩)
        have KK2 := Lib.hid (KK1.out.below hb KK1.out.lt)
        have LL2 := Lib.hid (LL1.out.trans (hb.mono LL1.out.size))
        have MM2 := Lib.hid (MM1.out.below hb MM1.out.lt)
        clear hb
        go_wp2_with fail
        refine hK.out _ _ ?_ (fun hHeld => ?_)
        · trivial
        clear hK K
        try simp only [Act.put, List.setIfInBounds_toArray, List.set_cons_zero, List.set_cons_succ]
        refine wpAnyH_take (i := 7) (oi := { dst := some 34, op := Go.Op.convert 23 3 (Go.Operand.tmp 33), type := 3, pos := "ref.go:51", after := #[{ on := 6, ground := Go.Ground.data }], guard := none }) (v := ?_) rfl (by kernel_rfl) (by kernel_rfl) (by kernel_rfl) (fun _ _ _ h => h) (Or.inl ⟨by rfl, ?_⟩) (by assumption) ?_
        rotate_left
        · intro w hSw
          (try dsimp only at hSw)
          go_simp
          try (with_reducible rfl)
        try simp only [Act.put, List.setIfInBounds_toArray, List.set_cons_zero, List.set_cons_succ]
        refine wpAnyH_ready (rs := [9]) (by kernel_rfl) (by simp) ?_
        refine (AllReadyH.cons (o := { dst := some 36, op := Go.Op.call { callee := Go.Callee.value (Go.Operand.func 48), args := #[Go.Operand.tmp 35, Go.Operand.const (Go.Value.int Go.IntKind.i64 7), Go.Operand.const (Go.Value.int Go.IntKind.i64 1)], argTypes := #[9, 3, 3] }, type := 23, pos := "ref.go:51", after := #[{ on := 8, ground := Go.Ground.data }, { on := 6, ground := Go.Ground.chain }], guard := none }) rfl (fun K hK => ?_) AllReadyH.nil)
        · go_simp
          (go_at_call 48; (with_reducible refine Calls.mono (HN7.out _) ?_); rintro e y3 ⟨rfl, hb⟩)
          have KK3 := Lib.hid (KK2.out.below hb KK2.out.lt)
          have LL3 := Lib.hid (LL2.out.trans (hb.mono LL2.out.size))
          have MM3 := Lib.hid (MM2.out.below hb MM2.out.lt)
          clear hb
          go_wp2_with fail
          refine hK.out _ _ ?_ (fun hHeld => ?_)
          · trivial
          clear hK K
          try simp only [Act.put, List.setIfInBounds_toArray, List.set_cons_zero, List.set_cons_succ]
          refine wpAnyH_take (i := 10) (oi := { dst := some 37, op := Go.Op.convert 23 3 (Go.Operand.tmp 36), type := 3, pos := "ref.go:51", after := #[{ on := 9, ground := Go.Ground.data }], guard := none }) (v := ?_) rfl (by kernel_rfl) (by kernel_rfl) (by kernel_rfl) (fun _ _ _ h => h) (Or.inl ⟨by rfl, ?_⟩) (by assumption) ?_
          rotate_left
          · intro w hSw
            (try dsimp only at hSw)
            go_simp
            try (with_reducible rfl)
          try simp only [Act.put, List.setIfInBounds_toArray, List.set_cons_zero, List.set_cons_succ]
          refine wpAnyH_take (i := 14) (oi := { dst := some 41, op := Go.Op.build 35 #[(0, Go.Operand.tmp 29), (1, Go.Operand.tmp 31), (2, Go.Operand.tmp 34), (3, Go.Operand.tmp 37), (6, Go.Operand.tmp 40)], type := 35, pos := "ref.go:51", after := #[{ on := 2, ground := Go.Ground.data }, { on := 4, ground := Go.Ground.data }, { on := 7, ground := Go.Ground.data }, { on := 10, ground := Go.Ground.data }, { on := 13, ground := Go.Ground.data }], guard := none }) (v := ?_) rfl (by kernel_rfl) (by kernel_rfl) (by kernel_rfl) (fun _ _ _ h => h) (Or.inl ⟨by rfl, ?_⟩) (by assumption) ?_
          rotate_left
          · intro w hSw
            (try dsimp only at hSw)
            go_simp
            try (with_reducible rfl)
          try simp only [Act.put, List.setIfInBounds_toArray, List.set_cons_zero, List.set_cons_succ]
          refine wpAnyH_ready (rs := [16]) (by kernel_rfl) (by simp) ?_
          refine (AllReadyH.cons (o := { dst := none, op := Go.Op.store 35 (Go.Operand.tmp 6) (Go.Operand.tmp 41), type := 0, pos := "ref.go:51", after := #[{ on := 15, ground := Go.Ground.data }, { on := 14, ground := Go.Ground.data }, { on := 9, ground := Go.Ground.chain }, { on := 0, ground := Go.Ground.phase }, { on := 1, ground := Go.Ground.phase }, { on := 2, ground := Go.Ground.phase }, { on := 3, ground := Go.Ground.phase }, { on := 4, ground := Go.Ground.phase }, { on := 5, ground := Go.Ground.phase }, { on := 6, ground := Go.Ground.phase }, { on := 7, ground := Go.Ground.phase }, { on := 8, ground := Go.Ground.phase }, { on := 9, ground := Go.Ground.phase }, { on := 10, ground := Go.Ground.phase }, { on := 11, ground := Go.Ground.phase }, { on := 12, ground := Go.Ground.phase }, { on := 13, ground := Go.Ground.phase }, { on := 14, ground := Go.Ground.phase }, { on := 15, ground := Go.Ground.phase }], guard := none }) rfl (fun K hK => ?_) AllReadyH.nil)
          · obtain ⟨g0, g1, g2, g3, g4, g5, g6, g7, g8, g9, g10⟩ := MM3.out.e11
            have z0 := MM3.out.frozen 0
            have z1 := MM3.out.frozen 1
            have z2 := MM3.out.frozen 2
            have z3 := MM3.out.frozen 3
            have z4 := MM3.out.frozen 4
            have z5 := MM3.out.frozen 5
            have z6 := MM3.out.frozen 6
            have z7 := MM3.out.frozen 7
            have z8 := MM3.out.frozen 8
            have z9 := MM3.out.frozen 9
            have z10 := MM3.out.frozen 10
            go_simp
            refine hK.out _ _ ?_ (fun hHeld => ?_)
            · trivial
            clear hK K
            try simp only [Act.put, List.setIfInBounds_toArray, List.set_cons_zero, List.set_cons_succ]
            refine wpAnyH_done (by kernel_rfl) ?_ _
            have FB := (((((((((((MM3.out.set_ 0 (.int .i64 C)).set_ 1 (.int .i64 FL)).set_ 2 (.int .i64 N)).set_ 3 (.int .i64 H)).set_ 4 (.bool false)).set_ 5 (.int .u64 0)).set_ 6 (.int .u64 0)).set_ 7 (.bool false)).set_ 8 (.int .u64 0)).set_ 9 (.int .u64 0)).set_ 10 (.string D))
            simp only [List.setIfInBounds_toArray, List.set_cons_zero, List.set_cons_succ] at FB
            refine ⟨w2.heap.size, _, _, _, _, _, _, _, _, _, _, _, _, _, _, _, _, _, _, _, _, _, _, _, _, _, _, _, _, _, _, _, _, _, _, _, _, _, _, _, _, _, _, _, _, _, _, _, _, _, _, _, rfl, Lib.hid ⟨?_, ?_, ?_, hM⟩⟩
            · exact FB
            · exact (((((((((((KK3.out.far (p := ⟨w2.heap.size, 0, none⟩) (show w.heap.size ≠ w2.heap.size by omega) (.int .i64 C)).far (p := ⟨w2.heap.size, 1, none⟩) (show w.heap.size ≠ w2.heap.size by omega) (.int .i64 FL)).far (p := ⟨w2.heap.size, 2, none⟩) (show w.heap.size ≠ w2.heap.size by omega) (.int .i64 N)).far (p := ⟨w2.heap.size, 3, none⟩) (show w.heap.size ≠ w2.heap.size by omega) (.int .i64 H)).far (p := ⟨w2.heap.size, 4, none⟩) (show w.heap.size ≠ w2.heap.size by omega) (.bool false)).far (p := ⟨w2.heap.size, 5, none⟩) (show w.heap.size ≠ w2.heap.size by omega) (.int .u64 0)).far (p := ⟨w2.heap.size, 6, none⟩) (show w.heap.size ≠ w2.heap.size by omega) (.int .u64 0)).far (p := ⟨w2.heap.size, 7, none⟩) (show w.heap.size ≠ w2.heap.size by omega) (.bool false)).far (p := ⟨w2.heap.size, 8, none⟩) (show w.heap.size ≠ w2.heap.size by omega) (.int .u64 0)).far (p := ⟨w2.heap.size, 9, none⟩) (show w.heap.size ≠ w2.heap.size by omega) (.int .u64 0)).far (p := ⟨w2.heap.size, 10, none⟩) (show w.heap.size ≠ w2.heap.size by omega) (.string D))
            · exact (((((((((((LL3.out.setCell (p := ⟨w2.heap.size, 0, none⟩) (show w.heap.size ≤ w2.heap.size by omega) (.int .i64 C)).setCell (p := ⟨w2.heap.size, 1, none⟩) (show w.heap.size ≤ w2.heap.size by omega) (.int .i64 FL)).setCell (p := ⟨w2.heap.size, 2, none⟩) (show w.heap.size ≤ w2.heap.size by omega) (.int .i64 N)).setCell (p := ⟨w2.heap.size, 3, none⟩) (show w.heap.size ≤ w2.heap.size by omega) (.int .i64 H)).setCell (p := ⟨w2.heap.size, 4, none⟩) (show w.heap.size ≤ w2.heap.size by omega) (.bool false)).setCell (p := ⟨w2.heap.size, 5, none⟩) (show w.heap.size ≤ w2.heap.size by omega) (.int .u64 0)).setCell (p := ⟨w2.heap.size, 6, none⟩) (show w.heap.size ≤ w2.heap.size by omega) (.int .u64 0)).setCell (p := ⟨w2.heap.size, 7, none⟩) (show w.heap.size ≤ w2.heap.size by omega) (.bool false)).setCell (p := ⟨w2.heap.size, 8, none⟩) (show w.heap.size ≤ w2.heap.size by omega) (.int .u64 0)).setCell (p := ⟨w2.heap.size, 9, none⟩) (show w.heap.size ≤ w2.heap.size by omega) (.int .u64 0)).setCell (p := ⟨w2.heap.size, 10, none⟩) (show w.heap.size ≤ w2.heap.size by omega) (.string D))
  · intro e a W h
    obtain rfl : e = .normal := by cases e <;> first | rfl | exact h.elim
    obtain ⟨M, u1, u4, u5, u7, u8, u9, u10, u11, u12, u13, u14, u15, u16, u17, u18, u19, u20, u21, u22, u23, u24, u25, u26, u27, u28, u29, u30, u31, u32, u33, u34, u35, u36, u37, u38, u39, u40, u41, u42, u43, u44, u45, u46, u47, u48, u49, u50, u51, u52, u53, u54, rfl, hH⟩ := h
    have KR := Lib.hid hH.out.2.1
    have KM := Lib.hid hH.out.1
    have LW := Lib.hid hH.out.2.2.1
    have hM : w.heap.size < M := hH.out.2.2.2
    clear hH
    rename_i K hK
    refine hK _ _ ?_
    go_wp2_with fail
    refine Calls.mono (HN8.out _) ?_
    rintro e p1 ⟨rfl, hb⟩
    have KRp1 := Lib.hid (KR.out.below hb KR.out.lt)
    have KMp1 := Lib.hid (KM.out.below hb KM.out.lt)
    have LWp1 := Lib.hid (LW.out.trans (hb.mono LW.out.size))
    clear hb
    go_wp2_with fail
    refine Calls.mono (HN16.out _) ?_
    rintro e p2 ⟨rfl, hb⟩
    have KRp2 := Lib.hid (KRp1.out.below hb KRp1.out.lt)
    have KMp2 := Lib.hid (KMp1.out.below hb KMp1.out.lt)
    have LWp2 := Lib.hid (LWp1.out.trans (hb.mono LWp1.out.size))
    clear hb
    obtain ⟨g0, g1, g2, g3, g4, g5, g6, g7, g8, g9, g10⟩ := KMp2.out.e11
    have z4 := KMp2.out.frozen 4
    have z5 := KMp2.out.frozen 5
    have z6 := KMp2.out.frozen 6
    have KMq2 := Lib.hid (((KMp2.out.set_ 4 (.bool true)).set_ 5 (.int .u64 A1)).set_ 6 (.int .u64 A2))
    simp only [List.setIfInBounds_toArray, List.set_cons_zero, List.set_cons_succ] at KMq2
    have KRq2 := Lib.hid (((KRp2.out.far (p := ⟨M, 4, none⟩) (show w.heap.size ≠ M by omega) (.bool true)).far (p := ⟨M, 5, none⟩) (show w.heap.size ≠ M by omega) (.int .u64 A1)).far (p := ⟨M, 6, none⟩) (show w.heap.size ≠ M by omega) (.int .u64 A2))
    have LWq2 := Lib.hid (((LWp2.out.setCell (p := ⟨M, 4, none⟩) (show w.heap.size ≤ M by omega) (.bool true)).setCell (p := ⟨M, 5, none⟩) (show w.heap.size ≤ M by omega) (.int .u64 A1)).setCell (p := ⟨M, 6, none⟩) (show w.heap.size ≤ M by omega) (.int .u64 A2))
    go_wp2_with fail
    refine Calls.mono (HN24.out _) ?_
    rintro e p3 ⟨rfl, hb⟩
    have KRp3 := Lib.hid (KRq2.out.below hb KRq2.out.lt)
    have KMp3 := Lib.hid (KMq2.out.below hb KMq2.out.lt)
    have LWp3 := Lib.hid (LWq2.out.trans (hb.mono LWq2.out.size))
    clear hb
    clear g0 g1 g2 g3 g4 g5 g6 g7 g8 g9 g10 z4 z5 z6
    go_wp2_with fail
    refine Calls.mono (HN32.out _) ?_
    rintro e p4 ⟨rfl, hb⟩
    have KRp4 := Lib.hid (KRp3.out.below hb KRp3.out.lt)
    have KMp4 := Lib.hid (KMp3.out.below hb KMp3.out.lt)
    have LWp4 := Lib.hid (LWp3.out.trans (hb.mono LWp3.out.size))
    clear hb
    obtain ⟨g0, g1, g2, g3, g4, g5, g6, g7, g8, g9, g10⟩ := KMp4.out.e11
    have z7 := KMp4.out.frozen 7
    have z8 := KMp4.out.frozen 8
    have z9 := KMp4.out.frozen 9
    have KMq4 := Lib.hid (((KMp4.out.set_ 7 (.bool true)).set_ 8 (.int .u64 A3)).set_ 9 (.int .u64 A4))
    simp only [List.setIfInBounds_toArray, List.set_cons_zero, List.set_cons_succ] at KMq4
    have KRq4 := Lib.hid (((KRp4.out.far (p := ⟨M, 7, none⟩) (show w.heap.size ≠ M by omega) (.bool true)).far (p := ⟨M, 8, none⟩) (show w.heap.size ≠ M by omega) (.int .u64 A3)).far (p := ⟨M, 9, none⟩) (show w.heap.size ≠ M by omega) (.int .u64 A4))
    have LWq4 := Lib.hid (((LWp4.out.setCell (p := ⟨M, 7, none⟩) (show w.heap.size ≤ M by omega) (.bool true)).setCell (p := ⟨M, 8, none⟩) (show w.heap.size ≤ M by omega) (.int .u64 A3)).setCell (p := ⟨M, 9, none⟩) (show w.heap.size ≤ M by omega) (.int .u64 A4))
    obtain ⟨k0, k1, k2, k3, k4, k5, k6, k7, k8, k9, k10⟩ := KMq4.out.e11
    have HQ : Hid ((#[.int .i64 C, .int .i64 FL, .int .i64 N, .int .i64 H, .bool true, .int .u64 A1, .int .u64 A2, .bool true, .int .u64 A3, .int .u64 A4, .string D] : Array Value).size = 11 ∧ (#[.int .i64 C, .int .i64 FL, .int .i64 N, .int .i64 H, .bool true, .int .u64 A1, .int .u64 A2, .bool true, .int .u64 A3, .int .u64 A4, .string D] : Array Value).all (·.oneCell') = true) := Lib.hid ⟨rfl, by simp [Value.oneCell']⟩
    go_wp2_with (with_reducible refine wpList_st11 rfl (.tmp 2) (.tmp 54) rfl w.heap.size #[.int .i64 C, .int .i64 FL, .int .i64 N, .int .i64 H, .bool true, .int .u64 A1, .int .u64 A2, .bool true, .int .u64 A3, .int .u64 A4, .string D] #[.int .i64 0, .int .i64 0, .int .i64 0, .int .i64 0, .bool false, .int .u64 0, .int .u64 0, .bool false, .int .u64 0, .int .u64 0, .string ⟨#[]⟩] rfl rfl KRq4.out HZ.out.1 HQ.out.1 HQ.out.2 ?_; intro w6 hk6 hb6; have HK6 := Lib.hid hk6; have HL6 := Lib.hid (LWq4.out.trans hb6); clear hk6 hb6)
    obtain ⟨r0, r1, r2, r3, r4, r5, r6, r7, r8, r9, r10⟩ := HK6.out.e11
    exact bodyPost_ret (v := .tuple #[.agg #[.int .i64 C, .int .i64 FL, .int .i64 N, .int .i64 H, .bool true, .int .u64 A1, .int .u64 A2, .bool true, .int .u64 A3, .int .u64 A4, .string D], .int .i64 0]) (by simp [results, Try.results19, go_sem, r0, r1, r2, r3, r4, r5, r6, r7, r8, r9, r10]) rfl ⟨by unfold tkSV; rw [HX.out, HPX.out], HL6.out⟩
theorem srtake_any (s : ByteArray) (hs : (s.size : Int) ≤ 9223372036854775807) (w : World) :
    Calls Try.prog 19 #[.string s] w fun e w' => e = .returned (tkSV s) ∧ Below w.heap.size w w' := by
  by_cases h : s.size < 40
  · exact srtk_s40 s hs h w
  · by_cases hk : fsS s / 268435456 = 6
    · by_cases hj : s.size < 40 + lnS s
      · exact srtk_sh s hs (by omega) hk hj w
      · exact srtk_ok s hs (by omega) hk (by omega) w
    · exact srtk_kd s hs (by omega) hk w
end Go.Proofs.Ytbhddodghbhjiaa
