/-
  D5: any text is read as the range of first bits that the document's own reading gives, or as none; any range is told as the document tells it: for every text of bulk at most 1048576, and every range.
-/
import Derived.Test.YtbpdnohcgojmbaaGreatDoorRPq
namespace Go.Proofs.YtbpdnohcgojmbaaGreatDoor.Texts
open Go.ChangeShapes Go.WideShapes Go.ChangeAt Go.RowKit
set_option linter.unusedVariables false

theorem bulk_mem {H : Type} {d : DataW H} {l : List (DataW H)} (h : d ∈ l) : Rows.uptoBulk d ≤ Rows.uptoBulkAll l := by
  induction l with
  | nil => cases h
  | cons x r ih =>
    simp only [Rows.uptoBulkAll]
    rcases List.mem_cons.1 h with e | e
    · subst e; omega
    · have := ih e; omega
theorem bulk_le {H : Type} {d : DataW H} {l : List (DataW H)} (hk : Rows.uptoSmall H l = true) (h : d ∈ l) : Rows.uptoBulk d ≤ 1048576 := by
  have h1 : Rows.uptoBulkAll l ≤ 1048576 := by simpa [Rows.uptoSmall] using hk
  exact Nat.le_trans (bulk_mem h) h1
theorem pprint_in (s : Bool) (h l : Nat) (b : Int) (hh : N64 h) (hl : N64 l) {A B : Int} (e1 : (h : Int) = A) (e2 : (l : Int) = B) {T : ByteArray} (hT : T = ⟨(pprn s h l b).toArray⟩) (w : World) (hE : Env w) :
    Calls Tryz.prog 7 #[pfx s A B b] w fun e w' => e = .returned (.string T) ∧ Below w.heap.size w w' := by
  subst e1 e2 hT; exact pprint_any s h l b hh hl w hE
theorem ppr_out {t : List UInt8} {v : Value} (h : Ppr t v) : ∃ (x : Bool) (X Y n E : Int), v = .tuple #[.agg #[.bool x, .int .u64 X, .int .u64 Y, .int .i64 n], .int .i64 E] := by
  rcases h with ⟨_, e⟩ | ⟨a, b, _, _, ⟨_, e⟩ | ⟨x, h, l, hh, hl, _, ⟨n, _, hp, e⟩ | ⟨_, e⟩⟩⟩
  all_goals exact ⟨_, _, _, _, _, e⟩
set_option maxRecDepth 100000 in
set_option maxHeartbeats 8000000 in
theorem walk (w : World) (hE : Env w) (a0 : ByteArray) (w0 : a0.size ≤ maxLen) (u0 : a0.size ≤ 1048576) (a1_0 : Bool) (a1_1 : Int) (w1_1 : (Lit.int .u64 a1_1).wf = true) (a1_2 : Int) (w1_2 : (Lit.int .u64 a1_2).wf = true) (a1_3 : Int) (w1_3 : (Lit.int .i64 a1_3).wf = true) :
    Calls Tryz.prog 3 #[.string a0, .agg #[.bool a1_0, .int .u64 a1_1, .int .u64 a1_2, .int .i64 a1_3]] w fun e w' => e = .returned (.bool true) ∧ Below w.heap.size w w' := by
  obtain ⟨h, rfl, hh⟩ := n64_of w1_1
  obtain ⟨l, rfl, hl⟩ := n64_of w1_2
  have hE := Lib.hid hE
  obtain ⟨vs, hvs⟩ := ppr_any a0.data.toList
  have HS := Lib.hid (fun w hE => pparse_any a0 (by omega) vs hvs w hE)
  have HT := Lib.hid (fun w => rpparse_any a0 (by omega) vs hvs w)
  obtain ⟨x, X, Y, n, E, hv⟩ := ppr_out hvs
  rw [hv] at HS HT
  obtain ⟨T, hT⟩ : ∃ T : ByteArray, T = ⟨(pprn a1_0 h l a1_3).toArray⟩ := ⟨_, rfl⟩
  obtain ⟨A, hA⟩ : ∃ A : Int, (h : Int) = A := ⟨_, rfl⟩
  obtain ⟨B, hB⟩ : ∃ B : Int, (l : Int) = B := ⟨_, rfl⟩
  have HP := Lib.hid (fun w hE => pprint_in a1_0 h l a1_3 hh hl hA hB hT w hE)
  have HQ := Lib.hid (fun w => rpprint_in a1_0 h l a1_3 hh hl hA hB hT w)
  rw [hA, hB]
  clear w1_1 w1_2 w1_3 w0 u0 hvs hv hT hA hB hh hl
  have KP0 := Lib.hid (Blk.new w 26 #[.bool a1_0, .int .u64 A, .int .u64 B, .int .i64 a1_3])
  have L0 := Lib.hid ((Below.refl _ w).alloc (Nat.le_refl _) (.cells #[.bool a1_0, .int .u64 A, .int .u64 B, .int .i64 a1_3] 26))
  have E0 := Lib.hid (hE.out.alloc (.cells #[.bool a1_0, .int .u64 A, .int .u64 B, .int .i64 a1_3] 26))
  go_enter Tryz.func3, Tryz.ntmps3
  go_wp2_with fail
  refine Calls.mono (pawake_yes _ E0.out) ?_
  rintro e w1 ⟨rfl, hb⟩
  have KP1 := Lib.hid (KP0.out.below hb KP0.out.lt)
  have L1 := Lib.hid (L0.out.trans (hb.mono L0.out.size))
  have E1 := Lib.hid (E0.out.below hb)
  clear hb
  go_wp2_with fail
  refine Calls.mono (HS.out _ E1.out) ?_
  rintro e w2 ⟨rfl, hb⟩
  have KP2 := Lib.hid ((KP1.out.below hb KP1.out.lt).alloc (.cells #[.bool x, .int .u64 X, .int .u64 Y, .int .i64 n] 26))
  have KX2 := Lib.hid (Blk.new w2 26 #[.bool x, .int .u64 X, .int .u64 Y, .int .i64 n])
  have L2 := Lib.hid ((L1.out.trans (hb.mono L1.out.size)).alloc (L1.out.trans (hb.mono L1.out.size)).size (.cells #[.bool x, .int .u64 X, .int .u64 Y, .int .i64 n] 26))
  have E2 := Lib.hid ((E1.out.below hb).alloc (.cells #[.bool x, .int .u64 X, .int .u64 Y, .int .i64 n] 26))
  clear hb
  go_wp2_with fail
  refine Calls.mono (HT.out _) ?_
  rintro e w3 ⟨rfl, hb⟩
  have KP3 := Lib.hid ((KP2.out.below hb KP2.out.lt).alloc (.cells #[.bool x, .int .u64 X, .int .u64 Y, .int .i64 n] 26))
  have KX3 := Lib.hid ((KX2.out.below hb KX2.out.lt).alloc (.cells #[.bool x, .int .u64 X, .int .u64 Y, .int .i64 n] 26))
  have KY3 := Lib.hid (Blk.new w3 26 #[.bool x, .int .u64 X, .int .u64 Y, .int .i64 n])
  have L3 := Lib.hid ((L2.out.trans (hb.mono L2.out.size)).alloc (L2.out.trans (hb.mono L2.out.size)).size (.cells #[.bool x, .int .u64 X, .int .u64 Y, .int .i64 n] 26))
  have E3 := Lib.hid ((E2.out.below hb).alloc (.cells #[.bool x, .int .u64 X, .int .u64 Y, .int .i64 n] 26))
  clear hb
  obtain ⟨V, hV⟩ : ∃ V, w3.alloc (.cells #[.bool x, .int .u64 X, .int .u64 Y, .int .i64 n] 26) = V := ⟨_, rfl⟩
  obtain ⟨M, hM⟩ : ∃ M, w.heap.size = M := ⟨_, rfl⟩
  have HM := Lib.hid hM
  obtain ⟨XX, hXX⟩ : ∃ M, w2.heap.size = M := ⟨_, rfl⟩
  obtain ⟨YY, hYY⟩ : ∃ M, w3.heap.size = M := ⟨_, rfl⟩
  have kp := KP3.out
  have kx := KX3.out
  have ky := KY3.out
  have l3 := L3.out
  have e3 := E3.out
  rw [hV] at kp kx ky l3 e3
  rw [hM] at kp l3 ⊢
  rw [hXX] at kx
  rw [hYY] at ky
  have KP := Lib.hid kp
  have KX := Lib.hid kx
  have KY := Lib.hid ky
  have LV := Lib.hid l3
  have EV := Lib.hid e3
  have HC : Hid (∀ W', Below V.heap.size V W' → W'.cell? ⟨M, 0, none⟩ = some (.bool a1_0) ∧ W'.cell? ⟨M, 1, none⟩ = some (.int .u64 A) ∧ W'.cell? ⟨M, 2, none⟩ = some (.int .u64 B) ∧ W'.cell? ⟨M, 3, none⟩ = some (.int .i64 a1_3) ∧ W'.cell? ⟨XX, 0, none⟩ = some (.bool x) ∧ W'.cell? ⟨XX, 1, none⟩ = some (.int .u64 X) ∧ W'.cell? ⟨XX, 2, none⟩ = some (.int .u64 Y) ∧ W'.cell? ⟨XX, 3, none⟩ = some (.int .i64 n) ∧ W'.cell? ⟨YY, 0, none⟩ = some (.bool x) ∧ W'.cell? ⟨YY, 1, none⟩ = some (.int .u64 X) ∧ W'.cell? ⟨YY, 2, none⟩ = some (.int .u64 Y) ∧ W'.cell? ⟨YY, 3, none⟩ = some (.int .i64 n)) := Lib.hid fun W' hb => by
    obtain ⟨a0, a1, a2, a3⟩ := (KP.out.below hb KP.out.lt).c4
    obtain ⟨b0, b1, b2, b3⟩ := (KX.out.below hb KX.out.lt).c4
    obtain ⟨c0, c1, c2, c3⟩ := (KY.out.below hb KY.out.lt).c4
    exact ⟨a0, a1, a2, a3, b0, b1, b2, b3, c0, c1, c2, c3⟩
  have hR : Below V.heap.size V V.drew := (Below.refl _ _).drew
  clear kp kx ky l3 e3 KP0 KP1 KP2 KP3 KX2 KX3 KY3 L0 L1 L2 L3 E0 E1 E2 E3 HS HT hE
  go_wp2
  try rw [hV]
  try rw [hXX]
  try rw [hYY]
  clear hM hXX hYY hV
  refine wp_region_held_drew (S := (fun w' => w'.cell? ⟨M, 0, none⟩ = some (.bool a1_0) ∧ w'.cell? ⟨M, 1, none⟩ = some (.int .u64 A) ∧ w'.cell? ⟨M, 2, none⟩ = some (.int .u64 B) ∧ w'.cell? ⟨M, 3, none⟩ = some (.int .i64 a1_3) ∧ w'.cell? ⟨XX, 0, none⟩ = some (.bool x) ∧ w'.cell? ⟨XX, 1, none⟩ = some (.int .u64 X) ∧ w'.cell? ⟨XX, 2, none⟩ = some (.int .u64 Y) ∧ w'.cell? ⟨XX, 3, none⟩ = some (.int .i64 n) ∧ w'.cell? ⟨YY, 0, none⟩ = some (.bool x) ∧ w'.cell? ⟨YY, 1, none⟩ = some (.int .u64 X) ∧ w'.cell? ⟨YY, 2, none⟩ = some (.int .u64 Y) ∧ w'.cell? ⟨YY, 3, none⟩ = some (.int .i64 n))) (by kernel_rfl) ?_ (fun hHeld => ?_)
  · exact HC.out _ hR
  refine wpAnyH_take (i := 0) (oi := { dst := some 21, op := Go.Op.move (Go.Operand.tmp 5), type := 4, pos := "law.go:45", after := #[], guard := none }) (v := ?_) rfl (by kernel_rfl) (by kernel_rfl) (by kernel_rfl) (fun _ _ _ h => h) (Or.inl ⟨by rfl, ?_⟩) (by assumption) ?_
  rotate_left
  · intro w hSw
    (try dsimp only at hSw)
    go_simp
    try (with_reducible rfl)
  try simp only [Act.put, List.setIfInBounds_toArray, List.set_cons_zero, List.set_cons_succ]
  refine wpAnyH_take (i := 1) (oi := { dst := some 22, op := Go.Op.move (Go.Operand.tmp 21), type := 4, pos := "law.go:45", after := #[{ on := 0, ground := Go.Ground.data }], guard := none }) (v := ?_) rfl (by kernel_rfl) (by kernel_rfl) (by kernel_rfl) (fun _ _ _ h => h) (Or.inl ⟨by rfl, ?_⟩) (by assumption) ?_
  rotate_left
  · intro w hSw
    (try dsimp only at hSw)
    go_simp
    try (with_reducible rfl)
  try simp only [Act.put, List.setIfInBounds_toArray, List.set_cons_zero, List.set_cons_succ]
  refine wpAnyH_take (i := 2) (oi := { dst := some 23, op := Go.Op.load 26 (Go.Operand.tmp 6), type := 26, pos := "law.go:45", after := #[{ on := 1, ground := Go.Ground.guard }], guard := some (1, true) }) (v := ?_) rfl (by kernel_rfl) (by kernel_rfl) (by kernel_rfl) (fun _ _ _ h => h) (Or.inl ⟨by rfl, ?_⟩) (by assumption) ?_
  rotate_left
  · intro w hSw
    (try dsimp only at hSw)
    go_simp
    try (with_reducible rfl)
  try simp only [Act.put, List.setIfInBounds_toArray, List.set_cons_zero, List.set_cons_succ]
  refine wpAnyH_take (i := 3) (oi := { dst := some 24, op := Go.Op.load 26 (Go.Operand.tmp 8), type := 26, pos := "law.go:45", after := #[{ on := 1, ground := Go.Ground.guard }], guard := some (1, true) }) (v := ?_) rfl (by kernel_rfl) (by kernel_rfl) (by kernel_rfl) (fun _ _ _ h => h) (Or.inl ⟨by rfl, ?_⟩) (by assumption) ?_
  rotate_left
  · intro w hSw
    (try dsimp only at hSw)
    go_simp
    try (with_reducible rfl)
  try simp only [Act.put, List.setIfInBounds_toArray, List.set_cons_zero, List.set_cons_succ]
  refine wpAnyH_take (i := 4) (oi := { dst := some 25, op := Go.Op.binOp Go.BinOp.eql 26 (Go.Operand.tmp 23) (Go.Operand.tmp 24) 26, type := 4, pos := "law.go:45", after := #[{ on := 2, ground := Go.Ground.data }, { on := 3, ground := Go.Ground.data }, { on := 1, ground := Go.Ground.guard }], guard := some (1, true) }) (v := ?_) rfl (by kernel_rfl) (by kernel_rfl) (by kernel_rfl) (fun _ _ _ h => h) (Or.inl ⟨by rfl, ?_⟩) (by assumption) ?_
  rotate_left
  · intro w hSw
    (try dsimp only at hSw)
    go_simp
    try (with_reducible rfl)
  try simp only [Act.put, List.setIfInBounds_toArray, List.set_cons_zero, List.set_cons_succ]
  refine wpAnyH_take (i := 5) (oi := { dst := some 26, op := Go.Op.pick (Go.Operand.tmp 22) (Go.Operand.tmp 25) (Go.Operand.const (Go.Value.bool false)), type := 4, pos := "law.go:45", after := #[{ on := 1, ground := Go.Ground.data }, { on := 4, ground := Go.Ground.data }], guard := none }) (v := ?_) rfl (by kernel_rfl) (by kernel_rfl) (by kernel_rfl) (fun _ _ _ h => h) (Or.inl ⟨by rfl, ?_⟩) (by assumption) ?_
  rotate_left
  · intro w hSw
    (try dsimp only at hSw)
    go_simp
    try (with_reducible rfl)
  try simp only [Act.put, List.setIfInBounds_toArray, List.set_cons_zero, List.set_cons_succ]
  refine wpAnyH_take (i := 6) (oi := { dst := some 27, op := Go.Op.move (Go.Operand.tmp 26), type := 4, pos := "law.go:45", after := #[{ on := 5, ground := Go.Ground.data }, { on := 1, ground := Go.Ground.chain }], guard := none }) (v := ?_) rfl (by kernel_rfl) (by kernel_rfl) (by kernel_rfl) (fun _ _ _ h => h) (Or.inl ⟨by rfl, ?_⟩) (by assumption) ?_
  rotate_left
  · intro w hSw
    (try dsimp only at hSw)
    go_simp
    try (with_reducible rfl)
  try simp only [Act.put, List.setIfInBounds_toArray, List.set_cons_zero, List.set_cons_succ]
  refine wpAnyH_take (i := 7) (oi := { dst := some 28, op := Go.Op.move (Go.Operand.tmp 7), type := 28, pos := "law.go:45", after := #[{ on := 6, ground := Go.Ground.guard }], guard := some (6, true) }) (v := ?_) rfl (by kernel_rfl) (by kernel_rfl) (by kernel_rfl) (fun _ _ _ h => h) (Or.inl ⟨by rfl, ?_⟩) (by assumption) ?_
  rotate_left
  · intro w hSw
    (try dsimp only at hSw)
    go_simp
    try (with_reducible rfl)
  try simp only [Act.put, List.setIfInBounds_toArray, List.set_cons_zero, List.set_cons_succ]
  refine wpAnyH_take (i := 8) (oi := { dst := some 29, op := Go.Op.move (Go.Operand.tmp 9), type := 28, pos := "law.go:45", after := #[{ on := 6, ground := Go.Ground.guard }], guard := some (6, true) }) (v := ?_) rfl (by kernel_rfl) (by kernel_rfl) (by kernel_rfl) (fun _ _ _ h => h) (Or.inl ⟨by rfl, ?_⟩) (by assumption) ?_
  rotate_left
  · intro w hSw
    (try dsimp only at hSw)
    go_simp
    try (with_reducible rfl)
  try simp only [Act.put, List.setIfInBounds_toArray, List.set_cons_zero, List.set_cons_succ]
  refine wpAnyH_take (i := 9) (oi := { dst := some 30, op := Go.Op.binOp Go.BinOp.eql 28 (Go.Operand.tmp 28) (Go.Operand.tmp 29) 28, type := 4, pos := "law.go:45", after := #[{ on := 7, ground := Go.Ground.data }, { on := 8, ground := Go.Ground.data }, { on := 6, ground := Go.Ground.guard }], guard := some (6, true) }) (v := ?_) rfl (by kernel_rfl) (by kernel_rfl) (by kernel_rfl) (fun _ _ _ h => h) (Or.inl ⟨by rfl, ?_⟩) (by assumption) ?_
  rotate_left
  · intro w hSw
    (try dsimp only at hSw)
    go_simp
    try (with_reducible rfl)
  try simp only [Act.put, List.setIfInBounds_toArray, List.set_cons_zero, List.set_cons_succ]
  refine wpAnyH_take (i := 10) (oi := { dst := some 31, op := Go.Op.pick (Go.Operand.tmp 27) (Go.Operand.tmp 30) (Go.Operand.const (Go.Value.bool false)), type := 4, pos := "law.go:45", after := #[{ on := 6, ground := Go.Ground.data }, { on := 9, ground := Go.Ground.data }], guard := none }) (v := ?_) rfl (by kernel_rfl) (by kernel_rfl) (by kernel_rfl) (fun _ _ _ h => h) (Or.inl ⟨by rfl, ?_⟩) (by assumption) ?_
  rotate_left
  · intro w hSw
    (try dsimp only at hSw)
    go_simp
    try (with_reducible rfl)
  try simp only [Act.put, List.setIfInBounds_toArray, List.set_cons_zero, List.set_cons_succ]
  refine wpAnyH_take (i := 11) (oi := { dst := some 32, op := Go.Op.move (Go.Operand.tmp 31), type := 4, pos := "law.go:45", after := #[{ on := 10, ground := Go.Ground.data }, { on := 6, ground := Go.Ground.chain }], guard := none }) (v := ?_) rfl (by kernel_rfl) (by kernel_rfl) (by kernel_rfl) (fun _ _ _ h => h) (Or.inl ⟨by rfl, ?_⟩) (by assumption) ?_
  rotate_left
  · intro w hSw
    (try dsimp only at hSw)
    go_simp
    try (with_reducible rfl)
  try simp only [Act.put, List.setIfInBounds_toArray, List.set_cons_zero, List.set_cons_succ]
  refine wpAnyH_take (i := 12) (oi := { dst := some 33, op := Go.Op.load 26 (Go.Operand.tmp 3), type := 26, pos := "law.go:45", after := #[{ on := 11, ground := Go.Ground.guard }], guard := some (11, true) }) (v := ?_) rfl (by kernel_rfl) (by kernel_rfl) (by kernel_rfl) (fun _ _ _ h => h) (Or.inl ⟨by rfl, ?_⟩) (by assumption) ?_
  rotate_left
  · intro w hSw
    (try dsimp only at hSw)
    go_simp
    try (with_reducible rfl)
  try simp only [Act.put, List.setIfInBounds_toArray, List.set_cons_zero, List.set_cons_succ]
  refine wpAnyH_take (i := 14) (oi := { dst := some 35, op := Go.Op.load 26 (Go.Operand.tmp 3), type := 26, pos := "law.go:45", after := #[{ on := 11, ground := Go.Ground.guard }], guard := some (11, true) }) (v := ?_) rfl (by kernel_rfl) (by kernel_rfl) (by kernel_rfl) (fun _ _ _ h => h) (Or.inl ⟨by rfl, ?_⟩) (by assumption) ?_
  rotate_left
  · intro w hSw
    (try dsimp only at hSw)
    go_simp
    try (with_reducible rfl)
  try simp only [Act.put, List.setIfInBounds_toArray, List.set_cons_zero, List.set_cons_succ]
  refine wpAnyH_ready (rs := [13]) (by kernel_rfl) (by simp) ?_
  refine AllReadyH.cons (o := { dst := some 34, op := Go.Op.call { callee := Go.Callee.value (Go.Operand.func 7), args := #[Go.Operand.tmp 33], argTypes := #[26] }, type := 9, pos := "law.go:45", after := #[{ on := 12, ground := Go.Ground.data }, { on := 11, ground := Go.Ground.chain }, { on := 11, ground := Go.Ground.guard }], guard := some (11, true) }) rfl (fun K hK => ?_) AllReadyH.nil
  go_simp
  (go_at_call 7; (with_reducible refine Calls.mono (HP.out _ (EV.out.below hR)) ?_); rintro e W' ⟨rfl, hb⟩; replace hR := hR.trans (hb.mono hR.size); clear hb)
  go_wp2_with fail
  refine hK.out _ _ ?_ (fun hHeld => ?_)
  · exact HC.out _ hR
  clear hK K
  try simp only [Act.put, List.setIfInBounds_toArray, List.set_cons_zero, List.set_cons_succ]
  refine wpAnyH_ready (rs := [15]) (by kernel_rfl) (by simp) ?_
  refine AllReadyH.cons (o := { dst := some 36, op := Go.Op.call { callee := Go.Callee.value (Go.Operand.func 8), args := #[Go.Operand.tmp 35], argTypes := #[26] }, type := 9, pos := "law.go:45", after := #[{ on := 14, ground := Go.Ground.data }, { on := 13, ground := Go.Ground.chain }, { on := 11, ground := Go.Ground.guard }], guard := some (11, true) }) rfl (fun K hK => ?_) AllReadyH.nil
  go_simp
  (go_at_call 8; (with_reducible refine Calls.mono (HQ.out _) ?_); rintro e W' ⟨rfl, hb⟩; replace hR := hR.trans (hb.mono hR.size); clear hb)
  go_wp2_with fail
  refine hK.out _ _ ?_ (fun hHeld => ?_)
  · exact HC.out _ hR
  clear hK K
  try simp only [Act.put, List.setIfInBounds_toArray, List.set_cons_zero, List.set_cons_succ]
  refine wpAnyH_take (i := 16) (oi := { dst := some 37, op := Go.Op.binOp Go.BinOp.eql 9 (Go.Operand.tmp 34) (Go.Operand.tmp 36) 9, type := 4, pos := "law.go:45", after := #[{ on := 13, ground := Go.Ground.data }, { on := 15, ground := Go.Ground.data }, { on := 11, ground := Go.Ground.guard }], guard := some (11, true) }) (v := ?_) rfl (by kernel_rfl) (by kernel_rfl) (by kernel_rfl) (fun _ _ _ h => h) (Or.inl ⟨by rfl, ?_⟩) (by assumption) ?_
  rotate_left
  · intro w hSw
    (try dsimp only at hSw)
    go_simp
    try (with_reducible rfl)
  try simp only [Act.put, List.setIfInBounds_toArray, List.set_cons_zero, List.set_cons_succ]
  refine wpAnyH_take (i := 17) (oi := { dst := some 38, op := Go.Op.pick (Go.Operand.tmp 32) (Go.Operand.tmp 37) (Go.Operand.const (Go.Value.bool false)), type := 4, pos := "law.go:45", after := #[{ on := 11, ground := Go.Ground.data }, { on := 16, ground := Go.Ground.data }], guard := none }) (v := ?_) rfl (by kernel_rfl) (by kernel_rfl) (by kernel_rfl) (fun _ _ _ h => h) (Or.inl ⟨by rfl, ?_⟩) (by assumption) ?_
  rotate_left
  · intro w hSw
    (try dsimp only at hSw)
    go_simp
    try (with_reducible rfl)
  try simp only [Act.put, List.setIfInBounds_toArray, List.set_cons_zero, List.set_cons_succ]
  refine wpAnyH_take (i := 18) (oi := { dst := some 4, op := Go.Op.assign (Go.Operand.tmp 38), type := 4, pos := "law.go:45", after := #[{ on := 17, ground := Go.Ground.data }, { on := 15, ground := Go.Ground.chain }, { on := 0, ground := Go.Ground.phase }, { on := 1, ground := Go.Ground.phase }, { on := 2, ground := Go.Ground.phase }, { on := 3, ground := Go.Ground.phase }, { on := 4, ground := Go.Ground.phase }, { on := 5, ground := Go.Ground.phase }, { on := 6, ground := Go.Ground.phase }, { on := 7, ground := Go.Ground.phase }, { on := 8, ground := Go.Ground.phase }, { on := 9, ground := Go.Ground.phase }, { on := 10, ground := Go.Ground.phase }, { on := 11, ground := Go.Ground.phase }, { on := 12, ground := Go.Ground.phase }, { on := 13, ground := Go.Ground.phase }, { on := 14, ground := Go.Ground.phase }, { on := 15, ground := Go.Ground.phase }, { on := 16, ground := Go.Ground.phase }, { on := 17, ground := Go.Ground.phase }], guard := none }) (v := ?_) rfl (by kernel_rfl) (by kernel_rfl) (by kernel_rfl) (fun _ _ _ h => h) (Or.inl ⟨by rfl, ?_⟩) (by assumption) ?_
  rotate_left
  · intro w hSw
    (try dsimp only at hSw)
    go_simp
    try (with_reducible rfl)
  try simp only [Act.put, List.setIfInBounds_toArray, List.set_cons_zero, List.set_cons_succ]
  refine wpAnyH_done (by kernel_rfl) ?_ _

  have L4 := Lib.hid (LV.out.trans (hR.mono (by rw [← HM.out]; exact LV.out.size)))
  clear hR
  go_wp2
  go_ret
  exact ⟨ret_bool (by simp), by rw [HM.out]; exact L4.out⟩

set_option maxRecDepth 100000 in
theorem contract (H : Type) (enc : TypeId × Value → H) (W : World) (base : Nat) (args : Array Value) (ds gs : List (DataW H)) (before : List MemPlace)
    (hval0 : ∀ (j : Nat) t v, Tryz.f3.params[j]? = some t → args[j]? = some v → Value.okWide Tryz.prog W .any base t v)
    (hW : DataW.Whole enc Tryz.prog Tryz.f3.params.toList Rows.prefixTextsSpec.vars false W args.toList ds gs before)
    (hsz0 : (DataW.weightsEach Tryz.prog (Tryz.f3.params.toList ++ Rows.prefixTextsSpec.plain.varTypes Tryz.prog) (ds ++ gs)).all (· ≤ reachBytes) = true) (hk : Rows.uptoSmall H (ds ++ gs) = true) (hE : Env W) :
    Calls Tryz.prog 3 args W fun e W' => ∃ v, e = .returned v ∧ Rows.prefixTextsSpec.post enc Tryz.prog Tryz.f3 false true false false W args v W' := by
  have hsz := hsz0
  clear hsz0
  have hval := hval0
  clear hval0
  have hW' := hW
  obtain ⟨p, q, hA0, hV, rfl, hfz, hnd⟩ := hW
  have hA : DataW.TrodAll enc Tryz.prog W 0 (fun _ => true) true Tryz.f3.params.toList args.toList ds p := hA0
  rw [Tryz.params3] at hA hval hsz
  obtain ⟨v0, vs0, d0, ds0, p0, q0, hargs, rfl, rfl, h0, r0⟩ := trodAll_cons hA
  obtain ⟨v1, vs1, d1, ds1, p1, q1, rfl, rfl, rfl, h1, r1⟩ := trodAll_cons r0
  obtain ⟨rfl, rfl, rfl⟩ := trodAll_nil r1
  obtain rfl : args = #[v0, v1] := by cases args; simp_all
  obtain ⟨rfl, rfl⟩ := trodVars_none hV
  obtain ⟨a0, rfl, rfl, rfl, w0⟩ := Go.ChangeMaps.open_string Tryz.underlying9 (hval 0 9 v0 rfl rfl) h0
  have u0 : a0.size ≤ 1048576 := by have h1 := bulk_le hk (d := DataW.lit (.string a0.data.toList)) (by simp); rw [Lib.size_eq]; simp only [Rows.uptoBulk] at h1; omega
  have k1 := h1
  have lt1 : ∀ x ∈ p1, x.block < W.heap.size := by obtain ⟨m, hm⟩ := k1; exact DataW.trod_lt m _ _ _ hm
  obtain ⟨a1_0, a1_1, a1_2, a1_3, rfl, w1_1, w1_2, w1_3, ep1⟩ := open_pfx (hval 1 26 v1 rfl rfl) h1
  clear hA0
  refine (walk W hE a0 w0 u0 a1_0 a1_1 w1_1 a1_2 w1_2 a1_3 w1_3).mono fun e W' ⟨he, bel⟩ => ?_
  subst he
  exact ⟨_, rfl, _, _, _, [], _, [], hW', trodAll_mk1 (shut_bool Tryz.underlying4 _), (trodAll_cons_mk (Go.ChangeMaps.shut_string Tryz.underlying9 w0) (trodAll_cons_mk (Below.trod laidOut (by kernel_rfl) (of_decide_eq_true (by kernel_rfl)) k1 bel lt1) trodAll_mk0)), rfl, bel.frame _, fun h => by cases h⟩

theorem laid_met (os : Os) (args : Array Value) : laidMet Tryz.prog Rows.prefixTextsUptoRow.laid ((World.laidAll Tryz.prog os Rows.prefixTextsUptoRow.laid).forCall (fun _ _ => 0) ⟨#[], args, []⟩).memory :=
  laidMet_laidAll _ (by kernel_rfl) (by kernel_rfl)
set_option maxRecDepth 100000 in
theorem pre_row (os : Os) {H : Type} (enc : TypeId × Value → H) :
    (Rows.OpenSpec.upto Rows.prefixTextsSpec).preRow enc Tryz.prog Tryz.f3 Rows.prefixTextsUptoRow.domain false Rows.prefixTextsUptoRow.laid ((World.laidAll Tryz.prog os Rows.prefixTextsUptoRow.laid).forCall (fun _ _ => 0) ⟨#[], #[.string ByteArray.empty, .agg #[.bool false, .int .u64 0, .int .u64 0, .int .i64 0]], []⟩).memory #[.string ByteArray.empty, .agg #[.bool false, .int .u64 0, .int .u64 0, .int .i64 0]] := by
  have hw : (DataW.whole enc Tryz.prog ((World.laidAll Tryz.prog os Rows.prefixTextsUptoRow.laid).forCall (fun _ _ => 0) ⟨#[], #[.string ByteArray.empty, .agg #[.bool false, .int .u64 0, .int .u64 0, .int .i64 0]], []⟩).memory Tryz.f3.params.toList (Rows.OpenSpec.upto Rows.prefixTextsSpec).vars false (#[.string ByteArray.empty, .agg #[.bool false, .int .u64 0, .int .u64 0, .int .i64 0]] : Array Value).toList 8).map (fun x => (x.1, x.2.1)) = some ([.lit (.string []), .agg [.agg [.lit (.bool false), .lit (.int .u64 0), .lit (.int .u64 0)], .lit (.int .i64 0)]], []) := by kernel_rfl
  obtain ⟨⟨x1, x2, x3⟩, hx, hx1⟩ := Option.map_eq_some_iff.1 hw
  simp only [Prod.mk.injEq] at hx1
  obtain ⟨rfl, rfl⟩ := hx1
  exact OpenSpec.preRow_of_cond 8 hx (by kernel_rfl) (fun k hk => by cases hk; rfl) (by kernel_rfl) (laid_met os _)
set_option maxRecDepth 100000 in
theorem lifted (os : Os) (started : os.Started) (H : Type) (enc : TypeId × Value → H) (F : Stop.Interp) :
    ReturnsInHanded {} Tryz.checked os 3 .any ((Rows.OpenSpec.upto Rows.prefixTextsSpec).preRow enc Tryz.prog Tryz.f3 Rows.prefixTextsUptoRow.domain false Rows.prefixTextsUptoRow.laid) (((Rows.OpenSpec.upto Rows.prefixTextsSpec).at F).post enc Tryz.prog Tryz.f3 false true false false) := by
  refine returnsInHanded_of_row (C := Tryz.checked) (s := (Rows.OpenSpec.upto Rows.prefixTextsSpec)) own started (by kernel_rfl) Tryz.func3
    ⟨World.laidAll Tryz.prog os Rows.prefixTextsUptoRow.laid, fun _ _ => 0, ⟨#[], #[.string ByteArray.empty, .agg #[.bool false, .int .u64 0, .int .u64 0, .int .i64 0]], []⟩, World.laidAll_os _ _ _, World.shaped_of_ZipB (by kernel_rfl) (by kernel_rfl), rfl, (Input.okWide_of_okWideB (by kernel_rfl)).2, pre_row os enc, (by simp only [Assume.holds]; exact ⟨by simp, by simp, fun _ => Modest.zero, by simp, by simp⟩)⟩ ?_
  intro W base args ds gs before hval hW _ hcond hsz hL hsh _
  rw [MakeChecks.laidMetH_plain _ _ _ (by kernel_rfl)] at hL
  exact contract H enc W base args ds gs before hval hW hsz (hcond _ rfl) (env_of hL hsh)

theorem over : Rows.prefixTextsUptoRow.holds Tryz.pinned (Rows.OpenSpec.upto Rows.prefixTextsSpec) :=
  OpenClaim.holds_of_cond 3 Tryz.f3 rfl rfl rfl rfl rfl rfl rfl ⟨rfl, rfl, rfl, rfl, rfl⟩ rfl rfl rfl rfl rfl (by kernel_rfl) Tryz.func3 (by kernel_rfl)
    (of_decide_eq_true (by kernel_rfl)) (by unfold Func.isWrapper; first | (rw [if_pos (by decide +kernel)]; kernel_rfl) | (rw [if_neg (by decide +kernel)]; exact ⟨rfl, rfl⟩))
    (fun os started H enc _ F => by rw [OpenClaim.pre_eq_preRow]; exact lifted os started H enc F)

theorem proved : Rows.PrefixTextsUptoCardSaid :=
  Claim7.holds_tied_plain_at .later [] Rows.prefixTextsUptoCard.laidKinds true Rows.prefixTextsUptoCard.stood.harness true over (fun _ h => by cases h) (by kernel_rfl) (fun _ h => by cases h) prefixTextsUpto_row_tie rfl ⟨rfl, rfl⟩ (by kernel_rfl) rfl
    (fun f fn hf hfn => by
      obtain rfl : f = 3 := Option.some.inj ((show Tryz.prog.funcNamed Rows.prefixTextsUptoRow.func = some 3 by kernel_rfl).symm.trans hf) |>.symm
      obtain rfl : fn = Tryz.f3 := (Option.some.inj (Tryz.func3.symm.trans hfn)).symm
      exact ⟨by kernel_rfl, fun j t ht => by
        rw [Tryz.params3] at ht
        have hm : t ∈ [9, 26] := by simpa using Array.mem_of_getElem? ht
        have hall : ([9, 26].all fun u => !Tryz.prog.wantsStandIn u) = true := by kernel_rfl
        exact (show Tryz.prog.wantsStandIn t = false by simpa using List.all_eq_true.1 hall t hm)⟩)
    (by kernel_rfl)
#print axioms proved
end Go.Proofs.YtbpdnohcgojmbaaGreatDoor.Texts
