/-
  The chapter's examples that each law of ip4 calls first: they answer true.
-/
import Derived.Test.YtbhddodghbhjiaaFHp
import Derived.Test.YtbhddodghbhjiaaFKept
import Derived.Test.YtbhddodghbhjiaaFSame
import Derived.Test.YtbhddodghbhjiaaFEx
import Derived.Deep.RegionHeld
namespace Go.Proofs.Ytbhddodghbhjiaa
open Go.RowKit
set_option linter.unusedVariables false

theorem eight_any (w : World) : Calls Try.prog 28 #[] w fun e w' => e = .returned (.agg #[.int .i64 0, .int .i64 0, .bool false, .bool false, .int .i64 0, .int .i64 64, .int .i64 17, .bool false, .int .u64 0, .int .u64 167772161, .bool false, .int .u64 0, .int .u64 167772162, .string ⟨#[]⟩, .string ⟨#[0, 0, 0, 0, 0, 0, 0, 0]⟩]) ∧ Below w.heap.size w w' := by
  go_enter Try.func28, Try.ntmps28
  go_wp2
  exact bodyPost_ret (v := .agg #[.int .i64 0, .int .i64 0, .bool false, .bool false, .int .i64 0, .int .i64 64, .int .i64 17, .bool false, .int .u64 0, .int .u64 167772161, .bool false, .int .u64 0, .int .u64 167772162, .string ⟨#[]⟩, .string ⟨#[0, 0, 0, 0, 0, 0, 0, 0]⟩]) (by simp [results, Try.results28, go_sem]) rfl ⟨rfl, (Below.refl _ _).alloc (Nat.le_refl _) _⟩
theorem lit_ro (w : World) : RO (w.alloc (.cells #[.int .i64 1, .string ⟨#[]⟩, .int .i64 131, .string ⟨#[9]⟩] 57)) (some ⟨w.heap.size, 0, none⟩) 2 [[1], [131, 3, 9]] := by
  have hb := Blk.new w 57 #[.int .i64 1, .string ⟨#[]⟩, .int .i64 131, .string ⟨#[9]⟩]
  refine ⟨rfl, fun _ => ⟨_, rfl, fun j x hx => ?_⟩⟩
  rcases j with _ | _ | j
  · cases hx; exact ⟨by rw [hb.cell]; rfl, by rw [hb.cell]; rfl⟩
  · cases hx; exact ⟨by rw [hb.cell]; rfl, by rw [hb.cell]; rfl⟩
  · cases hx
set_option maxRecDepth 100000 in
set_option maxHeartbeats 8000000 in
theorem fawake_yes (w : World) : Calls Try.prog 10 #[] w fun e w' => e = .returned (.bool true) ∧ Below w.heap.size w w' := by
  have HG := Lib.hid (fun W => eight_any W)
  have HL := Lib.hid (fun W => lay_any ex8 ex8_wf W)
  have HT := Lib.hid (fun W => take_any exS (by decide) W)
  have HH := Lib.hid (fun W => hop_any exS (by decide) W)
  have HO := Lib.hid (fun W => options_any ⟨#[1, 131, 3, 9, 0, 7]⟩ (by decide) W)
  have HO2 := Lib.hid (fun W => options_any ⟨#[7, 1]⟩ (by decide) W)
  have HK := Lib.hid (fun W => kept_any ⟨#[1, 131, 3, 9, 0, 7]⟩ (by decide) W)
  unfold lyRV at HL
  rw [ex8_ly] at HL
  unfold tkRV at HT
  rw [ex8_tk] at HT
  unfold hpRV at HH
  rw [ex8_hp] at HH
  rw [show (⟨#[1, 131, 3, 9, 0, 7]⟩ : ByteArray).data.toList = [1, 131, 3, 9, 0, 7] from rfl] at HO HK
  rw [show (⟨#[7, 1]⟩ : ByteArray).data.toList = [7, 1] from rfl] at HO2
  rw [ex_op] at HO
  rw [ex_no] at HO2
  rw [ex_kp] at HK
  have e1 : exS.size = 28 := rfl
  have e2 : exT.size = 28 := rfl
  have e3 : exS.extract 0 12 = ⟨#[69, 0, 0, 28, 0, 0, 0, 0, 64, 17, 102, 207]⟩ := by decide +kernel
  have e4 : exT.extract 8 12 = ⟨#[63, 17, 103, 207]⟩ := by decide +kernel
  obtain ⟨S, hS⟩ : ∃ x, exS = x := ⟨_, rfl⟩
  obtain ⟨T, hT⟩ : ∃ x, exT = x := ⟨_, rfl⟩
  rw [hS] at HL HT HH e1 e3
  rw [hT] at HH e2 e4
  clear hS hT
  have HLy : Hid (∀ W : World, Calls Try.prog 27 #[.agg #[.int .i64 0, .int .i64 0, .bool false, .bool false, .int .i64 0, .int .i64 64, .int .i64 17, .bool false, .int .u64 0, .int .u64 167772161, .bool false, .int .u64 0, .int .u64 167772162, .string ⟨#[]⟩, .string ⟨#[0, 0, 0, 0, 0, 0, 0, 0]⟩]] W fun e w' => e = .returned (.tuple #[.string S, .int .i64 0]) ∧ Below W.heap.size W w') := HL
  have HTk : Hid (∀ W : World, Calls Try.prog 11 #[.string S] W fun e w' => e = .returned (.tuple #[.agg #[.int .i64 0, .int .i64 0, .bool false, .bool false, .int .i64 0, .int .i64 64, .int .i64 17, .bool false, .int .u64 0, .int .u64 167772161, .bool false, .int .u64 0, .int .u64 167772162, .string ⟨#[]⟩, .string ⟨#[0, 0, 0, 0, 0, 0, 0, 0]⟩], .int .i64 0]) ∧ Below W.heap.size W w') := HT
  have HHp : Hid (∀ W : World, Calls Try.prog 13 #[.string S] W fun e w' => e = .returned (.tuple #[.string T, .int .i64 0]) ∧ Below W.heap.size W w') := HH
  clear HL HT HH
  have e5 : (S.size : Int) = 28 := by omega
  have e6 : (T.size : Int) = 28 := by omega
  go_enter Try.func10, Try.ntmps10
  go_wp2_with fail
  refine Calls.mono (HG.out _) ?_
  rintro e w0 ⟨rfl, hb⟩
  have L0 := Lib.hid hb
  clear hb
  go_wp2_with fail
  refine Calls.mono (HLy.out _) ?_
  rintro e w1 ⟨rfl, hb⟩
  have L1 := Lib.hid (L0.out.trans (hb.mono L0.out.size))
  clear hb
  go_wp2_with fail
  refine Calls.mono (HTk.out _) ?_
  rintro e w2 ⟨rfl, hb⟩
  have L2 := Lib.hid ((L1.out.trans (hb.mono L1.out.size)).alloc (L1.out.trans (hb.mono L1.out.size)).size (.cells #[.int .i64 0, .int .i64 0, .bool false, .bool false, .int .i64 0, .int .i64 64, .int .i64 17, .bool false, .int .u64 0, .int .u64 167772161, .bool false, .int .u64 0, .int .u64 167772162, .string ⟨#[]⟩, .string ⟨#[0, 0, 0, 0, 0, 0, 0, 0]⟩] 27))
  have K2 := Lib.hid (Blk.new w2 27 #[.int .i64 0, .int .i64 0, .bool false, .bool false, .int .i64 0, .int .i64 64, .int .i64 17, .bool false, .int .u64 0, .int .u64 167772161, .bool false, .int .u64 0, .int .u64 167772162, .string ⟨#[]⟩, .string ⟨#[0, 0, 0, 0, 0, 0, 0, 0]⟩])
  clear hb
  go_wp2_with fail
  refine Calls.mono (HHp.out _) ?_
  rintro e w3 ⟨rfl, hb⟩
  have L3 := Lib.hid (L2.out.trans (hb.mono L2.out.size))
  have K3 := Lib.hid (K2.out.below hb K2.out.lt)
  clear hb
  go_wp2_with fail
  refine Calls.mono (HO.out _) ?_
  intro e w4 hp
  unfold OpOut at hp
  obtain ⟨v, rfl, hown, hb, -⟩ := hp
  obtain ⟨A, c, rfl, hro, -⟩ := own_ro (by rfl) hown
  have L4 := Lib.hid (L3.out.trans (hb.mono L3.out.size))
  have K4 := Lib.hid (K3.out.below hb K3.out.lt)
  have R4 := Lib.hid hro
  have hlen2 : ([[1], [131, 3, 9]] : List (List UInt8)).length = 2 := rfl
  rw [hlen2] at R4 ⊢
  clear hb hro hown hlen2
  go_wp2_with fail
  refine Calls.mono (HO2.out _) ?_
  intro e w5 hp
  unfold OpOut at hp
  obtain ⟨rfl, hb⟩ := hp
  have L5 := Lib.hid (L4.out.trans (hb.mono L4.out.size))
  have K5 := Lib.hid (K4.out.below hb K4.out.lt)
  have R5 := Lib.hid (R4.out.below hb)
  clear hb
  obtain ⟨M, hM⟩ : ∃ M, w2.heap.size = M := ⟨_, rfl⟩
  rw [hM] at K5
  rw [hM]
  have HC : Hid (∀ W', Below w5.heap.size w5 W' → W'.cell? ⟨M, 0, none⟩ = some (.int .i64 0) ∧ W'.cell? ⟨M, 1, none⟩ = some (.int .i64 0) ∧ W'.cell? ⟨M, 2, none⟩ = some (.bool false) ∧ W'.cell? ⟨M, 3, none⟩ = some (.bool false) ∧ W'.cell? ⟨M, 4, none⟩ = some (.int .i64 0) ∧ W'.cell? ⟨M, 5, none⟩ = some (.int .i64 64) ∧ W'.cell? ⟨M, 6, none⟩ = some (.int .i64 17) ∧ W'.cell? ⟨M, 7, none⟩ = some (.bool false) ∧ W'.cell? ⟨M, 8, none⟩ = some (.int .u64 0) ∧ W'.cell? ⟨M, 9, none⟩ = some (.int .u64 167772161) ∧ W'.cell? ⟨M, 10, none⟩ = some (.bool false) ∧ W'.cell? ⟨M, 11, none⟩ = some (.int .u64 0) ∧ W'.cell? ⟨M, 12, none⟩ = some (.int .u64 167772162) ∧ W'.cell? ⟨M, 13, none⟩ = some (.string ⟨#[]⟩) ∧ W'.cell? ⟨M, 14, none⟩ = some (.string ⟨#[0, 0, 0, 0, 0, 0, 0, 0]⟩)) := Lib.hid fun W' hb => by
    have k := K5.out.below hb K5.out.lt
    refine ⟨(by rw [k.cell]; rfl), (by rw [k.cell]; rfl), (by rw [k.cell]; rfl), (by rw [k.cell]; rfl), (by rw [k.cell]; rfl), (by rw [k.cell]; rfl), (by rw [k.cell]; rfl), (by rw [k.cell]; rfl), (by rw [k.cell]; rfl), (by rw [k.cell]; rfl), (by rw [k.cell]; rfl), (by rw [k.cell]; rfl), (by rw [k.cell]; rfl), (by rw [k.cell]; rfl), (by rw [k.cell]; rfl)⟩
  have hR : Below w5.heap.size w5 w5.drew := (Below.refl _ _).drew
  clear K2 K3 K4 hM
  go_wp2
  refine wp_region_held_drew (S := (fun w' => w'.cell? ⟨M, 0, none⟩ = some (.int .i64 0) ∧ w'.cell? ⟨M, 1, none⟩ = some (.int .i64 0) ∧ w'.cell? ⟨M, 2, none⟩ = some (.bool false) ∧ w'.cell? ⟨M, 3, none⟩ = some (.bool false) ∧ w'.cell? ⟨M, 4, none⟩ = some (.int .i64 0) ∧ w'.cell? ⟨M, 5, none⟩ = some (.int .i64 64) ∧ w'.cell? ⟨M, 6, none⟩ = some (.int .i64 17) ∧ w'.cell? ⟨M, 7, none⟩ = some (.bool false) ∧ w'.cell? ⟨M, 8, none⟩ = some (.int .u64 0) ∧ w'.cell? ⟨M, 9, none⟩ = some (.int .u64 167772161) ∧ w'.cell? ⟨M, 10, none⟩ = some (.bool false) ∧ w'.cell? ⟨M, 11, none⟩ = some (.int .u64 0) ∧ w'.cell? ⟨M, 12, none⟩ = some (.int .u64 167772162) ∧ w'.cell? ⟨M, 13, none⟩ = some (.string ⟨#[]⟩) ∧ w'.cell? ⟨M, 14, none⟩ = some (.string ⟨#[0, 0, 0, 0, 0, 0, 0, 0]⟩))) (by kernel_rfl) ?_ (fun hHeld => ?_)
  · exact HC.out _ hR
  refine wpAnyH_take (i := 0) (oi := { dst := some 43, op := Go.Op.move (Go.Operand.tmp 2), type := 28, pos := "law.go:38", after := #[], guard := none }) (v := ?_) rfl (by kernel_rfl) (by kernel_rfl) (by kernel_rfl) (fun _ _ _ h => h) (Or.inl ⟨by rfl, ?_⟩) (by assumption) ?_
  rotate_left
  · intro w hSw
    (try dsimp only at hSw)
    go_simp
    try (with_reducible rfl)
  try simp only [Act.put, List.setIfInBounds_toArray, List.set_cons_zero, List.set_cons_succ]
  refine wpAnyH_take (i := 1) (oi := { dst := some 44, op := Go.Op.binOp Go.BinOp.eql 28 (Go.Operand.tmp 43) (Go.Operand.const (Go.Value.int Go.IntKind.i64 0)) 28, type := 4, pos := "law.go:38", after := #[{ on := 0, ground := Go.Ground.data }], guard := none }) (v := ?_) rfl (by kernel_rfl) (by kernel_rfl) (by kernel_rfl) (fun _ _ _ h => h) (Or.inl ⟨by rfl, ?_⟩) (by assumption) ?_
  rotate_left
  · intro w hSw
    (try dsimp only at hSw)
    go_simp
    try (with_reducible rfl)
  try simp only [Act.put, List.setIfInBounds_toArray, List.set_cons_zero, List.set_cons_succ]
  refine wpAnyH_take (i := 2) (oi := { dst := some 45, op := Go.Op.move (Go.Operand.tmp 44), type := 4, pos := "law.go:38", after := #[{ on := 1, ground := Go.Ground.data }], guard := none }) (v := ?_) rfl (by kernel_rfl) (by kernel_rfl) (by kernel_rfl) (fun _ _ _ h => h) (Or.inl ⟨by rfl, ?_⟩) (by assumption) ?_
  rotate_left
  · intro w hSw
    (try dsimp only at hSw)
    go_simp
    try (with_reducible rfl)
  try simp only [Act.put, List.setIfInBounds_toArray, List.set_cons_zero, List.set_cons_succ]
  refine wpAnyH_take (i := 3) (oi := { dst := some 46, op := Go.Op.move (Go.Operand.tmp 1), type := 9, pos := "law.go:38", after := #[{ on := 2, ground := Go.Ground.guard }], guard := some (2, true) }) (v := ?_) rfl (by kernel_rfl) (by kernel_rfl) (by kernel_rfl) (fun _ _ _ h => h) (Or.inl ⟨by rfl, ?_⟩) (by assumption) ?_
  rotate_left
  · intro w hSw
    (try dsimp only at hSw)
    go_simp
    try (with_reducible rfl)
  try simp only [Act.put, List.setIfInBounds_toArray, List.set_cons_zero, List.set_cons_succ]
  refine wpAnyH_take (i := 4) (oi := { dst := some 47, op := Go.Op.slice 9 (Go.Operand.tmp 46) none (some (Go.Operand.const (Go.Value.int Go.IntKind.i64 12))) none, type := 9, pos := "law.go:38", after := #[{ on := 3, ground := Go.Ground.data }, { on := 2, ground := Go.Ground.guard }], guard := some (2, true) }) (v := ?_) rfl (by kernel_rfl) (by kernel_rfl) (by kernel_rfl) (fun _ _ _ h => h) (Or.inl ⟨by rfl, ?_⟩) (by assumption) ?_
  rotate_left
  · intro w hSw
    (try dsimp only at hSw)
    go_simp
    try (with_reducible rfl)
  try simp only [Act.put, List.setIfInBounds_toArray, List.set_cons_zero, List.set_cons_succ]
  refine wpAnyH_take (i := 5) (oi := { dst := some 48, op := Go.Op.binOp Go.BinOp.eql 9 (Go.Operand.tmp 47) (Go.Operand.const (Go.Value.string { data := #[69, 0, 0, 28, 0, 0, 0, 0, 64, 17, 102, 207] })) 9, type := 4, pos := "law.go:38", after := #[{ on := 4, ground := Go.Ground.data }, { on := 2, ground := Go.Ground.guard }], guard := some (2, true) }) (v := ?_) rfl (by kernel_rfl) (by kernel_rfl) (by kernel_rfl) (fun _ _ _ h => h) (Or.inl ⟨by rfl, ?_⟩) (by assumption) ?_
  rotate_left
  · intro w hSw
    (try dsimp only at hSw)
    go_simp
    try (with_reducible rfl)
  try simp only [Act.put, List.setIfInBounds_toArray, List.set_cons_zero, List.set_cons_succ]
  refine wpAnyH_take (i := 6) (oi := { dst := some 49, op := Go.Op.pick (Go.Operand.tmp 45) (Go.Operand.tmp 48) (Go.Operand.const (Go.Value.bool false)), type := 4, pos := "law.go:38", after := #[{ on := 2, ground := Go.Ground.data }, { on := 5, ground := Go.Ground.data }], guard := none }) (v := ?_) rfl (by kernel_rfl) (by kernel_rfl) (by kernel_rfl) (fun _ _ _ h => h) (Or.inl ⟨by rfl, ?_⟩) (by assumption) ?_
  rotate_left
  · intro w hSw
    (try dsimp only at hSw)
    go_simp
    try (with_reducible rfl)
  try simp only [Act.put, List.setIfInBounds_toArray, List.set_cons_zero, List.set_cons_succ]
  refine wpAnyH_take (i := 7) (oi := { dst := some 50, op := Go.Op.move (Go.Operand.tmp 49), type := 4, pos := "law.go:38", after := #[{ on := 6, ground := Go.Ground.data }, { on := 2, ground := Go.Ground.chain }], guard := none }) (v := ?_) rfl (by kernel_rfl) (by kernel_rfl) (by kernel_rfl) (fun _ _ _ h => h) (Or.inl ⟨by rfl, ?_⟩) (by assumption) ?_
  rotate_left
  · intro w hSw
    (try dsimp only at hSw)
    go_simp
    try (with_reducible rfl)
  try simp only [Act.put, List.setIfInBounds_toArray, List.set_cons_zero, List.set_cons_succ]
  refine wpAnyH_take (i := 8) (oi := { dst := some 51, op := Go.Op.move (Go.Operand.tmp 4), type := 28, pos := "law.go:38", after := #[{ on := 7, ground := Go.Ground.guard }], guard := some (7, true) }) (v := ?_) rfl (by kernel_rfl) (by kernel_rfl) (by kernel_rfl) (fun _ _ _ h => h) (Or.inl ⟨by rfl, ?_⟩) (by assumption) ?_
  rotate_left
  · intro w hSw
    (try dsimp only at hSw)
    go_simp
    try (with_reducible rfl)
  try simp only [Act.put, List.setIfInBounds_toArray, List.set_cons_zero, List.set_cons_succ]
  refine wpAnyH_take (i := 9) (oi := { dst := some 52, op := Go.Op.binOp Go.BinOp.eql 28 (Go.Operand.tmp 51) (Go.Operand.const (Go.Value.int Go.IntKind.i64 0)) 28, type := 4, pos := "law.go:38", after := #[{ on := 8, ground := Go.Ground.data }, { on := 7, ground := Go.Ground.guard }], guard := some (7, true) }) (v := ?_) rfl (by kernel_rfl) (by kernel_rfl) (by kernel_rfl) (fun _ _ _ h => h) (Or.inl ⟨by rfl, ?_⟩) (by assumption) ?_
  rotate_left
  · intro w hSw
    (try dsimp only at hSw)
    go_simp
    try (with_reducible rfl)
  try simp only [Act.put, List.setIfInBounds_toArray, List.set_cons_zero, List.set_cons_succ]
  refine wpAnyH_take (i := 10) (oi := { dst := some 53, op := Go.Op.pick (Go.Operand.tmp 50) (Go.Operand.tmp 52) (Go.Operand.const (Go.Value.bool false)), type := 4, pos := "law.go:38", after := #[{ on := 7, ground := Go.Ground.data }, { on := 9, ground := Go.Ground.data }], guard := none }) (v := ?_) rfl (by kernel_rfl) (by kernel_rfl) (by kernel_rfl) (fun _ _ _ h => h) (Or.inl ⟨by rfl, ?_⟩) (by assumption) ?_
  rotate_left
  · intro w hSw
    (try dsimp only at hSw)
    go_simp
    try (with_reducible rfl)
  try simp only [Act.put, List.setIfInBounds_toArray, List.set_cons_zero, List.set_cons_succ]
  refine wpAnyH_take (i := 11) (oi := { dst := some 54, op := Go.Op.move (Go.Operand.tmp 53), type := 4, pos := "law.go:38", after := #[{ on := 10, ground := Go.Ground.data }, { on := 7, ground := Go.Ground.chain }], guard := none }) (v := ?_) rfl (by kernel_rfl) (by kernel_rfl) (by kernel_rfl) (fun _ _ _ h => h) (Or.inl ⟨by rfl, ?_⟩) (by assumption) ?_
  rotate_left
  · intro w hSw
    (try dsimp only at hSw)
    go_simp
    try (with_reducible rfl)
  try simp only [Act.put, List.setIfInBounds_toArray, List.set_cons_zero, List.set_cons_succ]
  refine wpAnyH_take (i := 12) (oi := { dst := some 55, op := Go.Op.load 27 (Go.Operand.tmp 3), type := 27, pos := "law.go:38", after := #[{ on := 11, ground := Go.Ground.guard }], guard := some (11, true) }) (v := ?_) rfl (by kernel_rfl) (by kernel_rfl) (by kernel_rfl) (fun _ _ _ h => h) (Or.inl ⟨by rfl, ?_⟩) (by assumption) ?_
  rotate_left
  · intro w hSw
    (try dsimp only at hSw)
    go_simp
    try (with_reducible rfl)
  try simp only [Act.put, List.setIfInBounds_toArray, List.set_cons_zero, List.set_cons_succ]
  refine wpAnyH_ready (rs := [13]) (by kernel_rfl) (by simp) ?_
  refine AllReadyH.cons (o := { dst := some 56, op := Go.Op.call { callee := Go.Callee.value (Go.Operand.func 28), args := #[], argTypes := #[] }, type := 27, pos := "law.go:38", after := #[{ on := 11, ground := Go.Ground.chain }, { on := 11, ground := Go.Ground.guard }], guard := some (11, true) }) rfl (fun K hK => ?_) AllReadyH.nil
  go_simp
  (go_at_call 28; (with_reducible refine Calls.mono (HG.out _) ?_); rintro e W' ⟨rfl, hb⟩; replace hR := hR.trans (hb.mono hR.size); clear hb)
  go_wp2_with fail
  refine hK.out _ _ ?_ (fun hHeld => ?_)
  · exact HC.out _ hR
  clear hK K
  try simp only [Act.put, List.setIfInBounds_toArray, List.set_cons_zero, List.set_cons_succ]
  refine wpAnyH_take (i := 14) (oi := { dst := some 57, op := Go.Op.binOp Go.BinOp.eql 27 (Go.Operand.tmp 55) (Go.Operand.tmp 56) 27, type := 4, pos := "law.go:38", after := #[{ on := 12, ground := Go.Ground.data }, { on := 13, ground := Go.Ground.data }, { on := 11, ground := Go.Ground.guard }], guard := some (11, true) }) (v := ?_) rfl (by kernel_rfl) (by kernel_rfl) (by kernel_rfl) (fun _ _ _ h => h) (Or.inl ⟨by rfl, ?_⟩) (by assumption) ?_
  rotate_left
  · intro w hSw
    (try dsimp only at hSw)
    go_simp
    try (with_reducible rfl)
  try simp only [Act.put, List.setIfInBounds_toArray, List.set_cons_zero, List.set_cons_succ]
  refine wpAnyH_take (i := 15) (oi := { dst := some 58, op := Go.Op.pick (Go.Operand.tmp 54) (Go.Operand.tmp 57) (Go.Operand.const (Go.Value.bool false)), type := 4, pos := "law.go:38", after := #[{ on := 11, ground := Go.Ground.data }, { on := 14, ground := Go.Ground.data }], guard := none }) (v := ?_) rfl (by kernel_rfl) (by kernel_rfl) (by kernel_rfl) (fun _ _ _ h => h) (Or.inl ⟨by rfl, ?_⟩) (by assumption) ?_
  rotate_left
  · intro w hSw
    (try dsimp only at hSw)
    go_simp
    try (with_reducible rfl)
  try simp only [Act.put, List.setIfInBounds_toArray, List.set_cons_zero, List.set_cons_succ]
  refine wpAnyH_take (i := 16) (oi := { dst := some 59, op := Go.Op.move (Go.Operand.tmp 58), type := 4, pos := "law.go:38", after := #[{ on := 15, ground := Go.Ground.data }, { on := 13, ground := Go.Ground.chain }], guard := none }) (v := ?_) rfl (by kernel_rfl) (by kernel_rfl) (by kernel_rfl) (fun _ _ _ h => h) (Or.inl ⟨by rfl, ?_⟩) (by assumption) ?_
  rotate_left
  · intro w hSw
    (try dsimp only at hSw)
    go_simp
    try (with_reducible rfl)
  try simp only [Act.put, List.setIfInBounds_toArray, List.set_cons_zero, List.set_cons_succ]
  refine wpAnyH_take (i := 17) (oi := { dst := some 60, op := Go.Op.move (Go.Operand.tmp 6), type := 28, pos := "law.go:38", after := #[{ on := 16, ground := Go.Ground.guard }], guard := some (16, true) }) (v := ?_) rfl (by kernel_rfl) (by kernel_rfl) (by kernel_rfl) (fun _ _ _ h => h) (Or.inl ⟨by rfl, ?_⟩) (by assumption) ?_
  rotate_left
  · intro w hSw
    (try dsimp only at hSw)
    go_simp
    try (with_reducible rfl)
  try simp only [Act.put, List.setIfInBounds_toArray, List.set_cons_zero, List.set_cons_succ]
  refine wpAnyH_take (i := 18) (oi := { dst := some 61, op := Go.Op.binOp Go.BinOp.eql 28 (Go.Operand.tmp 60) (Go.Operand.const (Go.Value.int Go.IntKind.i64 0)) 28, type := 4, pos := "law.go:38", after := #[{ on := 17, ground := Go.Ground.data }, { on := 16, ground := Go.Ground.guard }], guard := some (16, true) }) (v := ?_) rfl (by kernel_rfl) (by kernel_rfl) (by kernel_rfl) (fun _ _ _ h => h) (Or.inl ⟨by rfl, ?_⟩) (by assumption) ?_
  rotate_left
  · intro w hSw
    (try dsimp only at hSw)
    go_simp
    try (with_reducible rfl)
  try simp only [Act.put, List.setIfInBounds_toArray, List.set_cons_zero, List.set_cons_succ]
  refine wpAnyH_take (i := 19) (oi := { dst := some 62, op := Go.Op.pick (Go.Operand.tmp 59) (Go.Operand.tmp 61) (Go.Operand.const (Go.Value.bool false)), type := 4, pos := "law.go:38", after := #[{ on := 16, ground := Go.Ground.data }, { on := 18, ground := Go.Ground.data }], guard := none }) (v := ?_) rfl (by kernel_rfl) (by kernel_rfl) (by kernel_rfl) (fun _ _ _ h => h) (Or.inl ⟨by rfl, ?_⟩) (by assumption) ?_
  rotate_left
  · intro w hSw
    (try dsimp only at hSw)
    go_simp
    try (with_reducible rfl)
  try simp only [Act.put, List.setIfInBounds_toArray, List.set_cons_zero, List.set_cons_succ]
  refine wpAnyH_take (i := 20) (oi := { dst := some 63, op := Go.Op.move (Go.Operand.tmp 62), type := 4, pos := "law.go:38", after := #[{ on := 19, ground := Go.Ground.data }, { on := 16, ground := Go.Ground.chain }], guard := none }) (v := ?_) rfl (by kernel_rfl) (by kernel_rfl) (by kernel_rfl) (fun _ _ _ h => h) (Or.inl ⟨by rfl, ?_⟩) (by assumption) ?_
  rotate_left
  · intro w hSw
    (try dsimp only at hSw)
    go_simp
    try (with_reducible rfl)
  try simp only [Act.put, List.setIfInBounds_toArray, List.set_cons_zero, List.set_cons_succ]
  refine wpAnyH_take (i := 21) (oi := { dst := some 64, op := Go.Op.move (Go.Operand.tmp 5), type := 9, pos := "law.go:38", after := #[{ on := 20, ground := Go.Ground.guard }], guard := some (20, true) }) (v := ?_) rfl (by kernel_rfl) (by kernel_rfl) (by kernel_rfl) (fun _ _ _ h => h) (Or.inl ⟨by rfl, ?_⟩) (by assumption) ?_
  rotate_left
  · intro w hSw
    (try dsimp only at hSw)
    go_simp
    try (with_reducible rfl)
  try simp only [Act.put, List.setIfInBounds_toArray, List.set_cons_zero, List.set_cons_succ]
  refine wpAnyH_take (i := 22) (oi := { dst := some 65, op := Go.Op.slice 9 (Go.Operand.tmp 64) (some (Go.Operand.const (Go.Value.int Go.IntKind.i64 8))) (some (Go.Operand.const (Go.Value.int Go.IntKind.i64 12))) none, type := 9, pos := "law.go:38", after := #[{ on := 21, ground := Go.Ground.data }, { on := 20, ground := Go.Ground.guard }], guard := some (20, true) }) (v := ?_) rfl (by kernel_rfl) (by kernel_rfl) (by kernel_rfl) (fun _ _ _ h => h) (Or.inl ⟨by rfl, ?_⟩) (by assumption) ?_
  rotate_left
  · intro w hSw
    (try dsimp only at hSw)
    go_simp
    try (with_reducible rfl)
  try simp only [Act.put, List.setIfInBounds_toArray, List.set_cons_zero, List.set_cons_succ]
  refine wpAnyH_take (i := 23) (oi := { dst := some 66, op := Go.Op.binOp Go.BinOp.eql 9 (Go.Operand.tmp 65) (Go.Operand.const (Go.Value.string { data := #[63, 17, 103, 207] })) 9, type := 4, pos := "law.go:38", after := #[{ on := 22, ground := Go.Ground.data }, { on := 20, ground := Go.Ground.guard }], guard := some (20, true) }) (v := ?_) rfl (by kernel_rfl) (by kernel_rfl) (by kernel_rfl) (fun _ _ _ h => h) (Or.inl ⟨by rfl, ?_⟩) (by assumption) ?_
  rotate_left
  · intro w hSw
    (try dsimp only at hSw)
    go_simp
    try (with_reducible rfl)
  try simp only [Act.put, List.setIfInBounds_toArray, List.set_cons_zero, List.set_cons_succ]
  refine wpAnyH_take (i := 24) (oi := { dst := some 67, op := Go.Op.pick (Go.Operand.tmp 63) (Go.Operand.tmp 66) (Go.Operand.const (Go.Value.bool false)), type := 4, pos := "law.go:38", after := #[{ on := 20, ground := Go.Ground.data }, { on := 23, ground := Go.Ground.data }], guard := none }) (v := ?_) rfl (by kernel_rfl) (by kernel_rfl) (by kernel_rfl) (fun _ _ _ h => h) (Or.inl ⟨by rfl, ?_⟩) (by assumption) ?_
  rotate_left
  · intro w hSw
    (try dsimp only at hSw)
    go_simp
    try (with_reducible rfl)
  try simp only [Act.put, List.setIfInBounds_toArray, List.set_cons_zero, List.set_cons_succ]
  refine wpAnyH_take (i := 25) (oi := { dst := some 11, op := Go.Op.assign (Go.Operand.tmp 67), type := 4, pos := "law.go:38", after := #[{ on := 24, ground := Go.Ground.data }, { on := 20, ground := Go.Ground.chain }, { on := 0, ground := Go.Ground.phase }, { on := 1, ground := Go.Ground.phase }, { on := 2, ground := Go.Ground.phase }, { on := 3, ground := Go.Ground.phase }, { on := 4, ground := Go.Ground.phase }, { on := 5, ground := Go.Ground.phase }, { on := 6, ground := Go.Ground.phase }, { on := 7, ground := Go.Ground.phase }, { on := 8, ground := Go.Ground.phase }, { on := 9, ground := Go.Ground.phase }, { on := 10, ground := Go.Ground.phase }, { on := 11, ground := Go.Ground.phase }, { on := 12, ground := Go.Ground.phase }, { on := 13, ground := Go.Ground.phase }, { on := 14, ground := Go.Ground.phase }, { on := 15, ground := Go.Ground.phase }, { on := 16, ground := Go.Ground.phase }, { on := 17, ground := Go.Ground.phase }, { on := 18, ground := Go.Ground.phase }, { on := 19, ground := Go.Ground.phase }, { on := 20, ground := Go.Ground.phase }, { on := 21, ground := Go.Ground.phase }, { on := 22, ground := Go.Ground.phase }, { on := 23, ground := Go.Ground.phase }, { on := 24, ground := Go.Ground.phase }], guard := none }) (v := ?_) rfl (by kernel_rfl) (by kernel_rfl) (by kernel_rfl) (fun _ _ _ h => h) (Or.inl ⟨by rfl, ?_⟩) (by assumption) ?_
  rotate_left
  · intro w hSw
    (try dsimp only at hSw)
    go_simp
    try (with_reducible rfl)
  try simp only [Act.put, List.setIfInBounds_toArray, List.set_cons_zero, List.set_cons_succ]
  refine wpAnyH_done (by kernel_rfl) ?_ _

  have L6 := Lib.hid (L5.out.trans (hR.mono L5.out.size))
  have R6 := Lib.hid (R5.out.below hR)
  clear hR
  go_wp2_with fail
  have HSm := Lib.hid (same_yes A (some ⟨W'.heap.size, 0, none⟩) 2 c 2 [[1], [131, 3, 9]] (by decide) (W'.alloc (.cells #[.int .i64 1, .string ⟨#[]⟩, .int .i64 131, .string ⟨#[9]⟩] 57)) (R6.out.below ((Below.refl _ _).alloc (Nat.le_refl _) _)) (lit_ro W'))
  have L7 := Lib.hid (L6.out.alloc L6.out.size (.cells #[.int .i64 1, .string ⟨#[]⟩, .int .i64 131, .string ⟨#[9]⟩] 57))
  refine Calls.mono HSm.out ?_
  rintro e w7 ⟨rfl, hb⟩
  have L8 := Lib.hid (L7.out.trans (hb.mono L7.out.size))
  clear hb
  go_wp2_with fail
  refine Calls.mono (HK.out _) ?_
  rintro e w8 ⟨rfl, hb⟩
  have L9 := Lib.hid (L8.out.trans (hb.mono L8.out.size))
  clear hb
  go_wp2
  go_ret
  exact ⟨rfl, L9.out⟩
end Go.Proofs.Ytbhddodghbhjiaa
