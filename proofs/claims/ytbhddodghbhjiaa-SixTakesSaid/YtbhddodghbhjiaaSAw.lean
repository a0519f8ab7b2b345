/-
  The chapter's examples that each law of ip6 calls first: they answer true.
-/
import Derived.Test.YtbhddodghbhjiaaSHp
import Derived.Test.YtbhddodghbhjiaaSHe
import Derived.Deep.RegionHeld
namespace Go.Proofs.Ytbhddodghbhjiaa
open Go.RowKit
set_option linter.unusedVariables false

def sx2 : Sx := ⟨1, 2, 59, 64, true, 0, 1, true, 0, 2, ⟨#[]⟩⟩
def sxS : ByteArray := ⟨#[96, 16, 0, 2, 0, 0, 59, 64, 0, 0, 0, 0, 0, 0, 0, 0, 0, 0, 0, 0, 0, 0, 0, 1, 0, 0, 0, 0, 0, 0, 0, 0, 0, 0, 0, 0, 0, 0, 0, 2]⟩
def sxT : ByteArray := ⟨#[96, 16, 0, 2, 0, 0, 59, 63, 0, 0, 0, 0, 0, 0, 0, 0, 0, 0, 0, 0, 0, 0, 0, 1, 0, 0, 0, 0, 0, 0, 0, 0, 0, 0, 0, 0, 0, 0, 0, 2]⟩
theorem sx2_rg : RgS sx2 := ⟨by decide, by decide, by decide, by decide, rfl, rfl⟩
theorem sx2_wf : WfS sx2 := ⟨by decide, by decide, by decide, by decide⟩
theorem sx2_S : lyB sx2 = sxS := by decide +kernel
theorem sx2_T : lyB { sx2 with h := sx2.h - 1 } = sxT := by decide +kernel
theorem sx2_ly : lySR sx2 = (sxS, 0) := by rw [lyS_ok (rgS_iff.2 sx2_rg) (by decide), sx2_S]
theorem sx2_tk : tkS sxS = (sx2, 0) := by rw [← sx2_S]; exact tk_lyS0 sx2 sx2_rg sx2_wf (by decide)
theorem sx2_hp : hpS sxS = (sxT, 0) := by rw [← sx2_S, hp_lyS sx2 sx2_rg sx2_wf (by decide) (by decide), sx2_T]
theorem sx_c1 : chS ⟨#[60, 0, 0, 0, 0, 0, 0, 0, 6, 1, 0, 0, 0, 0, 0, 0, 0, 0, 0, 0, 0, 0, 0, 0, 7]⟩ 16 0 0 = ⟨[⟨0, 0, 8⟩, ⟨60, 8, 16⟩], 6, 24, 0⟩ := by
  rw [chS_step (k := 15) (by decide) (by decide) (by decide +kernel), chS_step (k := 14) (by decide +kernel) (by decide +kernel) (by decide +kernel), chS_end (by decide +kernel)]
  rfl
theorem sx_c2 : chS ⟨#[0, 0, 0, 0, 0, 0, 0, 0]⟩ 16 60 0 = ⟨[], 0, 0, 64⟩ := by
  have e : ((bA (⟨#[0, 0, 0, 0, 0, 0, 0, 0]⟩ : ByteArray) 0 : Nat) : Int) = 0 := by decide +kernel
  rw [chS_step (k := 15) (by decide) (by decide) (by decide +kernel), e, chS_zero (by decide)]
  rfl
set_option maxHeartbeats 2000000 in
theorem two_any (w : World) : Calls Try.prog 41 #[] w fun e w' => e = .returned (.agg #[.int .i64 1, .int .i64 2, .int .i64 59, .int .i64 64, .bool true, .int .u64 0, .int .u64 1, .bool true, .int .u64 0, .int .u64 2, .string ⟨#[]⟩]) ∧ Below w.heap.size w w' := by
  go_enter Try.func41, Try.ntmps41
  go_wp2
  exact bodyPost_ret (v := .agg #[.int .i64 1, .int .i64 2, .int .i64 59, .int .i64 64, .bool true, .int .u64 0, .int .u64 1, .bool true, .int .u64 0, .int .u64 2, .string ⟨#[]⟩]) (by simp [results, Try.results41, go_sem]) rfl ⟨rfl, (Below.refl _ _).alloc (Nat.le_refl _) _⟩
theorem lit_rx (w : World) : RX (w.alloc (.cells #[.int .i64 0, .int .i64 0, .int .i64 8, .int .i64 60, .int .i64 8, .int .i64 16] 45)) (some ⟨w.heap.size, 0, none⟩) 2 [⟨0, 0, 8⟩, ⟨60, 8, 16⟩] := by
  have hb := Blk.new w 45 #[.int .i64 0, .int .i64 0, .int .i64 8, .int .i64 60, .int .i64 8, .int .i64 16]
  refine ⟨rfl, fun _ => ⟨_, rfl, hb.lt, fun j x hx => ?_⟩⟩
  rcases j with _ | _ | j
  · cases hx; exact ⟨by rw [hb.cell]; rfl, by rw [hb.cell]; rfl, by rw [hb.cell]; rfl⟩
  · cases hx; exact ⟨by rw [hb.cell]; rfl, by rw [hb.cell]; rfl, by rw [hb.cell]; rfl⟩
  · cases hx
set_option maxRecDepth 100000 in
set_option maxHeartbeats 8000000 in
theorem sawake_yes (w : World) : Calls Try.prog 15 #[] w fun e w' => e = .returned (.bool true) ∧ Below w.heap.size w w' := by
  have HG := Lib.hid (fun W => two_any W)
  have HL := Lib.hid (fun W => slay_any sx2 sx2_wf W)
  have HT := Lib.hid (fun W => stake_any sxS (by decide) W)
  have HH := Lib.hid (fun W => shop_any sxS (by decide) W)
  have HO := Lib.hid (fun W => schain_any 0 ⟨#[60, 0, 0, 0, 0, 0, 0, 0, 6, 1, 0, 0, 0, 0, 0, 0, 0, 0, 0, 0, 0, 0, 0, 0, 7]⟩ (by decide) W)
  have HO2 := Lib.hid (fun W => schain_any 60 ⟨#[0, 0, 0, 0, 0, 0, 0, 0]⟩ (by decide) W)
  have HK := Lib.hid (fun W => shead_any 0 ⟨#[60, 0, 0, 0, 0, 0, 0, 0, 6, 1, 0, 0, 0, 0, 0, 0, 0, 0, 0, 0, 0, 0, 0, 0, 7]⟩ (by decide) W)
  unfold lySV at HL
  rw [sx2_ly] at HL
  unfold tkSV at HT
  rw [sx2_tk] at HT
  unfold hpSV at HH
  rw [sx2_hp] at HH
  rw [sx_c1] at HO HK
  rw [sx_c2] at HO2
  rw [show hdX (⟨[⟨0, 0, 8⟩, ⟨60, 8, 16⟩], 6, 24, 0⟩ : Cr).l 0 = 8 from rfl] at HK
  have e1 : sxS.size = 40 := rfl
  have e2 : sxT.size = 40 := rfl
  have e3 : sxS.extract 0 8 = ⟨#[96, 16, 0, 2, 0, 0, 59, 64]⟩ := by decide +kernel
  have hk7 : 7 < sxT.size := by decide
  have e4 : (sxT[7]'hk7).toNat = 63 := rfl
  obtain ⟨S, hS⟩ : ∃ x, sxS = x := ⟨_, rfl⟩
  rw [hS] at HL HT HH e1 e3
  have HLy : Hid (∀ W : World, Calls Try.prog 16 #[.agg #[.int .i64 1, .int .i64 2, .int .i64 59, .int .i64 64, .bool true, .int .u64 0, .int .u64 1, .bool true, .int .u64 0, .int .u64 2, .string ⟨#[]⟩]] W fun e w' => e = .returned (.tuple #[.string S, .int .i64 0]) ∧ Below W.heap.size W w') := HL
  have HTk : Hid (∀ W : World, Calls Try.prog 18 #[.string S] W fun e w' => e = .returned (.tuple #[.agg #[.int .i64 1, .int .i64 2, .int .i64 59, .int .i64 64, .bool true, .int .u64 0, .int .u64 1, .bool true, .int .u64 0, .int .u64 2, .string ⟨#[]⟩], .int .i64 0]) ∧ Below W.heap.size W w') := HT
  have hT0 : ∃ (T : ByteArray) (h : 7 < T.size), (T.size : Int) = 40 ∧ (T[7]'h).toNat = 63 ∧ Hid (∀ W : World, Calls Try.prog 20 #[.string S] W fun e w' => e = .returned (.tuple #[.string T, .int .i64 0]) ∧ Below W.heap.size W w') := ⟨sxT, hk7, by decide, e4, HH⟩
  clear HL HT HH e4 hk7 e2 hS
  obtain ⟨T, hk7, e6, e4, HHp⟩ := hT0
  have e5 : (S.size : Int) = 40 := by omega
  have e7 : (7 : Int) < T.size := by omega
  go_enter Try.func15, Try.ntmps15
  go_wp2_with fail
  refine Calls.mono (HG.out _) ?_
  rintro e w0 ⟨rfl, hb⟩
  have L0 := Lib.hid hb
  clear hb
  go_wp2_with fail
  refine Calls.mono (HLy.out _) ?_
  rintro e w1 ⟨rfl, hb⟩
  have L1 := Lib.hid (L0.out.trans (hb.mono L0.out.size))
  clear hb
  go_wp2_with fail
  refine Calls.mono (HTk.out _) ?_
  rintro e w2 ⟨rfl, hb⟩
  have L2 := Lib.hid ((L1.out.trans (hb.mono L1.out.size)).alloc (L1.out.trans (hb.mono L1.out.size)).size (.cells #[.int .i64 1, .int .i64 2, .int .i64 59, .int .i64 64, .bool true, .int .u64 0, .int .u64 1, .bool true, .int .u64 0, .int .u64 2, .string ⟨#[]⟩] 35))
  have K2 := Lib.hid (Blk.new w2 35 #[.int .i64 1, .int .i64 2, .int .i64 59, .int .i64 64, .bool true, .int .u64 0, .int .u64 1, .bool true, .int .u64 0, .int .u64 2, .string ⟨#[]⟩])
  clear hb
  go_wp2_with fail
  refine Calls.mono (HHp.out _) ?_
  rintro e w3 ⟨rfl, hb⟩
  have L3 := Lib.hid (L2.out.trans (hb.mono L2.out.size))
  have K3 := Lib.hid (K2.out.below hb K2.out.lt)
  clear hb
  go_wp2_with fail
  refine Calls.mono (HO.out _) ?_
  rintro e w4 ⟨v, rfl, hown, hb⟩
  obtain ⟨A, c, rfl, hro, -⟩ := own_rx (by rfl) hown
  have L4 := Lib.hid (L3.out.trans (hb.mono L3.out.size))
  have K4 := Lib.hid (K3.out.below hb K3.out.lt)
  have R4 := Lib.hid hro
  have hlen2 : (⟨[⟨0, 0, 8⟩, ⟨60, 8, 16⟩], 6, 24, 0⟩ : Cr).l.length = 2 := rfl
  rw [hlen2] at R4 ⊢
  clear hb hro hown hlen2
  go_wp2_with fail
  refine Calls.mono (HO2.out _) ?_
  rintro e w5 ⟨v2, rfl, -, hb⟩
  have L5 := Lib.hid (L4.out.trans (hb.mono L4.out.size))
  have K5 := Lib.hid (K4.out.below hb K4.out.lt)
  have R5 := Lib.hid (R4.out.below hb)
  clear hb
  obtain ⟨M, hM⟩ : ∃ M, w2.heap.size = M := ⟨_, rfl⟩
  rw [hM] at K5
  rw [hM]
  have HC : Hid (∀ W', Below w5.heap.size w5 W' → W'.cell? ⟨M, 0, none⟩ = some (.int .i64 1) ∧ W'.cell? ⟨M, 1, none⟩ = some (.int .i64 2) ∧ W'.cell? ⟨M, 2, none⟩ = some (.int .i64 59) ∧ W'.cell? ⟨M, 3, none⟩ = some (.int .i64 64) ∧ W'.cell? ⟨M, 4, none⟩ = some (.bool true) ∧ W'.cell? ⟨M, 5, none⟩ = some (.int .u64 0) ∧ W'.cell? ⟨M, 6, none⟩ = some (.int .u64 1) ∧ W'.cell? ⟨M, 7, none⟩ = some (.bool true) ∧ W'.cell? ⟨M, 8, none⟩ = some (.int .u64 0) ∧ W'.cell? ⟨M, 9, none⟩ = some (.int .u64 2) ∧ W'.cell? ⟨M, 10, none⟩ = some (.string ⟨#[]⟩)) := Lib.hid fun W' hb => by
    have k := K5.out.below hb K5.out.lt
    refine ⟨(by rw [k.cell]; rfl), (by rw [k.cell]; rfl), (by rw [k.cell]; rfl), (by rw [k.cell]; rfl), (by rw [k.cell]; rfl), (by rw [k.cell]; rfl), (by rw [k.cell]; rfl), (by rw [k.cell]; rfl), (by rw [k.cell]; rfl), (by rw [k.cell]; rfl), (by rw [k.cell]; rfl)⟩
  have hR : Below w5.heap.size w5 w5.drew := (Below.refl _ _).drew
  clear K2 K3 K4 hM
  go_wp2
  refine wp_region_held_drew (S := (fun w' => w'.cell? ⟨M, 0, none⟩ = some (.int .i64 1) ∧ w'.cell? ⟨M, 1, none⟩ = some (.int .i64 2) ∧ w'.cell? ⟨M, 2, none⟩ = some (.int .i64 59) ∧ w'.cell? ⟨M, 3, none⟩ = some (.int .i64 64) ∧ w'.cell? ⟨M, 4, none⟩ = some (.bool true) ∧ w'.cell? ⟨M, 5, none⟩ = some (.int .u64 0) ∧ w'.cell? ⟨M, 6, none⟩ = some (.int .u64 1) ∧ w'.cell? ⟨M, 7, none⟩ = some (.bool true) ∧ w'.cell? ⟨M, 8, none⟩ = some (.int .u64 0) ∧ w'.cell? ⟨M, 9, none⟩ = some (.int .u64 2) ∧ w'.cell? ⟨M, 10, none⟩ = some (.string ⟨#[]⟩))) (by kernel_rfl) ?_ (fun hHeld => ?_)
  · exact HC.out _ hR
  refine wpAnyH_take (i := 0) (oi := { dst := some 51, op := Go.Op.move (Go.Operand.tmp 2), type := 28, pos := "law.go:41", after := #[], guard := none }) (v := ?_) rfl (by kernel_rfl) (by kernel_rfl) (by kernel_rfl) (fun _ _ _ h => h) (Or.inl ⟨by rfl, ?_⟩) (by assumption) ?_
  rotate_left
  · intro w hSw
    (try dsimp only at hSw)
    go_simp
    try (with_reducible rfl)
  try simp only [Act.put, List.setIfInBounds_toArray, List.set_cons_zero, List.set_cons_succ]
  refine wpAnyH_take (i := 1) (oi := { dst := some 52, op := Go.Op.binOp Go.BinOp.eql 28 (Go.Operand.tmp 51) (Go.Operand.const (Go.Value.int Go.IntKind.i64 0)) 28, type := 4, pos := "law.go:41", after := #[{ on := 0, ground := Go.Ground.data }], guard := none }) (v := ?_) rfl (by kernel_rfl) (by kernel_rfl) (by kernel_rfl) (fun _ _ _ h => h) (Or.inl ⟨by rfl, ?_⟩) (by assumption) ?_
  rotate_left
  · intro w hSw
    (try dsimp only at hSw)
    go_simp
    try (with_reducible rfl)
  try simp only [Act.put, List.setIfInBounds_toArray, List.set_cons_zero, List.set_cons_succ]
  refine wpAnyH_take (i := 2) (oi := { dst := some 53, op := Go.Op.move (Go.Operand.tmp 52), type := 4, pos := "law.go:41", after := #[{ on := 1, ground := Go.Ground.data }], guard := none }) (v := ?_) rfl (by kernel_rfl) (by kernel_rfl) (by kernel_rfl) (fun _ _ _ h => h) (Or.inl ⟨by rfl, ?_⟩) (by assumption) ?_
  rotate_left
  · intro w hSw
    (try dsimp only at hSw)
    go_simp
    try (with_reducible rfl)
  try simp only [Act.put, List.setIfInBounds_toArray, List.set_cons_zero, List.set_cons_succ]
  refine wpAnyH_take (i := 3) (oi := { dst := some 54, op := Go.Op.move (Go.Operand.tmp 1), type := 9, pos := "law.go:41", after := #[{ on := 2, ground := Go.Ground.guard }], guard := some (2, true) }) (v := ?_) rfl (by kernel_rfl) (by kernel_rfl) (by kernel_rfl) (fun _ _ _ h => h) (Or.inl ⟨by rfl, ?_⟩) (by assumption) ?_
  rotate_left
  · intro w hSw
    (try dsimp only at hSw)
    go_simp
    try (with_reducible rfl)
  try simp only [Act.put, List.setIfInBounds_toArray, List.set_cons_zero, List.set_cons_succ]
  refine wpAnyH_take (i := 4) (oi := { dst := some 55, op := Go.Op.slice 9 (Go.Operand.tmp 54) none (some (Go.Operand.const (Go.Value.int Go.IntKind.i64 8))) none, type := 9, pos := "law.go:41", after := #[{ on := 3, ground := Go.Ground.data }, { on := 2, ground := Go.Ground.guard }], guard := some (2, true) }) (v := ?_) rfl (by kernel_rfl) (by kernel_rfl) (by kernel_rfl) (fun _ _ _ h => h) (Or.inl ⟨by rfl, ?_⟩) (by assumption) ?_
  rotate_left
  · intro w hSw
    (try dsimp only at hSw)
    go_simp
    try (with_reducible rfl)
  try simp only [Act.put, List.setIfInBounds_toArray, List.set_cons_zero, List.set_cons_succ]
  refine wpAnyH_take (i := 5) (oi := { dst := some 56, op := Go.Op.binOp Go.BinOp.eql 9 (Go.Operand.tmp 55) (Go.Operand.const (Go.Value.string { data := #[96, 16, 0, 2, 0, 0, 59, 64] })) 9, type := 4, pos := "law.go:41", after := #[{ on := 4, ground := Go.Ground.data }, { on := 2, ground := Go.Ground.guard }], guard := some (2, true) }) (v := ?_) rfl (by kernel_rfl) (by kernel_rfl) (by kernel_rfl) (fun _ _ _ h => h) (Or.inl ⟨by rfl, ?_⟩) (by assumption) ?_
  rotate_left
  · intro w hSw
    (try dsimp only at hSw)
    go_simp
    try (with_reducible rfl)
  try simp only [Act.put, List.setIfInBounds_toArray, List.set_cons_zero, List.set_cons_succ]
  refine wpAnyH_take (i := 6) (oi := { dst := some 57, op := Go.Op.pick (Go.Operand.tmp 53) (Go.Operand.tmp 56) (Go.Operand.const (Go.Value.bool false)), type := 4, pos := "law.go:41", after := #[{ on := 2, ground := Go.Ground.data }, { on := 5, ground := Go.Ground.data }], guard := none }) (v := ?_) rfl (by kernel_rfl) (by kernel_rfl) (by kernel_rfl) (fun _ _ _ h => h) (Or.inl ⟨by rfl, ?_⟩) (by assumption) ?_
  rotate_left
  · intro w hSw
    (try dsimp only at hSw)
    go_simp
    try (with_reducible rfl)
  try simp only [Act.put, List.setIfInBounds_toArray, List.set_cons_zero, List.set_cons_succ]
  refine wpAnyH_take (i := 7) (oi := { dst := some 58, op := Go.Op.move (Go.Operand.tmp 57), type := 4, pos := "law.go:41", after := #[{ on := 6, ground := Go.Ground.data }, { on := 2, ground := Go.Ground.chain }], guard := none }) (v := ?_) rfl (by kernel_rfl) (by kernel_rfl) (by kernel_rfl) (fun _ _ _ h => h) (Or.inl ⟨by rfl, ?_⟩) (by assumption) ?_
  rotate_left
  · intro w hSw
    (try dsimp only at hSw)
    go_simp
    try (with_reducible rfl)
  try simp only [Act.put, List.setIfInBounds_toArray, List.set_cons_zero, List.set_cons_succ]
  refine wpAnyH_take (i := 8) (oi := { dst := some 59, op := Go.Op.move (Go.Operand.tmp 4), type := 28, pos := "law.go:41", after := #[{ on := 7, ground := Go.Ground.guard }], guard := some (7, true) }) (v := ?_) rfl (by kernel_rfl) (by kernel_rfl) (by kernel_rfl) (fun _ _ _ h => h) (Or.inl ⟨by rfl, ?_⟩) (by assumption) ?_
  rotate_left
  · intro w hSw
    (try dsimp only at hSw)
    go_simp
    try (with_reducible rfl)
  try simp only [Act.put, List.setIfInBounds_toArray, List.set_cons_zero, List.set_cons_succ]
  refine wpAnyH_take (i := 9) (oi := { dst := some 60, op := Go.Op.binOp Go.BinOp.eql 28 (Go.Operand.tmp 59) (Go.Operand.const (Go.Value.int Go.IntKind.i64 0)) 28, type := 4, pos := "law.go:41", after := #[{ on := 8, ground := Go.Ground.data }, { on := 7, ground := Go.Ground.guard }], guard := some (7, true) }) (v := ?_) rfl (by kernel_rfl) (by kernel_rfl) (by kernel_rfl) (fun _ _ _ h => h) (Or.inl ⟨by rfl, ?_⟩) (by assumption) ?_
  rotate_left
  · intro w hSw
    (try dsimp only at hSw)
    go_simp
    try (with_reducible rfl)
  try simp only [Act.put, List.setIfInBounds_toArray, List.set_cons_zero, List.set_cons_succ]
  refine wpAnyH_take (i := 10) (oi := { dst := some 61, op := Go.Op.pick (Go.Operand.tmp 58) (Go.Operand.tmp 60) (Go.Operand.const (Go.Value.bool false)), type := 4, pos := "law.go:41", after := #[{ on := 7, ground := Go.Ground.data }, { on := 9, ground := Go.Ground.data }], guard := none }) (v := ?_) rfl (by kernel_rfl) (by kernel_rfl) (by kernel_rfl) (fun _ _ _ h => h) (Or.inl ⟨by rfl, ?_⟩) (by assumption) ?_
  rotate_left
  · intro w hSw
    (try dsimp only at hSw)
    go_simp
    try (with_reducible rfl)
  try simp only [Act.put, List.setIfInBounds_toArray, List.set_cons_zero, List.set_cons_succ]
  refine wpAnyH_take (i := 11) (oi := { dst := some 62, op := Go.Op.move (Go.Operand.tmp 61), type := 4, pos := "law.go:41", after := #[{ on := 10, ground := Go.Ground.data }, { on := 7, ground := Go.Ground.chain }], guard := none }) (v := ?_) rfl (by kernel_rfl) (by kernel_rfl) (by kernel_rfl) (fun _ _ _ h => h) (Or.inl ⟨by rfl, ?_⟩) (by assumption) ?_
  rotate_left
  · intro w hSw
    (try dsimp only at hSw)
    go_simp
    try (with_reducible rfl)
  try simp only [Act.put, List.setIfInBounds_toArray, List.set_cons_zero, List.set_cons_succ]
  refine wpAnyH_take (i := 12) (oi := { dst := some 63, op := Go.Op.load 35 (Go.Operand.tmp 3), type := 35, pos := "law.go:41", after := #[{ on := 11, ground := Go.Ground.guard }], guard := some (11, true) }) (v := ?_) rfl (by kernel_rfl) (by kernel_rfl) (by kernel_rfl) (fun _ _ _ h => h) (Or.inl ⟨by rfl, ?_⟩) (by assumption) ?_
  rotate_left
  · intro w hSw
    (try dsimp only at hSw)
    go_simp
    try (with_reducible rfl)
  try simp only [Act.put, List.setIfInBounds_toArray, List.set_cons_zero, List.set_cons_succ]
  refine wpAnyH_ready (rs := [13]) (by kernel_rfl) (by simp) ?_
  refine AllReadyH.cons (o := { dst := some 64, op := Go.Op.call { callee := Go.Callee.value (Go.Operand.func 41), args := #[], argTypes := #[] }, type := 35, pos := "law.go:41", after := #[{ on := 11, ground := Go.Ground.chain }, { on := 11, ground := Go.Ground.guard }], guard := some (11, true) }) rfl (fun K hK => ?_) AllReadyH.nil
  go_simp
  (go_at_call 41; (with_reducible refine Calls.mono (HG.out _) ?_); rintro e W' ⟨rfl, hb⟩; replace hR := hR.trans (hb.mono hR.size); clear hb)
  go_wp2_with fail
  refine hK.out _ _ ?_ (fun hHeld => ?_)
  · exact HC.out _ hR
  clear hK K
  try simp only [Act.put, List.setIfInBounds_toArray, List.set_cons_zero, List.set_cons_succ]
  refine wpAnyH_take (i := 14) (oi := { dst := some 65, op := Go.Op.binOp Go.BinOp.eql 35 (Go.Operand.tmp 63) (Go.Operand.tmp 64) 35, type := 4, pos := "law.go:41", after := #[{ on := 12, ground := Go.Ground.data }, { on := 13, ground := Go.Ground.data }, { on := 11, ground := Go.Ground.guard }], guard := some (11, true) }) (v := ?_) rfl (by kernel_rfl) (by kernel_rfl) (by kernel_rfl) (fun _ _ _ h => h) (Or.inl ⟨by rfl, ?_⟩) (by assumption) ?_
  rotate_left
  · intro w hSw
    (try dsimp only at hSw)
    go_simp
    try (with_reducible rfl)
  try simp only [Act.put, List.setIfInBounds_toArray, List.set_cons_zero, List.set_cons_succ]
  refine wpAnyH_take (i := 15) (oi := { dst := some 66, op := Go.Op.pick (Go.Operand.tmp 62) (Go.Operand.tmp 65) (Go.Operand.const (Go.Value.bool false)), type := 4, pos := "law.go:41", after := #[{ on := 11, ground := Go.Ground.data }, { on := 14, ground := Go.Ground.data }], guard := none }) (v := ?_) rfl (by kernel_rfl) (by kernel_rfl) (by kernel_rfl) (fun _ _ _ h => h) (Or.inl ⟨by rfl, ?_⟩) (by assumption) ?_
  rotate_left
  · intro w hSw
    (try dsimp only at hSw)
    go_simp
    try (with_reducible rfl)
  try simp only [Act.put, List.setIfInBounds_toArray, List.set_cons_zero, List.set_cons_succ]
  refine wpAnyH_take (i := 16) (oi := { dst := some 67, op := Go.Op.move (Go.Operand.tmp 66), type := 4, pos := "law.go:41", after := #[{ on := 15, ground := Go.Ground.data }, { on := 13, ground := Go.Ground.chain }], guard := none }) (v := ?_) rfl (by kernel_rfl) (by kernel_rfl) (by kernel_rfl) (fun _ _ _ h => h) (Or.inl ⟨by rfl, ?_⟩) (by assumption) ?_
  rotate_left
  · intro w hSw
    (try dsimp only at hSw)
    go_simp
    try (with_reducible rfl)
  try simp only [Act.put, List.setIfInBounds_toArray, List.set_cons_zero, List.set_cons_succ]
  refine wpAnyH_take (i := 17) (oi := { dst := some 68, op := Go.Op.move (Go.Operand.tmp 6), type := 28, pos := "law.go:41", after := #[{ on := 16, ground := Go.Ground.guard }], guard := some (16, true) }) (v := ?_) rfl (by kernel_rfl) (by kernel_rfl) (by kernel_rfl) (fun _ _ _ h => h) (Or.inl ⟨by rfl, ?_⟩) (by assumption) ?_
  rotate_left
  · intro w hSw
    (try dsimp only at hSw)
    go_simp
    try (with_reducible rfl)
  try simp only [Act.put, List.setIfInBounds_toArray, List.set_cons_zero, List.set_cons_succ]
  refine wpAnyH_take (i := 18) (oi := { dst := some 69, op := Go.Op.binOp Go.BinOp.eql 28 (Go.Operand.tmp 68) (Go.Operand.const (Go.Value.int Go.IntKind.i64 0)) 28, type := 4, pos := "law.go:41", after := #[{ on := 17, ground := Go.Ground.data }, { on := 16, ground := Go.Ground.guard }], guard := some (16, true) }) (v := ?_) rfl (by kernel_rfl) (by kernel_rfl) (by kernel_rfl) (fun _ _ _ h => h) (Or.inl ⟨by rfl, ?_⟩) (by assumption) ?_
  rotate_left
  · intro w hSw
    (try dsimp only at hSw)
    go_simp
    try (with_reducible rfl)
  try simp only [Act.put, List.setIfInBounds_toArray, List.set_cons_zero, List.set_cons_succ]
  refine wpAnyH_take (i := 19) (oi := { dst := some 70, op := Go.Op.pick (Go.Operand.tmp 67) (Go.Operand.tmp 69) (Go.Operand.const (Go.Value.bool false)), type := 4, pos := "law.go:41", after := #[{ on := 16, ground := Go.Ground.data }, { on := 18, ground := Go.Ground.data }], guard := none }) (v := ?_) rfl (by kernel_rfl) (by kernel_rfl) (by kernel_rfl) (fun _ _ _ h => h) (Or.inl ⟨by rfl, ?_⟩) (by assumption) ?_
  rotate_left
  · intro w hSw
    (try dsimp only at hSw)
    go_simp
    try (with_reducible rfl)
  try simp only [Act.put, List.setIfInBounds_toArray, List.set_cons_zero, List.set_cons_succ]
  refine wpAnyH_take (i := 20) (oi := { dst := some 71, op := Go.Op.move (Go.Operand.tmp 70), type := 4, pos := "law.go:41", after := #[{ on := 19, ground := Go.Ground.data }, { on := 16, ground := Go.Ground.chain }], guard := none }) (v := ?_) rfl (by kernel_rfl) (by kernel_rfl) (by kernel_rfl) (fun _ _ _ h => h) (Or.inl ⟨by rfl, ?_⟩) (by assumption) ?_
  rotate_left
  · intro w hSw
    (try dsimp only at hSw)
    go_simp
    try (with_reducible rfl)
  try simp only [Act.put, List.setIfInBounds_toArray, List.set_cons_zero, List.set_cons_succ]
  refine wpAnyH_take (i := 21) (oi := { dst := some 72, op := Go.Op.move (Go.Operand.tmp 5), type := 9, pos := "law.go:41", after := #[{ on := 20, ground := Go.Ground.guard }], guard := some (20, true) }) (v := ?_) rfl (by kernel_rfl) (by kernel_rfl) (by kernel_rfl) (fun _ _ _ h => h) (Or.inl ⟨by rfl, ?_⟩) (by assumption) ?_
  rotate_left
  · intro w hSw
    (try dsimp only at hSw)
    go_simp
    try (with_reducible rfl)
  try simp only [Act.put, List.setIfInBounds_toArray, List.set_cons_zero, List.set_cons_succ]
  refine wpAnyH_take (i := 22) (oi := { dst := some 73, op := Go.Op.index 9 (Go.Operand.tmp 72) (Go.Operand.const (Go.Value.int Go.IntKind.i64 7)), type := 5, pos := "law.go:41", after := #[{ on := 21, ground := Go.Ground.data }, { on := 20, ground := Go.Ground.guard }], guard := some (20, true) }) (v := ?_) rfl (by kernel_rfl) (by kernel_rfl) (by kernel_rfl) (fun _ _ _ h => h) (Or.inl ⟨by rfl, ?_⟩) (by assumption) ?_
  rotate_left
  · intro w hSw
    (try dsimp only at hSw)
    go_simp
    try (with_reducible rfl)
  try simp only [Act.put, List.setIfInBounds_toArray, List.set_cons_zero, List.set_cons_succ]
  refine wpAnyH_take (i := 23) (oi := { dst := some 74, op := Go.Op.binOp Go.BinOp.eql 5 (Go.Operand.tmp 73) (Go.Operand.const (Go.Value.int Go.IntKind.u8 63)) 5, type := 4, pos := "law.go:41", after := #[{ on := 22, ground := Go.Ground.data }, { on := 20, ground := Go.Ground.guard }], guard := some (20, true) }) (v := ?_) rfl (by kernel_rfl) (by kernel_rfl) (by kernel_rfl) (fun _ _ _ h => h) (Or.inl ⟨by rfl, ?_⟩) (by assumption) ?_
  rotate_left
  · intro w hSw
    (try dsimp only at hSw)
    go_simp
    try (with_reducible rfl)
  try simp only [Act.put, List.setIfInBounds_toArray, List.set_cons_zero, List.set_cons_succ]
  refine wpAnyH_take (i := 24) (oi := { dst := some 75, op := Go.Op.pick (Go.Operand.tmp 71) (Go.Operand.tmp 74) (Go.Operand.const (Go.Value.bool false)), type := 4, pos := "law.go:41", after := #[{ on := 20, ground := Go.Ground.data }, { on := 23, ground := Go.Ground.data }], guard := none }) (v := ?_) rfl (by kernel_rfl) (by kernel_rfl) (by kernel_rfl) (fun _ _ _ h => h) (Or.inl ⟨by rfl, ?_⟩) (by assumption) ?_
  rotate_left
  · intro w hSw
    (try dsimp only at hSw)
    go_simp
    try (with_reducible rfl)
  try simp only [Act.put, List.setIfInBounds_toArray, List.set_cons_zero, List.set_cons_succ]
  refine wpAnyH_take (i := 25) (oi := { dst := some 15, op := Go.Op.assign (Go.Operand.tmp 75), type := 4, pos := "law.go:41", after := #[{ on := 24, ground := Go.Ground.data }, { on := 20, ground := Go.Ground.chain }, { on := 0, ground := Go.Ground.phase }, { on := 1, ground := Go.Ground.phase }, { on := 2, ground := Go.Ground.phase }, { on := 3, ground := Go.Ground.phase }, { on := 4, ground := Go.Ground.phase }, { on := 5, ground := Go.Ground.phase }, { on := 6, ground := Go.Ground.phase }, { on := 7, ground := Go.Ground.phase }, { on := 8, ground := Go.Ground.phase }, { on := 9, ground := Go.Ground.phase }, { on := 10, ground := Go.Ground.phase }, { on := 11, ground := Go.Ground.phase }, { on := 12, ground := Go.Ground.phase }, { on := 13, ground := Go.Ground.phase }, { on := 14, ground := Go.Ground.phase }, { on := 15, ground := Go.Ground.phase }, { on := 16, ground := Go.Ground.phase }, { on := 17, ground := Go.Ground.phase }, { on := 18, ground := Go.Ground.phase }, { on := 19, ground := Go.Ground.phase }, { on := 20, ground := Go.Ground.phase }, { on := 21, ground := Go.Ground.phase }, { on := 22, ground := Go.Ground.phase }, { on := 23, ground := Go.Ground.phase }, { on := 24, ground := Go.Ground.phase }], guard := none }) (v := ?_) rfl (by kernel_rfl) (by kernel_rfl) (by kernel_rfl) (fun _ _ _ h => h) (Or.inl ⟨by rfl, ?_⟩) (by assumption) ?_
  rotate_left
  · intro w hSw
    (try dsimp only at hSw)
    go_simp
    try (with_reducible rfl)
  try simp only [Act.put, List.setIfInBounds_toArray, List.set_cons_zero, List.set_cons_succ]
  refine wpAnyH_done (by kernel_rfl) ?_ _

  have L6 := Lib.hid (L5.out.trans (hR.mono L5.out.size))
  have R6 := Lib.hid (R5.out.below hR)
  clear hR
  go_wp2_with fail
  have HSm := Lib.hid (ssame_yes A (some ⟨W'.heap.size, 0, none⟩) 2 c 2 [⟨0, 0, 8⟩, ⟨60, 8, 16⟩] (by decide) (W'.alloc (.cells #[.int .i64 0, .int .i64 0, .int .i64 8, .int .i64 60, .int .i64 8, .int .i64 16] 45)) (R6.out.below ((Below.refl _ _).alloc (Nat.le_refl _) _)) (lit_rx W'))
  have L7 := Lib.hid (L6.out.alloc L6.out.size (.cells #[.int .i64 0, .int .i64 0, .int .i64 8, .int .i64 60, .int .i64 8, .int .i64 16] 45))
  refine Calls.mono HSm.out ?_
  rintro e w7 ⟨rfl, m, rfl⟩
  have L8 := Lib.hid (below_drewN L7.out m)
  go_wp2_with fail
  refine Calls.mono (HK.out _) ?_
  rintro e w8 ⟨rfl, hb⟩
  have L9 := Lib.hid (L8.out.trans (hb.mono L8.out.size))
  clear hb
  go_wp2
  go_ret
  exact ⟨rfl, L9.out⟩
end Go.Proofs.Ytbhddodghbhjiaa
