/-
  The chapter's examples that each law of nd calls first: they answer true.
-/
import Derived.Test.YtnligeelbajnpaaNPr
import Derived.Deep.RegionHeld
namespace Go.Proofs.Ytnligeelbajnpaa
open Go.RowKit
set_option linter.unusedVariables false

def nx0 : Sol := ⟨true, 18338657682652659712, 1, true, 5⟩
def ny0 : Adv := ⟨true, 18338657682652659712, 1, true, false, true, false, 0⟩
def nD1 : ByteArray := ⟨#[254, 128, 0, 0, 0, 0, 0, 0, 0, 0, 0, 0, 0, 0, 0, 1, 1, 1, 0, 0, 0, 0, 0, 5]⟩
def nD2 : ByteArray := ⟨#[254, 128, 0, 0, 0, 0, 0, 0, 0, 0, 0, 0, 0, 0, 0, 1]⟩
theorem nx0_wf : WfT nx0.h nx0.l nx0.m := ⟨by decide, by decide, by decide⟩
theorem ny0_wf : WfT ny0.h ny0.l ny0.m := ⟨by decide, by decide, by decide⟩
theorem nx0_rg : rgtB nx0.s nx0.h nx0.l nx0.y nx0.m = true := by decide +kernel
theorem ny0_rg : rgtB ny0.s ny0.h ny0.l ny0.y ny0.m = true := by decide +kernel
theorem nx0_S : strOfNums (datN nx0.h nx0.l nx0.y 1 nx0.m) = nD1 := by decide +kernel
theorem ny0_S : strOfNums (datN ny0.h ny0.l ny0.y 2 ny0.m) = nD2 := by decide +kernel
theorem nx0_ask : askR nx0 = (⟨true, 135, 0, 0, nD1⟩, 0) := by unfold askR; rw [if_pos nx0_rg, nx0_S]
theorem ny0_tel : telR ny0 = (⟨true, 136, 0, 2684354560, nD2⟩, 0) := by unfold telR; rw [if_pos ny0_rg, ny0_S]; rfl
theorem nx0_tk : tkAsk ⟨true, 135, 0, 0, nD1⟩ = (nx0, 0) := by have := (ask_back nx0_wf nx0_rg).1; rwa [nx0_ask] at this
theorem ny0_tk : tkTel ⟨true, 136, 0, 2684354560, nD2⟩ = (ny0, 0) := by have := (tel_back ny0_wf ny0_rg).1; rwa [ny0_tel] at this
set_option maxHeartbeats 2000000 in
theorem near_any (w : World) : Calls Try.prog 18 #[] w fun e w' => e = .returned (.agg #[.bool true, .int .u64 18338657682652659712, .int .u64 1]) ∧ Below w.heap.size w w' := by
  go_enter Try.func18, Try.ntmps18
  go_wp2
  exact bodyPost_ret (v := .agg #[.bool true, .int .u64 18338657682652659712, .int .u64 1]) (by simp [results, Try.results18, go_sem]) rfl ⟨rfl, (Below.refl _ _).alloc (Nat.le_refl _) _⟩
set_option maxRecDepth 100000 in
set_option maxHeartbeats 8000000 in
theorem nawake_yes (w : World) : Calls Try.prog 8 #[] w fun e w' => e = .returned (.bool true) ∧ Below w.heap.size w w' := by
  have HG := Lib.hid (fun W => near_any W)
  have HA := Lib.hid (fun W => nask_any nx0 ⟨⟨by decide, by decide⟩, ⟨by decide, by decide⟩, ⟨by decide, by decide⟩⟩ W)
  have HTA := Lib.hid (fun W => ntka_any ⟨true, 135, 0, 0, nD1⟩ (by decide) W)
  have HT := Lib.hid (fun W => ntell_any ny0 ⟨⟨by decide, by decide⟩, ⟨by decide, by decide⟩, ⟨by decide, by decide⟩⟩ W)
  have HTT := Lib.hid (fun W => ntkt_any ⟨true, 136, 0, 2684354560, nD2⟩ (by decide) true false true rfl W)
  have HO := Lib.hid (fun W => nopt_any ⟨#[1]⟩ (by decide) W)
  unfold askV at HA
  unfold telV at HT
  unfold tkaV at HTA
  unfold tktV at HTT
  rw [nx0_ask] at HA
  rw [ny0_tel] at HT
  rw [nx0_tk] at HTA
  rw [ny0_tk] at HTT
  have eo : ops (⟨#[1]⟩ : ByteArray).data.toList = ([], 81) := by rw [show (⟨#[1]⟩ : ByteArray).data.toList = [1] from rfl, ops_lone]
  rw [eo] at HO
  have e1 : (nD1.size : Int) = 24 := rfl
  have e2 : (nD2.size : Int) = 16 := rfl
  have e3 : nD1.extract 16 nD1.size = ⟨#[1, 1, 0, 0, 0, 0, 0, 5]⟩ := by decide +kernel
  have e4 : nD1.extract 16 24 = ⟨#[1, 1, 0, 0, 0, 0, 0, 5]⟩ := by decide +kernel
  have e5 : nD1.size = 24 := rfl
  clear eo
  obtain ⟨D1, hD1⟩ : ∃ x, nD1 = x := ⟨_, rfl⟩
  obtain ⟨D2, hD2⟩ : ∃ x, nD2 = x := ⟨_, rfl⟩
  rw [hD1] at HA HTA e1 e3 e4 e5
  rw [hD2] at HT HTT e2
  clear hD1 hD2
  have HAs : Hid (∀ W : World, Calls Try.prog 9 #[.agg #[.bool true, .int .u64 18338657682652659712, .int .u64 1, .bool true, .int .u64 5]] W fun e w' => e = .returned (.tuple #[Ms.val ⟨true, 135, 0, 0, D1⟩, .int .i64 0]) ∧ Below W.heap.size W w') := HA
  have HTe : Hid (∀ W : World, Calls Try.prog 11 #[.agg #[.bool true, .int .u64 18338657682652659712, .int .u64 1, .bool true, .bool false, .bool true, .bool false, .int .u64 0]] W fun e w' => e = .returned (.tuple #[Ms.val ⟨true, 136, 0, 2684354560, D2⟩, .int .i64 0]) ∧ Below W.heap.size W w') := HT
  have HTk : Hid (∀ W : World, Calls Try.prog 16 #[Ms.val ⟨true, 135, 0, 0, D1⟩] W fun e w' => e = .returned (.tuple #[.agg #[.bool true, .int .u64 18338657682652659712, .int .u64 1, .bool true, .int .u64 5], .int .i64 0]) ∧ Below W.heap.size W w') := HTA
  have HTl : Hid (∀ W : World, Calls Try.prog 17 #[Ms.val ⟨true, 136, 0, 2684354560, D2⟩] W fun e w' => e = .returned (.tuple #[.agg #[.bool true, .int .u64 18338657682652659712, .int .u64 1, .bool true, .bool false, .bool true, .bool false, .int .u64 0], .int .i64 0]) ∧ Below W.heap.size W w') := HTT
  clear HA HT HTA HTT
  go_enter Try.func8, Try.ntmps8
  go_wp2_with fail
  refine Calls.mono (HG.out _) ?_
  rintro e w0 ⟨rfl, hb⟩
  have L0 := Lib.hid hb
  clear hb
  go_wp2_with fail
  refine Calls.mono (HAs.out _) ?_
  rintro e w1 ⟨rfl, hb⟩
  have L1 := Lib.hid ((L0.out.trans (hb.mono L0.out.size)).alloc (L0.out.trans (hb.mono L0.out.size)).size (.cells (mcs ⟨true, 135, 0, 0, D1⟩) 32))
  have K1 := Lib.hid (Blk.new w1 32 (mcs ⟨true, 135, 0, 0, D1⟩))
  clear hb
  obtain ⟨f0, f1, f2, f3, f4⟩ := K1.out.m5
  go_wp2_with fail
  refine Calls.mono (HTk.out _) ?_
  rintro e w2 ⟨rfl, hb⟩
  have L2 := Lib.hid ((L1.out.trans (hb.mono L1.out.size)).alloc (L1.out.trans (hb.mono L1.out.size)).size (.cells (solC nx0) 27))
  have K2 := Lib.hid ((K1.out.below hb K1.out.lt).alloc (.cells (solC nx0) 27))
  have X2 := Lib.hid (Blk.new w2 27 (solC nx0))
  clear hb f0 f1 f2 f3 f4
  go_wp2_with fail
  refine Calls.mono (HG.out _) ?_
  rintro e w3 ⟨rfl, hb⟩
  have L3 := Lib.hid (L2.out.trans (hb.mono L2.out.size))
  have K3 := Lib.hid (K2.out.below hb K2.out.lt)
  have X3 := Lib.hid (X2.out.below hb X2.out.lt)
  clear hb
  go_wp2_with fail
  refine Calls.mono (HTe.out _) ?_
  rintro e w4 ⟨rfl, hb⟩
  have L4 := Lib.hid ((L3.out.trans (hb.mono L3.out.size)).alloc (L3.out.trans (hb.mono L3.out.size)).size (.cells (mcs ⟨true, 136, 0, 2684354560, D2⟩) 32))
  have K4 := Lib.hid ((K3.out.below hb K3.out.lt).alloc (.cells (mcs ⟨true, 136, 0, 2684354560, D2⟩) 32))
  have X4 := Lib.hid ((X3.out.below hb X3.out.lt).alloc (.cells (mcs ⟨true, 136, 0, 2684354560, D2⟩) 32))
  have T4 := Lib.hid (Blk.new w4 32 (mcs ⟨true, 136, 0, 2684354560, D2⟩))
  clear hb
  obtain ⟨f0, f1, f2, f3, f4⟩ := T4.out.m5
  go_wp2_with fail
  refine Calls.mono (HTl.out _) ?_
  rintro e w5 ⟨rfl, hb⟩
  have L5 := Lib.hid ((L4.out.trans (hb.mono L4.out.size)).alloc (L4.out.trans (hb.mono L4.out.size)).size (.cells (advC ny0) 29))
  have K5 := Lib.hid ((K4.out.below hb K4.out.lt).alloc (.cells (advC ny0) 29))
  have X5 := Lib.hid ((X4.out.below hb X4.out.lt).alloc (.cells (advC ny0) 29))
  have T5 := Lib.hid ((T4.out.below hb T4.out.lt).alloc (.cells (advC ny0) 29))
  have Y5 := Lib.hid (Blk.new w5 29 (advC ny0))
  clear hb f0 f1 f2 f3 f4
  go_wp2_with fail
  refine Calls.mono (HO.out _) ?_
  rintro e w6 ⟨v, rfl, -, hb⟩
  have L6 := Lib.hid (L5.out.trans (hb.mono L5.out.size))
  have K6 := Lib.hid (K5.out.below hb K5.out.lt)
  have X6 := Lib.hid (X5.out.below hb X5.out.lt)
  have T6 := Lib.hid (T5.out.below hb T5.out.lt)
  have Y6 := Lib.hid (Y5.out.below hb Y5.out.lt)
  clear hb
  obtain ⟨M, hM⟩ : ∃ M, w1.heap.size = M := ⟨_, rfl⟩
  obtain ⟨X, hX⟩ : ∃ X, w2.heap.size = X := ⟨_, rfl⟩
  obtain ⟨P, hP⟩ : ∃ P, w4.heap.size = P := ⟨_, rfl⟩
  obtain ⟨Q, hQ⟩ : ∃ Q, w5.heap.size = Q := ⟨_, rfl⟩
  rw [hM] at K6 ⊢
  rw [hX] at X6 ⊢
  rw [hP] at T6 ⊢
  rw [hQ] at Y6 ⊢
  have HC : Hid (∀ W', Below w6.heap.size w6 W' → W'.cell? ⟨M, 0, none⟩ = some (.bool true) ∧ W'.cell? ⟨M, 1, none⟩ = some (.int .i64 135) ∧ W'.cell? ⟨M, 2, none⟩ = some (.int .i64 0) ∧ W'.cell? ⟨M, 3, none⟩ = some (.int .i64 0) ∧ W'.cell? ⟨M, 4, none⟩ = some (.string D1) ∧ W'.cell? ⟨X, 0, none⟩ = some (.bool true) ∧ W'.cell? ⟨X, 1, none⟩ = some (.int .u64 18338657682652659712) ∧ W'.cell? ⟨X, 2, none⟩ = some (.int .u64 1) ∧ W'.cell? ⟨X, 3, none⟩ = some (.bool true) ∧ W'.cell? ⟨X, 4, none⟩ = some (.int .u64 5)) := Lib.hid fun W' hb => by
    have k := K6.out.below hb K6.out.lt
    have x := X6.out.below hb X6.out.lt
    obtain ⟨a0, a1, a2, a3, a4⟩ := k.m5
    obtain ⟨b0, b1, b2, b3, b4⟩ := x.so5
    exact ⟨a0, a1, a2, a3, a4, b0, b1, b2, b3, b4⟩
  have hR : Below w6.heap.size w6 w6.drew := (Below.refl _ _).drew
  obtain ⟨f0, f1, f2, f3, f4⟩ := K6.out.m5
  obtain ⟨g0, g1, g2, g3, g4⟩ := T6.out.m5
  clear K1 K2 K3 K4 K5 X2 X3 X4 X5 T4 T5 Y5 hM hX hP hQ HAs HTe HTk HTl HO
  go_wp2
  clear f0 f1 f2 f3 f4 g0 g1 g2 g3 g4
  refine wp_region_held_drew (S := (fun w' => w'.cell? ⟨M, 0, none⟩ = some (.bool true) ∧ w'.cell? ⟨M, 1, none⟩ = some (.int .i64 135) ∧ w'.cell? ⟨M, 2, none⟩ = some (.int .i64 0) ∧ w'.cell? ⟨M, 3, none⟩ = some (.int .i64 0) ∧ w'.cell? ⟨M, 4, none⟩ = some (.string D1) ∧ w'.cell? ⟨X, 0, none⟩ = some (.bool true) ∧ w'.cell? ⟨X, 1, none⟩ = some (.int .u64 18338657682652659712) ∧ w'.cell? ⟨X, 2, none⟩ = some (.int .u64 1) ∧ w'.cell? ⟨X, 3, none⟩ = some (.bool true) ∧ w'.cell? ⟨X, 4, none⟩ = some (.int .u64 5))) (by kernel_rfl) ?_ (fun hHeld => ?_)
  · exact HC.out _ hR
  refine wpAnyH_take (i := 0) (oi := { dst := some 48, op := Go.Op.move (Go.Operand.tmp 2), type := 33, pos := "law.go:36", after := #[], guard := none }) (v := ?_) rfl (by kernel_rfl) (by kernel_rfl) (by kernel_rfl) (fun _ _ _ h => h) (Or.inl ⟨by rfl, ?_⟩) (by assumption) ?_
  rotate_left
  · intro w hSw
    (try dsimp only at hSw)
    go_simp
    try (with_reducible rfl)
  try simp only [Act.put, List.setIfInBounds_toArray, List.set_cons_zero, List.set_cons_succ]
  refine wpAnyH_take (i := 1) (oi := { dst := some 49, op := Go.Op.binOp Go.BinOp.eql 33 (Go.Operand.tmp 48) (Go.Operand.const (Go.Value.int Go.IntKind.i64 0)) 33, type := 4, pos := "law.go:36", after := #[{ on := 0, ground := Go.Ground.data }], guard := none }) (v := ?_) rfl (by kernel_rfl) (by kernel_rfl) (by kernel_rfl) (fun _ _ _ h => h) (Or.inl ⟨by rfl, ?_⟩) (by assumption) ?_
  rotate_left
  · intro w hSw
    (try dsimp only at hSw)
    go_simp
    try (with_reducible rfl)
  try simp only [Act.put, List.setIfInBounds_toArray, List.set_cons_zero, List.set_cons_succ]
  refine wpAnyH_take (i := 2) (oi := { dst := some 50, op := Go.Op.move (Go.Operand.tmp 49), type := 4, pos := "law.go:36", after := #[{ on := 1, ground := Go.Ground.data }], guard := none }) (v := ?_) rfl (by kernel_rfl) (by kernel_rfl) (by kernel_rfl) (fun _ _ _ h => h) (Or.inl ⟨by rfl, ?_⟩) (by assumption) ?_
  rotate_left
  · intro w hSw
    (try dsimp only at hSw)
    go_simp
    try (with_reducible rfl)
  try simp only [Act.put, List.setIfInBounds_toArray, List.set_cons_zero, List.set_cons_succ]
  refine wpAnyH_take (i := 3) (oi := { dst := some 51, op := Go.Op.fieldAddr 32 (Go.Operand.tmp 1) 1, type := 0, pos := "law.go:36", after := #[{ on := 2, ground := Go.Ground.guard }], guard := some (2, true) }) (v := ?_) rfl (by kernel_rfl) (by kernel_rfl) (by kernel_rfl) (fun _ _ _ h => h) (Or.inl ⟨by rfl, ?_⟩) (by assumption) ?_
  rotate_left
  · intro w hSw
    (try dsimp only at hSw)
    go_simp
    try (with_reducible rfl)
  try simp only [Act.put, List.setIfInBounds_toArray, List.set_cons_zero, List.set_cons_succ]
  refine wpAnyH_take (i := 4) (oi := { dst := some 52, op := Go.Op.load 3 (Go.Operand.tmp 51), type := 3, pos := "law.go:36", after := #[{ on := 3, ground := Go.Ground.data }, { on := 2, ground := Go.Ground.guard }], guard := some (2, true) }) (v := ?_) rfl (by kernel_rfl) (by kernel_rfl) (by kernel_rfl) (fun _ _ _ h => h) (Or.inl ⟨by rfl, ?_⟩) (by assumption) ?_
  rotate_left
  · intro w hSw
    (try dsimp only at hSw)
    go_simp
    try (with_reducible rfl)
  try simp only [Act.put, List.setIfInBounds_toArray, List.set_cons_zero, List.set_cons_succ]
  refine wpAnyH_take (i := 5) (oi := { dst := some 53, op := Go.Op.binOp Go.BinOp.eql 3 (Go.Operand.tmp 52) (Go.Operand.const (Go.Value.int Go.IntKind.i64 135)) 3, type := 4, pos := "law.go:36", after := #[{ on := 4, ground := Go.Ground.data }, { on := 2, ground := Go.Ground.guard }], guard := some (2, true) }) (v := ?_) rfl (by kernel_rfl) (by kernel_rfl) (by kernel_rfl) (fun _ _ _ h => h) (Or.inl ⟨by rfl, ?_⟩) (by assumption) ?_
  rotate_left
  · intro w hSw
    (try dsimp only at hSw)
    go_simp
    try (with_reducible rfl)
  try simp only [Act.put, List.setIfInBounds_toArray, List.set_cons_zero, List.set_cons_succ]
  refine wpAnyH_take (i := 6) (oi := { dst := some 54, op := Go.Op.pick (Go.Operand.tmp 50) (Go.Operand.tmp 53) (Go.Operand.const (Go.Value.bool false)), type := 4, pos := "law.go:36", after := #[{ on := 2, ground := Go.Ground.data }, { on := 5, ground := Go.Ground.data }], guard := none }) (v := ?_) rfl (by kernel_rfl) (by kernel_rfl) (by kernel_rfl) (fun _ _ _ h => h) (Or.inl ⟨by rfl, ?_⟩) (by assumption) ?_
  rotate_left
  · intro w hSw
    (try dsimp only at hSw)
    go_simp
    try (with_reducible rfl)
  try simp only [Act.put, List.setIfInBounds_toArray, List.set_cons_zero, List.set_cons_succ]
  refine wpAnyH_take (i := 7) (oi := { dst := some 55, op := Go.Op.move (Go.Operand.tmp 54), type := 4, pos := "law.go:36", after := #[{ on := 6, ground := Go.Ground.data }, { on := 2, ground := Go.Ground.chain }], guard := none }) (v := ?_) rfl (by kernel_rfl) (by kernel_rfl) (by kernel_rfl) (fun _ _ _ h => h) (Or.inl ⟨by rfl, ?_⟩) (by assumption) ?_
  rotate_left
  · intro w hSw
    (try dsimp only at hSw)
    go_simp
    try (with_reducible rfl)
  try simp only [Act.put, List.setIfInBounds_toArray, List.set_cons_zero, List.set_cons_succ]
  refine wpAnyH_take (i := 8) (oi := { dst := some 56, op := Go.Op.fieldAddr 32 (Go.Operand.tmp 1) 4, type := 0, pos := "law.go:36", after := #[{ on := 7, ground := Go.Ground.guard }], guard := some (7, true) }) (v := ?_) rfl (by kernel_rfl) (by kernel_rfl) (by kernel_rfl) (fun _ _ _ h => h) (Or.inl ⟨by rfl, ?_⟩) (by assumption) ?_
  rotate_left
  · intro w hSw
    (try dsimp only at hSw)
    go_simp
    try (with_reducible rfl)
  try simp only [Act.put, List.setIfInBounds_toArray, List.set_cons_zero, List.set_cons_succ]
  refine wpAnyH_take (i := 9) (oi := { dst := some 57, op := Go.Op.load 9 (Go.Operand.tmp 56), type := 9, pos := "law.go:36", after := #[{ on := 8, ground := Go.Ground.data }, { on := 7, ground := Go.Ground.guard }], guard := some (7, true) }) (v := ?_) rfl (by kernel_rfl) (by kernel_rfl) (by kernel_rfl) (fun _ _ _ h => h) (Or.inl ⟨by rfl, ?_⟩) (by assumption) ?_
  rotate_left
  · intro w hSw
    (try dsimp only at hSw)
    go_simp
    try (with_reducible rfl)
  try simp only [Act.put, List.setIfInBounds_toArray, List.set_cons_zero, List.set_cons_succ]
  refine wpAnyH_take (i := 10) (oi := { dst := some 58, op := Go.Op.slice 9 (Go.Operand.tmp 57) (some (Go.Operand.const (Go.Value.int Go.IntKind.i64 16))) none none, type := 9, pos := "law.go:36", after := #[{ on := 9, ground := Go.Ground.data }, { on := 7, ground := Go.Ground.guard }], guard := some (7, true) }) (v := ?_) rfl (by kernel_rfl) (by kernel_rfl) (by kernel_rfl) (fun _ _ _ h => h) (Or.inl ⟨by rfl, ?_⟩) (by assumption) ?_
  rotate_left
  · intro w hSw
    (try dsimp only at hSw)
    go_simp
    try (with_reducible rfl)
  try simp only [Act.put, List.setIfInBounds_toArray, List.set_cons_zero, List.set_cons_succ]
  refine wpAnyH_take (i := 11) (oi := { dst := some 59, op := Go.Op.binOp Go.BinOp.eql 9 (Go.Operand.tmp 58) (Go.Operand.const (Go.Value.string { data := #[1, 1, 0, 0, 0, 0, 0, 5] })) 9, type := 4, pos := "law.go:36", after := #[{ on := 10, ground := Go.Ground.data }, { on := 7, ground := Go.Ground.guard }], guard := some (7, true) }) (v := ?_) rfl (by kernel_rfl) (by kernel_rfl) (by kernel_rfl) (fun _ _ _ h => h) (Or.inl ⟨by rfl, ?_⟩) (by assumption) ?_
  rotate_left
  · intro w hSw
    (try dsimp only at hSw)
    go_simp
    try (with_reducible rfl)
  try simp only [Act.put, List.setIfInBounds_toArray, List.set_cons_zero, List.set_cons_succ]
  refine wpAnyH_take (i := 12) (oi := { dst := some 60, op := Go.Op.pick (Go.Operand.tmp 55) (Go.Operand.tmp 59) (Go.Operand.const (Go.Value.bool false)), type := 4, pos := "law.go:36", after := #[{ on := 7, ground := Go.Ground.data }, { on := 11, ground := Go.Ground.data }], guard := none }) (v := ?_) rfl (by kernel_rfl) (by kernel_rfl) (by kernel_rfl) (fun _ _ _ h => h) (Or.inl ⟨by rfl, ?_⟩) (by assumption) ?_
  rotate_left
  · intro w hSw
    (try dsimp only at hSw)
    go_simp
    try (with_reducible rfl)
  try simp only [Act.put, List.setIfInBounds_toArray, List.set_cons_zero, List.set_cons_succ]
  refine wpAnyH_take (i := 13) (oi := { dst := some 61, op := Go.Op.move (Go.Operand.tmp 60), type := 4, pos := "law.go:36", after := #[{ on := 12, ground := Go.Ground.data }, { on := 7, ground := Go.Ground.chain }], guard := none }) (v := ?_) rfl (by kernel_rfl) (by kernel_rfl) (by kernel_rfl) (fun _ _ _ h => h) (Or.inl ⟨by rfl, ?_⟩) (by assumption) ?_
  rotate_left
  · intro w hSw
    (try dsimp only at hSw)
    go_simp
    try (with_reducible rfl)
  try simp only [Act.put, List.setIfInBounds_toArray, List.set_cons_zero, List.set_cons_succ]
  refine wpAnyH_take (i := 14) (oi := { dst := some 62, op := Go.Op.move (Go.Operand.tmp 4), type := 33, pos := "law.go:36", after := #[{ on := 13, ground := Go.Ground.guard }], guard := some (13, true) }) (v := ?_) rfl (by kernel_rfl) (by kernel_rfl) (by kernel_rfl) (fun _ _ _ h => h) (Or.inl ⟨by rfl, ?_⟩) (by assumption) ?_
  rotate_left
  · intro w hSw
    (try dsimp only at hSw)
    go_simp
    try (with_reducible rfl)
  try simp only [Act.put, List.setIfInBounds_toArray, List.set_cons_zero, List.set_cons_succ]
  refine wpAnyH_take (i := 15) (oi := { dst := some 63, op := Go.Op.binOp Go.BinOp.eql 33 (Go.Operand.tmp 62) (Go.Operand.const (Go.Value.int Go.IntKind.i64 0)) 33, type := 4, pos := "law.go:36", after := #[{ on := 14, ground := Go.Ground.data }, { on := 13, ground := Go.Ground.guard }], guard := some (13, true) }) (v := ?_) rfl (by kernel_rfl) (by kernel_rfl) (by kernel_rfl) (fun _ _ _ h => h) (Or.inl ⟨by rfl, ?_⟩) (by assumption) ?_
  rotate_left
  · intro w hSw
    (try dsimp only at hSw)
    go_simp
    try (with_reducible rfl)
  try simp only [Act.put, List.setIfInBounds_toArray, List.set_cons_zero, List.set_cons_succ]
  refine wpAnyH_take (i := 16) (oi := { dst := some 64, op := Go.Op.pick (Go.Operand.tmp 61) (Go.Operand.tmp 63) (Go.Operand.const (Go.Value.bool false)), type := 4, pos := "law.go:36", after := #[{ on := 13, ground := Go.Ground.data }, { on := 15, ground := Go.Ground.data }], guard := none }) (v := ?_) rfl (by kernel_rfl) (by kernel_rfl) (by kernel_rfl) (fun _ _ _ h => h) (Or.inl ⟨by rfl, ?_⟩) (by assumption) ?_
  rotate_left
  · intro w hSw
    (try dsimp only at hSw)
    go_simp
    try (with_reducible rfl)
  try simp only [Act.put, List.setIfInBounds_toArray, List.set_cons_zero, List.set_cons_succ]
  refine wpAnyH_take (i := 17) (oi := { dst := some 65, op := Go.Op.move (Go.Operand.tmp 64), type := 4, pos := "law.go:36", after := #[{ on := 16, ground := Go.Ground.data }, { on := 13, ground := Go.Ground.chain }], guard := none }) (v := ?_) rfl (by kernel_rfl) (by kernel_rfl) (by kernel_rfl) (fun _ _ _ h => h) (Or.inl ⟨by rfl, ?_⟩) (by assumption) ?_
  rotate_left
  · intro w hSw
    (try dsimp only at hSw)
    go_simp
    try (with_reducible rfl)
  try simp only [Act.put, List.setIfInBounds_toArray, List.set_cons_zero, List.set_cons_succ]
  refine wpAnyH_take (i := 18) (oi := { dst := some 66, op := Go.Op.fieldAddr 27 (Go.Operand.tmp 3) 2, type := 0, pos := "law.go:36", after := #[{ on := 17, ground := Go.Ground.guard }], guard := some (17, true) }) (v := ?_) rfl (by kernel_rfl) (by kernel_rfl) (by kernel_rfl) (fun _ _ _ h => h) (Or.inl ⟨by rfl, ?_⟩) (by assumption) ?_
  rotate_left
  · intro w hSw
    (try dsimp only at hSw)
    go_simp
    try (with_reducible rfl)
  try simp only [Act.put, List.setIfInBounds_toArray, List.set_cons_zero, List.set_cons_succ]
  refine wpAnyH_take (i := 19) (oi := { dst := some 67, op := Go.Op.load 25 (Go.Operand.tmp 66), type := 25, pos := "law.go:36", after := #[{ on := 18, ground := Go.Ground.data }, { on := 17, ground := Go.Ground.guard }], guard := some (17, true) }) (v := ?_) rfl (by kernel_rfl) (by kernel_rfl) (by kernel_rfl) (fun _ _ _ h => h) (Or.inl ⟨by rfl, ?_⟩) (by assumption) ?_
  rotate_left
  · intro w hSw
    (try dsimp only at hSw)
    go_simp
    try (with_reducible rfl)
  try simp only [Act.put, List.setIfInBounds_toArray, List.set_cons_zero, List.set_cons_succ]
  refine wpAnyH_take (i := 20) (oi := { dst := some 68, op := Go.Op.binOp Go.BinOp.eql 25 (Go.Operand.tmp 67) (Go.Operand.const (Go.Value.int Go.IntKind.u64 5)) 25, type := 4, pos := "law.go:36", after := #[{ on := 19, ground := Go.Ground.data }, { on := 17, ground := Go.Ground.guard }], guard := some (17, true) }) (v := ?_) rfl (by kernel_rfl) (by kernel_rfl) (by kernel_rfl) (fun _ _ _ h => h) (Or.inl ⟨by rfl, ?_⟩) (by assumption) ?_
  rotate_left
  · intro w hSw
    (try dsimp only at hSw)
    go_simp
    try (with_reducible rfl)
  try simp only [Act.put, List.setIfInBounds_toArray, List.set_cons_zero, List.set_cons_succ]
  refine wpAnyH_take (i := 21) (oi := { dst := some 69, op := Go.Op.pick (Go.Operand.tmp 65) (Go.Operand.tmp 68) (Go.Operand.const (Go.Value.bool false)), type := 4, pos := "law.go:36", after := #[{ on := 17, ground := Go.Ground.data }, { on := 20, ground := Go.Ground.data }], guard := none }) (v := ?_) rfl (by kernel_rfl) (by kernel_rfl) (by kernel_rfl) (fun _ _ _ h => h) (Or.inl ⟨by rfl, ?_⟩) (by assumption) ?_
  rotate_left
  · intro w hSw
    (try dsimp only at hSw)
    go_simp
    try (with_reducible rfl)
  try simp only [Act.put, List.setIfInBounds_toArray, List.set_cons_zero, List.set_cons_succ]
  refine wpAnyH_take (i := 22) (oi := { dst := some 70, op := Go.Op.move (Go.Operand.tmp 69), type := 4, pos := "law.go:36", after := #[{ on := 21, ground := Go.Ground.data }, { on := 17, ground := Go.Ground.chain }], guard := none }) (v := ?_) rfl (by kernel_rfl) (by kernel_rfl) (by kernel_rfl) (fun _ _ _ h => h) (Or.inl ⟨by rfl, ?_⟩) (by assumption) ?_
  rotate_left
  · intro w hSw
    (try dsimp only at hSw)
    go_simp
    try (with_reducible rfl)
  try simp only [Act.put, List.setIfInBounds_toArray, List.set_cons_zero, List.set_cons_succ]
  refine wpAnyH_take (i := 23) (oi := { dst := some 71, op := Go.Op.fieldAddr 27 (Go.Operand.tmp 3) 0, type := 0, pos := "law.go:36", after := #[{ on := 22, ground := Go.Ground.guard }], guard := some (22, true) }) (v := ?_) rfl (by kernel_rfl) (by kernel_rfl) (by kernel_rfl) (fun _ _ _ h => h) (Or.inl ⟨by rfl, ?_⟩) (by assumption) ?_
  rotate_left
  · intro w hSw
    (try dsimp only at hSw)
    go_simp
    try (with_reducible rfl)
  try simp only [Act.put, List.setIfInBounds_toArray, List.set_cons_zero, List.set_cons_succ]
  refine wpAnyH_take (i := 24) (oi := { dst := some 72, op := Go.Op.load 24 (Go.Operand.tmp 71), type := 24, pos := "law.go:36", after := #[{ on := 23, ground := Go.Ground.data }, { on := 22, ground := Go.Ground.guard }], guard := some (22, true) }) (v := ?_) rfl (by kernel_rfl) (by kernel_rfl) (by kernel_rfl) (fun _ _ _ h => h) (Or.inl ⟨by rfl, ?_⟩) (by assumption) ?_
  rotate_left
  · intro w hSw
    (try dsimp only at hSw)
    go_simp
    try (with_reducible rfl)
  try simp only [Act.put, List.setIfInBounds_toArray, List.set_cons_zero, List.set_cons_succ]
  refine wpAnyH_ready (rs := [25]) (by kernel_rfl) (by simp) ?_
  refine AllReadyH.cons (o := { dst := some 73, op := Go.Op.call { callee := Go.Callee.value (Go.Operand.func 18), args := #[], argTypes := #[] }, type := 24, pos := "law.go:36", after := #[{ on := 22, ground := Go.Ground.chain }, { on := 22, ground := Go.Ground.guard }], guard := some (22, true) }) rfl (fun K hK => ?_) AllReadyH.nil
  go_simp
  (go_at_call 18; (with_reducible refine Calls.mono (HG.out _) ?_); rintro e W' ⟨rfl, hb⟩; replace hR := hR.trans (hb.mono hR.size); clear hb)
  go_wp2_with fail
  refine hK.out _ _ ?_ (fun hHeld => ?_)
  · exact HC.out _ hR
  clear hK K
  try simp only [Act.put, List.setIfInBounds_toArray, List.set_cons_zero, List.set_cons_succ]
  refine wpAnyH_take (i := 26) (oi := { dst := some 74, op := Go.Op.binOp Go.BinOp.eql 24 (Go.Operand.tmp 72) (Go.Operand.tmp 73) 24, type := 4, pos := "law.go:36", after := #[{ on := 24, ground := Go.Ground.data }, { on := 25, ground := Go.Ground.data }, { on := 22, ground := Go.Ground.guard }], guard := some (22, true) }) (v := ?_) rfl (by kernel_rfl) (by kernel_rfl) (by kernel_rfl) (fun _ _ _ h => h) (Or.inl ⟨by rfl, ?_⟩) (by assumption) ?_
  rotate_left
  · intro w hSw
    (try dsimp only at hSw)
    go_simp
    try (with_reducible rfl)
  try simp only [Act.put, List.setIfInBounds_toArray, List.set_cons_zero, List.set_cons_succ]
  refine wpAnyH_take (i := 27) (oi := { dst := some 75, op := Go.Op.pick (Go.Operand.tmp 70) (Go.Operand.tmp 74) (Go.Operand.const (Go.Value.bool false)), type := 4, pos := "law.go:36", after := #[{ on := 22, ground := Go.Ground.data }, { on := 26, ground := Go.Ground.data }], guard := none }) (v := ?_) rfl (by kernel_rfl) (by kernel_rfl) (by kernel_rfl) (fun _ _ _ h => h) (Or.inl ⟨by rfl, ?_⟩) (by assumption) ?_
  rotate_left
  · intro w hSw
    (try dsimp only at hSw)
    go_simp
    try (with_reducible rfl)
  try simp only [Act.put, List.setIfInBounds_toArray, List.set_cons_zero, List.set_cons_succ]
  refine wpAnyH_take (i := 28) (oi := { dst := some 11, op := Go.Op.assign (Go.Operand.tmp 75), type := 4, pos := "law.go:36", after := #[{ on := 27, ground := Go.Ground.data }, { on := 25, ground := Go.Ground.chain }, { on := 0, ground := Go.Ground.phase }, { on := 1, ground := Go.Ground.phase }, { on := 2, ground := Go.Ground.phase }, { on := 3, ground := Go.Ground.phase }, { on := 4, ground := Go.Ground.phase }, { on := 5, ground := Go.Ground.phase }, { on := 6, ground := Go.Ground.phase }, { on := 7, ground := Go.Ground.phase }, { on := 8, ground := Go.Ground.phase }, { on := 9, ground := Go.Ground.phase }, { on := 10, ground := Go.Ground.phase }, { on := 11, ground := Go.Ground.phase }, { on := 12, ground := Go.Ground.phase }, { on := 13, ground := Go.Ground.phase }, { on := 14, ground := Go.Ground.phase }, { on := 15, ground := Go.Ground.phase }, { on := 16, ground := Go.Ground.phase }, { on := 17, ground := Go.Ground.phase }, { on := 18, ground := Go.Ground.phase }, { on := 19, ground := Go.Ground.phase }, { on := 20, ground := Go.Ground.phase }, { on := 21, ground := Go.Ground.phase }, { on := 22, ground := Go.Ground.phase }, { on := 23, ground := Go.Ground.phase }, { on := 24, ground := Go.Ground.phase }, { on := 25, ground := Go.Ground.phase }, { on := 26, ground := Go.Ground.phase }, { on := 27, ground := Go.Ground.phase }], guard := none }) (v := ?_) rfl (by kernel_rfl) (by kernel_rfl) (by kernel_rfl) (fun _ _ _ h => h) (Or.inl ⟨by rfl, ?_⟩) (by assumption) ?_
  rotate_left
  · intro w hSw
    (try dsimp only at hSw)
    go_simp
    try (with_reducible rfl)
  try simp only [Act.put, List.setIfInBounds_toArray, List.set_cons_zero, List.set_cons_succ]
  refine wpAnyH_done (by kernel_rfl) ?_ _

  have L7 := Lib.hid (L6.out.trans (hR.mono L6.out.size))
  have T7 := Lib.hid (T6.out.below hR T6.out.lt)
  have Y7 := Lib.hid (Y6.out.below hR Y6.out.lt)
  clear hR
  obtain ⟨g0, g1, g2, g3, g4⟩ := T7.out.m5
  obtain ⟨y0, y1, y2, y3, y4, y5, y6, y7⟩ := Y7.out.ad8
  go_wp2
  go_ret
  exact ⟨rfl, L7.out⟩
end Go.Proofs.Ytnligeelbajnpaa
