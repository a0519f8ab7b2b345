/-
  The program's own tree of free blocks (layer 10): newTree.
-/
import Derived.Test.YtiocdojdncomhaaDoorArV
import Derived.Deep.OwnRows
namespace Go.Proofs.YtiocdojdncomhaaDoor
open Go.RowKit
set_option linter.unusedVariables false

theorem info_ord : (Tryd.prog.info? 69).map (fun i => (i.zero, i.size, i.bytes)) = some (some (.int .u32 0), 1, 4) := by kernel_rfl
theorem make_ord (n : Nat) (h : n ≤ 200000) (w : World) :
    (Instr.makeSlice 49 (.int .i64 (n : Int)) (.int .i64 (n : Int))).run Tryd.prog w = .ok (.slice (some ⟨w.heap.size, 0, none⟩) n n) (w.alloc (.cells (madeCells #[.int .u32 0] n) 69)) :=
  run_make_row' (P := Tryd.prog) 49 69 (.int .u32 0) 4 Tryd.underlying49 info_ord rfl .i64 .i64 n (by omega) (by omega) w
theorem made_nds (N : Nat) : madeCells #[.int .u32 0] (2 ^ (N + 1)) = nds N (fun _ => 0) := by
  apply Array.ext
  · simp [madeCells, nds]
  · intro i h1 h2
    simp [madeCells, nds, Nat.mod_one]
theorem new_tr (N : Nat) : TrO N [] (up (fun _ => 0) 1 (2 ^ N)) N 0 := by
  refine TrO.stop ?_ (.inl (by simp [clr]))
  rw [ix_root, up_same, fre_nil]
  simp [msk]
set_option maxRecDepth 100000 in
set_option maxHeartbeats 4000000 in
theorem newTree_any (N : Nat) (hN : N ≤ 16) (w : World) :
    Calls Tryd.prog 28 #[.int .i64 (N : Int)] w fun e w' => ∃ bn f, e = .returned (treV N bn) ∧ w.heap.size ≤ bn ∧ Blk w' bn 69 (nds N f) ∧ TrO N [] f N 0 ∧ Below w.heap.size w w' := by
  have h16 := pow16 hN
  have HT := Lib.hid (new_tr N)
  have e : ((2 : Int) ^ N) = ((2 ^ N : Nat) : Int) := by simp
  have j1 : IntKind.u32.wrap ((2 : Int) ^ N) = ((2 ^ N : Nat) : Int) := by rw [e, IntKind.wrap_u32]; omega
  have hs : 2 ^ (N + 1) = 2 ^ N + 2 ^ N := by rw [Nat.pow_succ]; omega
  have j2 : IntKind.i64.wrap (2 * (2 : Int) ^ N) = ((2 ^ (N + 1) : Nat) : Int) := by rw [e, IntKind.wrap_i64]; omega
  have HM := Lib.hid (made_nds N)
  unfold treV
  obtain ⟨S, hS⟩ : ∃ S : Nat, 2 ^ (N + 1) = S := ⟨_, rfl⟩
  obtain ⟨P, hP⟩ : ∃ P : Nat, 2 ^ N = P := ⟨_, rfl⟩
  rw [hP] at j1 HT hs h16
  rw [hS] at j2 HM hs ⊢
  have h1S : (1 : Int) < S := by omega
  have hSb : (S : Int) ≤ 131072 := by omega
  have hS0 : (0 : Int) ≤ S := by omega
  have HSS := Lib.hid hS
  have hmk := make_ord S (by omega) (w.alloc (.cells #[.int .i64 0, .slice none 0 0] 51))
  clear e hP hs hS h16
  go_enter Tryd.func28, Tryd.ntmps28
  go_wp2
  clear hmk
  have A0 := ((Blk.new w 51 #[.int .i64 0, .slice none 0 0]).alloc (.cells (madeCells #[.int .u32 0] S) 69)).alloc (.cells #[.int .i64 (N : Int), .slice (some ⟨w.heap.size + 1, 0, none⟩) S S] 51)
  have A1 := (Blk.new (w.alloc (.cells #[.int .i64 0, .slice none 0 0] 51)) 69 (madeCells #[.int .u32 0] S)).alloc (.cells #[.int .i64 (N : Int), .slice (some ⟨w.heap.size + 1, 0, none⟩) S S] 51)
  have A2 := Blk.new ((w.alloc (.cells #[.int .i64 0, .slice none 0 0] 51)).alloc (.cells (madeCells #[.int .u32 0] S) 69)) 51 #[.int .i64 (N : Int), .slice (some ⟨w.heap.size + 1, 0, none⟩) S S]
  have A3 := (((Below.refl _ w).alloc (Nat.le_refl _) (.cells #[.int .i64 0, .slice none 0 0] 51)).alloc (by simp) (.cells (madeCells #[.int .u32 0] S) 69)).alloc (by simp; omega) (.cells #[.int .i64 (N : Int), .slice (some ⟨w.heap.size + 1, 0, none⟩) S S] 51)
  simp only [World.size_alloc] at A1 A2
  obtain ⟨w1, hw1⟩ : ∃ x, (((w.alloc (.cells #[.int .i64 0, .slice none 0 0] 51)).alloc (.cells (madeCells #[.int .u32 0] S) 69)).alloc (.cells #[.int .i64 (N : Int), .slice (some ⟨w.heap.size + 1, 0, none⟩) S S] 51)) = x := ⟨_, rfl⟩
  rw [hw1] at A0 A1 A2 A3 ⊢
  clear hw1
  rw [HM.out] at A1
  have HA0 := Lib.hid A0
  have HA1 := Lib.hid A1
  have HA2 := Lib.hid A2
  have HA3 := Lib.hid A3
  obtain ⟨c0, c1⟩ := cells2 A2
  have HC := Lib.hid (And.intro c0 c1)
  have k1 := A1.nd (i := 1) (by rw [HSS.out]; omega)
  have kf := A1.frozen 1
  have f0 := A0.frozen 0
  obtain ⟨d0, d1⟩ := cells2 A0
  have f1 := A0.frozen 1
  have HK := Lib.hid (And.intro d0 (And.intro d1 (And.intro f0 f1)))
  clear A0 A1 A2 A3 c0 c1 d0 d1 f0 f1
  refine wp_region_held_drew (S := (fun W => W.cell? ⟨w.heap.size + 1 + 1, 0, none⟩ = some (.int .i64 (N : Int)) ∧ W.cell? ⟨w.heap.size + 1 + 1, 1, none⟩ = some (.slice (some ⟨w.heap.size + 1, 0, none⟩) S S))) (by kernel_rfl) ?_ (fun hHeld => ?_)
  · (exact HC.out)
  refine wpAnyH_take (i := 0) (oi := { dst := some 9, op := Go.Op.fieldAddr 51 (Go.Operand.tmp 3) 1, type := 0, pos := "tree.go:26", after := #[], guard := none }) (v := ?_) rfl (by kernel_rfl) (by kernel_rfl) (by kernel_rfl) (fun _ _ _ h => h) (Or.inl ⟨by rfl, ?_⟩) (by assumption) ?_
  rotate_left
  · intro w hSw
    (try dsimp only at hSw)
    go_simp
    try (with_reducible rfl)
  try simp only [Act.put, List.setIfInBounds_toArray, List.set_cons_zero, List.set_cons_succ]
  refine wpAnyH_take (i := 1) (oi := { dst := some 10, op := Go.Op.load 49 (Go.Operand.tmp 9), type := 49, pos := "tree.go:26", after := #[{ on := 0, ground := Go.Ground.data }], guard := none }) (v := ?_) rfl (by kernel_rfl) (by kernel_rfl) (by kernel_rfl) (fun _ _ _ h => h) (Or.inl ⟨by rfl, ?_⟩) (by assumption) ?_
  rotate_left
  · intro w hSw
    (try dsimp only at hSw)
    go_simp
    try (with_reducible rfl)
  try simp only [Act.put, List.setIfInBounds_toArray, List.set_cons_zero, List.set_cons_succ]
  refine wpAnyH_take (i := 2) (oi := { dst := some 11, op := Go.Op.move (Go.Operand.tmp 0), type := 3, pos := "tree.go:26", after := #[], guard := none }) (v := ?_) rfl (by kernel_rfl) (by kernel_rfl) (by kernel_rfl) (fun _ _ _ h => h) (Or.inl ⟨by rfl, ?_⟩) (by assumption) ?_
  rotate_left
  · intro w hSw
    (try dsimp only at hSw)
    go_simp
    try (with_reducible rfl)
  try simp only [Act.put, List.setIfInBounds_toArray, List.set_cons_zero, List.set_cons_succ]
  refine wpAnyH_take (i := 3) (oi := { dst := some 12, op := Go.Op.binOp Go.BinOp.shl 69 (Go.Operand.const (Go.Value.int Go.IntKind.u32 1)) (Go.Operand.tmp 11) 3, type := 69, pos := "tree.go:26", after := #[{ on := 2, ground := Go.Ground.data }], guard := none }) (v := ?_) rfl (by kernel_rfl) (by kernel_rfl) (by kernel_rfl) (fun _ _ _ h => h) (Or.inl ⟨by rfl, ?_⟩) (by assumption) ?_
  rotate_left
  · intro w hSw
    (try dsimp only at hSw)
    go_simp
    try (with_reducible rfl)
  try simp only [Act.put, List.setIfInBounds_toArray, List.set_cons_zero, List.set_cons_succ]
  refine wpAnyH_take (i := 4) (oi := { dst := some 13, op := Go.Op.indexAddr 49 (Go.Operand.tmp 10) (Go.Operand.const (Go.Value.int Go.IntKind.i64 1)), type := 0, pos := "tree.go:26", after := #[{ on := 1, ground := Go.Ground.data }, { on := 0, ground := Go.Ground.phase }, { on := 1, ground := Go.Ground.phase }, { on := 2, ground := Go.Ground.phase }, { on := 3, ground := Go.Ground.phase }], guard := none }) (v := ?_) rfl (by kernel_rfl) (by kernel_rfl) (by kernel_rfl) (fun _ _ _ h => h) (Or.inl ⟨by rfl, ?_⟩) (by assumption) ?_
  rotate_left
  · intro w hSw
    (try dsimp only at hSw)
    go_simp
    try (with_reducible rfl)
  try simp only [Act.put, List.setIfInBounds_toArray, List.set_cons_zero, List.set_cons_succ]
  refine wpAnyH_ready (rs := [5]) (by kernel_rfl) (by simp) ?_
  refine AllReadyH.cons (o := { dst := none, op := Go.Op.store 69 (Go.Operand.tmp 13) (Go.Operand.tmp 12), type := 0, pos := "tree.go:26", after := #[{ on := 4, ground := Go.Ground.data }, { on := 3, ground := Go.Ground.data }, { on := 0, ground := Go.Ground.phase }, { on := 1, ground := Go.Ground.phase }, { on := 2, ground := Go.Ground.phase }, { on := 3, ground := Go.Ground.phase }], guard := none }) rfl (fun K hK => ?_) AllReadyH.nil
  go_simp
  refine hK.out _ _ ?_ (fun hHeld => ?_)
  · ((try dsimp only); exact ⟨(World.cell?_setCell_other _ _ _ _ (fun e => by injection e with e1; omega)).trans HC.out.1, (World.cell?_setCell_other _ _ _ _ (fun e => by injection e with e1; omega)).trans HC.out.2⟩)
  clear hK K
  try simp only [Act.put, List.setIfInBounds_toArray, List.set_cons_zero, List.set_cons_succ]
  refine wpAnyH_done (by kernel_rfl) ?_ _
  have B0 := (HA0.out.far (p := ⟨w.heap.size + 1, 1, none⟩) (by simp) (.int .u32 (P : Int))).drew
  have B1 := (HA1.out.ndset 1 P).drew
  have B2 := (HA2.out.far (p := ⟨w.heap.size + 1, 1, none⟩) (by simp) (.int .u32 (P : Int))).drew
  have B3 := (HA3.out.setCell (p := ⟨w.heap.size + 1, 1, none⟩) (by simp) (.int .u32 (P : Int))).drew
  obtain ⟨w2, hw2⟩ : ∃ x, (w1.setCell ⟨w.heap.size + 1, 1, none⟩ (.int .u32 (P : Int))).drew = x := ⟨_, rfl⟩
  rw [hw2] at B0 B1 B2 B3 ⊢
  clear hw2 k1 kf
  have HB1 := Lib.hid B1
  have HB3 := Lib.hid B3
  obtain ⟨c0, c1⟩ := cells2 B2
  obtain ⟨d0, d1⟩ := cells2 B0
  have f0 := B0.frozen 0
  have f1 := B0.frozen 1
  have HB0 := Lib.hid B0
  clear B0 B1 B2 B3
  go_wp2
  have B4 := (HB0.out.set_ 0 (.int .i64 (N : Int))).set_ 1 (.slice (some ⟨w.heap.size + 1, 0, none⟩) S S)
  have B5 := (HB1.out.far (p := ⟨w.heap.size, 0, none⟩) (by simp) (.int .i64 (N : Int))).far (p := ⟨w.heap.size, 1, none⟩) (by simp) (.slice (some ⟨w.heap.size + 1, 0, none⟩) S S)
  have B6 := (HB3.out.setCell (p := ⟨w.heap.size, 0, none⟩) (by simp) (.int .i64 (N : Int))).setCell (p := ⟨w.heap.size, 1, none⟩) (by simp) (.slice (some ⟨w.heap.size + 1, 0, none⟩) S S)
  obtain ⟨w3, hw3⟩ : ∃ x, ((w2.setCell ⟨w.heap.size, 0, none⟩ (.int .i64 (N : Int))).setCell ⟨w.heap.size, 1, none⟩ (.slice (some ⟨w.heap.size + 1, 0, none⟩) S S)) = x := ⟨_, rfl⟩
  rw [hw3] at B4 B5 B6 ⊢
  clear hw3
  have g0 := (B4.cell 0).trans (show _ = some (Value.int .i64 (N : Int)) by rfl)
  have g1 := (B4.cell 1).trans (show _ = some (Value.slice (some ⟨w.heap.size + 1, 0, none⟩) S S) by rfl)
  exact bodyPost_ret (v := .agg #[.int .i64 (N : Int), .slice (some ⟨w.heap.size + 1, 0, none⟩) S S]) (by simp [results, Tryd.results28, go_sem, g0, g1]) rfl ⟨w.heap.size + 1, _, rfl, by omega, B5, HT.out, B6⟩
end Go.Proofs.YtiocdojdncomhaaDoor
