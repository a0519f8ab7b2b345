/-
  The document's own Halves of any range.
-/
import Derived.Test.YtecgmejfkfoceaaDoorPRVl
import Derived.Test.YtecgmejfkfoceaaDoorPHw
namespace Go.Proofs.YtecgmejfkfoceaaDoor
open Go.RowKit
set_option linter.unusedVariables false

/-- The bits of the upper half. -/
theorem up_bits (n W m : Nat) (h : m < W) : IsBits (ct n (W - m) + 2 ^ (W - m - 1)) W ((bl n W m).set m 1) := by
  refine ⟨by rw [List.length_set, bl_len], fun i hi => ?_⟩
  rw [bt_up n W m i h hi, List.getElem?_set]
  by_cases e : m = i
  · subst e
    rw [if_pos rfl, if_pos (by rw [bl_len]; exact h), if_neg (by omega), if_pos rfl]
    rfl
  · rw [if_neg e, bl_get n W m i hi]
    by_cases h1 : i < m
    · rw [if_pos h1, if_pos h1]
    · rw [if_neg h1, if_neg h1, if_neg (fun x => e x.symm)]
      rfl

set_option maxRecDepth 100000 in
set_option maxHeartbeats 4000000 in
theorem rhv_bad (s : Bool) (h l : Nat) (b : Int) (hh : N64 h) (hl : N64 l) (hp : pvl s h l b = false) (w : World) :
    Calls Tryd.prog 28 #[pfx s h l b] w fun e w' => e = .returned (.tuple #[pfx false 0 0 0, pfx false 0 0 0, .int .i64 1]) ∧ Below w.heap.size w w' := by
  have HV := Lib.hid (fun w => rpvalid_at s h l b hh hl hp w)
  clear hp
  go_enter Tryd.func28, Tryd.ntmps28
  go_wp2_with fail
  refine Calls.mono (HV.out _) ?_
  rintro e w1 ⟨rfl, hb⟩
  have K1 := Lib.hid ((((Blk.new w 26 #[.bool s, .int .u64 h, .int .u64 l, .int .i64 b]).alloc (.cells #[.bool false, .int .u64 0, .int .u64 0, .int .i64 0] 26)).alloc (.cells #[.bool false, .int .u64 0, .int .u64 0, .int .i64 0] 26)).below hb (by simp only [World.size_alloc]; omega))
  have M1 := Lib.hid (((Blk.new (w.alloc (.cells #[.bool s, .int .u64 h, .int .u64 l, .int .i64 b] 26)) 26 #[.bool false, .int .u64 0, .int .u64 0, .int .i64 0]).alloc (.cells #[.bool false, .int .u64 0, .int .u64 0, .int .i64 0] 26)).below hb (by simp only [World.size_alloc]; omega))
  have N1 := Lib.hid ((Blk.new ((w.alloc (.cells #[.bool s, .int .u64 h, .int .u64 l, .int .i64 b] 26)).alloc (.cells #[.bool false, .int .u64 0, .int .u64 0, .int .i64 0] 26)) 26 #[.bool false, .int .u64 0, .int .u64 0, .int .i64 0]).below hb (by simp only [World.size_alloc]; omega))
  rw [World.size_alloc] at M1
  rw [World.size_alloc, World.size_alloc] at N1
  have L1 := Lib.hid (((((Below.refl _ w).alloc (Nat.le_refl _) _).alloc (by simp) _).alloc (by simp only [World.size_alloc]; omega) _).trans (hb.mono (by simp only [World.size_alloc]; omega)))
  have s1 : w.heap.size + 2 < w1.heap.size := by have := hb.size; simp only [World.size_alloc] at this; omega
  clear hb
  have HC : Hid (∀ W', Below w1.heap.size w1 W' → W'.cell? ⟨w.heap.size, 0, none⟩ = some (.bool s) ∧ W'.cell? ⟨w.heap.size, 1, none⟩ = some (.int .u64 h) ∧ W'.cell? ⟨w.heap.size, 2, none⟩ = some (.int .u64 l) ∧ W'.cell? ⟨w.heap.size, 3, none⟩ = some (.int .i64 b)) := by
    show ∀ W', _ → _
    intro W' hB
    exact (K1.out.below hB K1.out.lt).c4
  have hR : Below w1.heap.size w1 w1.drew := (Below.refl _ _).drew
  go_wp2
  refine wp_region_held_drew (S := (fun w' => w'.cell? ⟨w.heap.size, 0, none⟩ = some (.bool s) ∧ w'.cell? ⟨w.heap.size, 1, none⟩ = some (.int .u64 h) ∧ w'.cell? ⟨w.heap.size, 2, none⟩ = some (.int .u64 l) ∧ w'.cell? ⟨w.heap.size, 3, none⟩ = some (.int .i64 b))) (by kernel_rfl) ?_ (fun hHeld => ?_)
  · exact HC.out _ hR
  refine wpAnyH_take (i := 0) (oi := { dst := some 10, op := Go.Op.move (Go.Operand.tmp 5), type := 4, pos := "ref.go:97", after := #[], guard := none }) (v := ?_) rfl (by kernel_rfl) (by kernel_rfl) (by kernel_rfl) (fun _ _ _ h => h) (Or.inl ⟨by rfl, ?_⟩) (by assumption) ?_
  rotate_left
  · intro w hSw
    (try dsimp only at hSw)
    go_simp
    try (with_reducible rfl)
  try simp only [Act.put, List.setIfInBounds_toArray, List.set_cons_zero, List.set_cons_succ]
  refine wpAnyH_take (i := 1) (oi := { dst := some 11, op := Go.Op.unOp Go.UnOp.not 4 (Go.Operand.tmp 10), type := 4, pos := "ref.go:97", after := #[{ on := 0, ground := Go.Ground.data }], guard := none }) (v := ?_) rfl (by kernel_rfl) (by kernel_rfl) (by kernel_rfl) (fun _ _ _ h => h) (Or.inl ⟨by rfl, ?_⟩) (by assumption) ?_
  rotate_left
  · intro w hSw
    (try dsimp only at hSw)
    go_simp
    try (with_reducible rfl)
  try simp only [Act.put, List.setIfInBounds_toArray, List.set_cons_zero, List.set_cons_succ]
  refine wpAnyH_take (i := 2) (oi := { dst := some 12, op := Go.Op.move (Go.Operand.tmp 11), type := 4, pos := "ref.go:97", after := #[{ on := 1, ground := Go.Ground.data }], guard := none }) (v := ?_) rfl (by kernel_rfl) (by kernel_rfl) (by kernel_rfl) (fun _ _ _ h => h) (Or.inl ⟨by rfl, ?_⟩) (by assumption) ?_
  rotate_left
  · intro w hSw
    (try dsimp only at hSw)
    go_simp
    try (with_reducible rfl)
  try simp only [Act.put, List.setIfInBounds_toArray, List.set_cons_zero, List.set_cons_succ]
  refine wpAnyH_take (i := 3) (oi := { dst := some 13, op := Go.Op.fieldAddr 26 (Go.Operand.tmp 1) 1, type := 0, pos := "ref.go:97", after := #[{ on := 2, ground := Go.Ground.guard }], guard := some (2, false) }) (v := undef) rfl (by kernel_rfl) (by kernel_rfl) (by kernel_rfl) (fun _ _ _ h => h) (Or.inr ⟨by rfl, rfl⟩) (by assumption) ?_
  try simp only [Act.put, List.setIfInBounds_toArray, List.set_cons_zero, List.set_cons_succ]
  refine wpAnyH_take (i := 4) (oi := { dst := some 14, op := Go.Op.load 3 (Go.Operand.tmp 13), type := 3, pos := "ref.go:97", after := #[{ on := 3, ground := Go.Ground.data }, { on := 2, ground := Go.Ground.guard }], guard := some (2, false) }) (v := undef) rfl (by kernel_rfl) (by kernel_rfl) (by kernel_rfl) (fun _ _ _ h => h) (Or.inr ⟨by rfl, rfl⟩) (by assumption) ?_
  try simp only [Act.put, List.setIfInBounds_toArray, List.set_cons_zero, List.set_cons_succ]
  refine wpAnyH_take (i := 5) (oi := { dst := some 15, op := Go.Op.fieldAddr 26 (Go.Operand.tmp 1) 0, type := 0, pos := "ref.go:97", after := #[{ on := 2, ground := Go.Ground.guard }], guard := some (2, false) }) (v := undef) rfl (by kernel_rfl) (by kernel_rfl) (by kernel_rfl) (fun _ _ _ h => h) (Or.inr ⟨by rfl, rfl⟩) (by assumption) ?_
  try simp only [Act.put, List.setIfInBounds_toArray, List.set_cons_zero, List.set_cons_succ]
  refine wpAnyH_take (i := 6) (oi := { dst := some 16, op := Go.Op.load 24 (Go.Operand.tmp 15), type := 24, pos := "ref.go:97", after := #[{ on := 5, ground := Go.Ground.data }, { on := 2, ground := Go.Ground.guard }], guard := some (2, false) }) (v := undef) rfl (by kernel_rfl) (by kernel_rfl) (by kernel_rfl) (fun _ _ _ h => h) (Or.inr ⟨by rfl, rfl⟩) (by assumption) ?_
  try simp only [Act.put, List.setIfInBounds_toArray, List.set_cons_zero, List.set_cons_succ]
  refine wpAnyH_take (i := 7) (oi := { dst := some 17, op := Go.Op.call { callee := Go.Callee.value (Go.Operand.func 50), args := #[Go.Operand.tmp 16], argTypes := #[24] }, type := 3, pos := "ref.go:97", after := #[{ on := 6, ground := Go.Ground.data }, { on := 2, ground := Go.Ground.chain }, { on := 2, ground := Go.Ground.guard }], guard := some (2, false) }) (v := undef) rfl (by kernel_rfl) (by kernel_rfl) (by kernel_rfl) (fun _ _ _ h => h) (Or.inr ⟨by rfl, rfl⟩) (by assumption) ?_
  try simp only [Act.put, List.setIfInBounds_toArray, List.set_cons_zero, List.set_cons_succ]
  refine wpAnyH_take (i := 8) (oi := { dst := some 18, op := Go.Op.binOp Go.BinOp.eql 3 (Go.Operand.tmp 14) (Go.Operand.tmp 17) 3, type := 4, pos := "ref.go:97", after := #[{ on := 4, ground := Go.Ground.data }, { on := 7, ground := Go.Ground.data }, { on := 2, ground := Go.Ground.guard }], guard := some (2, false) }) (v := undef) rfl (by kernel_rfl) (by kernel_rfl) (by kernel_rfl) (fun _ _ _ h => h) (Or.inr ⟨by rfl, rfl⟩) (by assumption) ?_
  try simp only [Act.put, List.setIfInBounds_toArray, List.set_cons_zero, List.set_cons_succ]
  refine wpAnyH_take (i := 9) (oi := { dst := some 19, op := Go.Op.pick (Go.Operand.tmp 12) (Go.Operand.const (Go.Value.bool true)) (Go.Operand.tmp 18), type := 4, pos := "ref.go:97", after := #[{ on := 2, ground := Go.Ground.data }, { on := 8, ground := Go.Ground.data }], guard := none }) (v := ?_) rfl (by kernel_rfl) (by kernel_rfl) (by kernel_rfl) (fun _ _ _ h => h) (Or.inl ⟨by rfl, ?_⟩) (by assumption) ?_
  rotate_left
  · intro w hSw
    (try dsimp only at hSw)
    go_simp
    try (with_reducible rfl)
  try simp only [Act.put, List.setIfInBounds_toArray, List.set_cons_zero, List.set_cons_succ]
  refine wpAnyH_done (by kernel_rfl) ?_ _
  have L5 := Lib.hid (L1.out.trans (hR.mono L1.out.size))
  have M5 := Lib.hid (M1.out.below hR M1.out.lt)
  have N5 := Lib.hid (N1.out.below hR N1.out.lt)
  clear hR
  obtain ⟨m0, m1, m2, m3⟩ := M1.out.c4
  have a0 := M1.out.frozen 0
  have a1 := M1.out.frozen 1
  have a2 := M1.out.frozen 2
  have a3 := M1.out.frozen 3
  obtain ⟨n0, n1, n2, n3⟩ := N1.out.c4
  have c0 := N1.out.frozen 0
  have c1 := N1.out.frozen 1
  have c2 := N1.out.frozen 2
  have c3 := N1.out.frozen 3
  go_wp2
  refine bodyPost_ret (v := .tuple #[pfx false 0 0 0, pfx false 0 0 0, .int .i64 1]) (by simp [results, Tryd.results28, go_sem, m0, m1, m2, m3, n0, n1, n2, n3]) rfl ⟨rfl, ?_⟩
  refine Below.drew ?_
  iterate 8 refine Below.setCell ?_ (by first | (simp; done) | (simp; omega)) _
  exact L1.out

set_option maxRecDepth 100000 in
set_option maxHeartbeats 4000000 in
theorem rhv_full (s : Bool) (h l : Nat) (b : Int) (hh : N64 h) (hl : N64 l) (hp : pvl s h l b = true) (W : Int) (hW : (wd s : Int) = W) (hb : b = W) (w : World) :
    Calls Tryd.prog 28 #[pfx s h l b] w fun e w' => e = .returned (.tuple #[pfx false 0 0 0, pfx false 0 0 0, .int .i64 1]) ∧ Below w.heap.size w w' := by
  have HV := Lib.hid (fun w => rpvalid_at s h l b hh hl hp w)
  have HW := Lib.hid (fun w => rwidth_at s h l W hW w)
  subst hb
  have bw : (b == b) = true := by simp
  clear hp hW
  go_enter Tryd.func28, Tryd.ntmps28
  go_wp2_with fail
  refine Calls.mono (HV.out _) ?_
  rintro e w1 ⟨rfl, hb⟩
  have K1 := Lib.hid ((((Blk.new w 26 #[.bool s, .int .u64 h, .int .u64 l, .int .i64 b]).alloc (.cells #[.bool false, .int .u64 0, .int .u64 0, .int .i64 0] 26)).alloc (.cells #[.bool false, .int .u64 0, .int .u64 0, .int .i64 0] 26)).below hb (by simp only [World.size_alloc]; omega))
  have M1 := Lib.hid (((Blk.new (w.alloc (.cells #[.bool s, .int .u64 h, .int .u64 l, .int .i64 b] 26)) 26 #[.bool false, .int .u64 0, .int .u64 0, .int .i64 0]).alloc (.cells #[.bool false, .int .u64 0, .int .u64 0, .int .i64 0] 26)).below hb (by simp only [World.size_alloc]; omega))
  have N1 := Lib.hid ((Blk.new ((w.alloc (.cells #[.bool s, .int .u64 h, .int .u64 l, .int .i64 b] 26)).alloc (.cells #[.bool false, .int .u64 0, .int .u64 0, .int .i64 0] 26)) 26 #[.bool false, .int .u64 0, .int .u64 0, .int .i64 0]).below hb (by simp only [World.size_alloc]; omega))
  rw [World.size_alloc] at M1
  rw [World.size_alloc, World.size_alloc] at N1
  have L1 := Lib.hid (((((Below.refl _ w).alloc (Nat.le_refl _) _).alloc (by simp) _).alloc (by simp only [World.size_alloc]; omega) _).trans (hb.mono (by simp only [World.size_alloc]; omega)))
  have s1 : w.heap.size + 2 < w1.heap.size := by have := hb.size; simp only [World.size_alloc] at this; omega
  clear hb
  have HC : Hid (∀ W', Below w1.heap.size w1 W' → W'.cell? ⟨w.heap.size, 0, none⟩ = some (.bool s) ∧ W'.cell? ⟨w.heap.size, 1, none⟩ = some (.int .u64 h) ∧ W'.cell? ⟨w.heap.size, 2, none⟩ = some (.int .u64 l) ∧ W'.cell? ⟨w.heap.size, 3, none⟩ = some (.int .i64 b)) := by
    show ∀ W', _ → _
    intro W' hB
    exact (K1.out.below hB K1.out.lt).c4
  have hR : Below w1.heap.size w1 w1.drew := (Below.refl _ _).drew
  go_wp2
  refine wp_region_held_drew (S := (fun w' => w'.cell? ⟨w.heap.size, 0, none⟩ = some (.bool s) ∧ w'.cell? ⟨w.heap.size, 1, none⟩ = some (.int .u64 h) ∧ w'.cell? ⟨w.heap.size, 2, none⟩ = some (.int .u64 l) ∧ w'.cell? ⟨w.heap.size, 3, none⟩ = some (.int .i64 b))) (by kernel_rfl) ?_ (fun hHeld => ?_)
  · exact HC.out _ hR
  refine wpAnyH_take (i := 0) (oi := { dst := some 10, op := Go.Op.move (Go.Operand.tmp 5), type := 4, pos := "ref.go:97", after := #[], guard := none }) (v := ?_) rfl (by kernel_rfl) (by kernel_rfl) (by kernel_rfl) (fun _ _ _ h => h) (Or.inl ⟨by rfl, ?_⟩) (by assumption) ?_
  rotate_left
  · intro w hSw
    (try dsimp only at hSw)
    go_simp
    try (with_reducible rfl)
  try simp only [Act.put, List.setIfInBounds_toArray, List.set_cons_zero, List.set_cons_succ]
  refine wpAnyH_take (i := 1) (oi := { dst := some 11, op := Go.Op.unOp Go.UnOp.not 4 (Go.Operand.tmp 10), type := 4, pos := "ref.go:97", after := #[{ on := 0, ground := Go.Ground.data }], guard := none }) (v := ?_) rfl (by kernel_rfl) (by kernel_rfl) (by kernel_rfl) (fun _ _ _ h => h) (Or.inl ⟨by rfl, ?_⟩) (by assumption) ?_
  rotate_left
  · intro w hSw
    (try dsimp only at hSw)
    go_simp
    try (with_reducible rfl)
  try simp only [Act.put, List.setIfInBounds_toArray, List.set_cons_zero, List.set_cons_succ]
  refine wpAnyH_take (i := 2) (oi := { dst := some 12, op := Go.Op.move (Go.Operand.tmp 11), type := 4, pos := "ref.go:97", after := #[{ on := 1, ground := Go.Ground.data }], guard := none }) (v := ?_) rfl (by kernel_rfl) (by kernel_rfl) (by kernel_rfl) (fun _ _ _ h => h) (Or.inl ⟨by rfl, ?_⟩) (by assumption) ?_
  rotate_left
  · intro w hSw
    (try dsimp only at hSw)
    go_simp
    try (with_reducible rfl)
  try simp only [Act.put, List.setIfInBounds_toArray, List.set_cons_zero, List.set_cons_succ]
  refine wpAnyH_take (i := 3) (oi := { dst := some 13, op := Go.Op.fieldAddr 26 (Go.Operand.tmp 1) 1, type := 0, pos := "ref.go:97", after := #[{ on := 2, ground := Go.Ground.guard }], guard := some (2, false) }) (v := ?_) rfl (by kernel_rfl) (by kernel_rfl) (by kernel_rfl) (fun _ _ _ h => h) (Or.inl ⟨by rfl, ?_⟩) (by assumption) ?_
  rotate_left
  · intro w hSw
    (try dsimp only at hSw)
    go_simp
    try (with_reducible rfl)
  try simp only [Act.put, List.setIfInBounds_toArray, List.set_cons_zero, List.set_cons_succ]
  refine wpAnyH_take (i := 4) (oi := { dst := some 14, op := Go.Op.load 3 (Go.Operand.tmp 13), type := 3, pos := "ref.go:97", after := #[{ on := 3, ground := Go.Ground.data }, { on := 2, ground := Go.Ground.guard }], guard := some (2, false) }) (v := ?_) rfl (by kernel_rfl) (by kernel_rfl) (by kernel_rfl) (fun _ _ _ h => h) (Or.inl ⟨by rfl, ?_⟩) (by assumption) ?_
  rotate_left
  · intro w hSw
    (try dsimp only at hSw)
    go_simp
    try (with_reducible rfl)
  try simp only [Act.put, List.setIfInBounds_toArray, List.set_cons_zero, List.set_cons_succ]
  refine wpAnyH_take (i := 5) (oi := { dst := some 15, op := Go.Op.fieldAddr 26 (Go.Operand.tmp 1) 0, type := 0, pos := "ref.go:97", after := #[{ on := 2, ground := Go.Ground.guard }], guard := some (2, false) }) (v := ?_) rfl (by kernel_rfl) (by kernel_rfl) (by kernel_rfl) (fun _ _ _ h => h) (Or.inl ⟨by rfl, ?_⟩) (by assumption) ?_
  rotate_left
  · intro w hSw
    (try dsimp only at hSw)
    go_simp
    try (with_reducible rfl)
  try simp only [Act.put, List.setIfInBounds_toArray, List.set_cons_zero, List.set_cons_succ]
  refine wpAnyH_take (i := 6) (oi := { dst := some 16, op := Go.Op.load 24 (Go.Operand.tmp 15), type := 24, pos := "ref.go:97", after := #[{ on := 5, ground := Go.Ground.data }, { on := 2, ground := Go.Ground.guard }], guard := some (2, false) }) (v := ?_) rfl (by kernel_rfl) (by kernel_rfl) (by kernel_rfl) (fun _ _ _ h => h) (Or.inl ⟨by rfl, ?_⟩) (by assumption) ?_
  rotate_left
  · intro w hSw
    (try dsimp only at hSw)
    go_simp
    try (with_reducible rfl)
  try simp only [Act.put, List.setIfInBounds_toArray, List.set_cons_zero, List.set_cons_succ]
  refine wpAnyH_ready (rs := [7]) (by kernel_rfl) (by simp) ?_
  refine AllReadyH.cons (o := { dst := some 17, op := Go.Op.call { callee := Go.Callee.value (Go.Operand.func 50), args := #[Go.Operand.tmp 16], argTypes := #[24] }, type := 3, pos := "ref.go:97", after := #[{ on := 6, ground := Go.Ground.data }, { on := 2, ground := Go.Ground.chain }, { on := 2, ground := Go.Ground.guard }], guard := some (2, false) }) rfl (fun K hK => ?_) AllReadyH.nil
  go_simp
  (go_at_call 50; (with_reducible refine Calls.mono (HW.out _) ?_); rintro e W' ⟨rfl, hb⟩; replace hR := hR.trans (hb.mono hR.size); clear hb)
  go_wp2_with fail
  refine hK.out _ _ ?_ (fun hHeld => ?_)
  · exact HC.out _ hR
  clear hK K
  try simp only [Act.put, List.setIfInBounds_toArray, List.set_cons_zero, List.set_cons_succ]
  refine wpAnyH_take (i := 8) (oi := { dst := some 18, op := Go.Op.binOp Go.BinOp.eql 3 (Go.Operand.tmp 14) (Go.Operand.tmp 17) 3, type := 4, pos := "ref.go:97", after := #[{ on := 4, ground := Go.Ground.data }, { on := 7, ground := Go.Ground.data }, { on := 2, ground := Go.Ground.guard }], guard := some (2, false) }) (v := ?_) rfl (by kernel_rfl) (by kernel_rfl) (by kernel_rfl) (fun _ _ _ h => h) (Or.inl ⟨by rfl, ?_⟩) (by assumption) ?_
  rotate_left
  · intro w hSw
    (try dsimp only at hSw)
    go_simp
    try (with_reducible rfl)
  try simp only [Act.put, List.setIfInBounds_toArray, List.set_cons_zero, List.set_cons_succ]
  refine wpAnyH_take (i := 9) (oi := { dst := some 19, op := Go.Op.pick (Go.Operand.tmp 12) (Go.Operand.const (Go.Value.bool true)) (Go.Operand.tmp 18), type := 4, pos := "ref.go:97", after := #[{ on := 2, ground := Go.Ground.data }, { on := 8, ground := Go.Ground.data }], guard := none }) (v := ?_) rfl (by kernel_rfl) (by kernel_rfl) (by kernel_rfl) (fun _ _ _ h => h) (Or.inl ⟨by rfl, ?_⟩) (by assumption) ?_
  rotate_left
  · intro w hSw
    (try dsimp only at hSw)
    go_simp
    try (with_reducible rfl)
  try simp only [Act.put, List.setIfInBounds_toArray, List.set_cons_zero, List.set_cons_succ]
  refine wpAnyH_done (by kernel_rfl) ?_ _
  have L5 := Lib.hid (L1.out.trans (hR.mono L1.out.size))
  have M5 := Lib.hid (M1.out.below hR M1.out.lt)
  have N5 := Lib.hid (N1.out.below hR N1.out.lt)
  clear hR
  obtain ⟨m0, m1, m2, m3⟩ := M5.out.c4
  have a0 := M5.out.frozen 0
  have a1 := M5.out.frozen 1
  have a2 := M5.out.frozen 2
  have a3 := M5.out.frozen 3
  obtain ⟨n0, n1, n2, n3⟩ := N5.out.c4
  have c0 := N5.out.frozen 0
  have c1 := N5.out.frozen 1
  have c2 := N5.out.frozen 2
  have c3 := N5.out.frozen 3
  go_wp2
  refine bodyPost_ret (v := .tuple #[pfx false 0 0 0, pfx false 0 0 0, .int .i64 1]) (by simp [results, Tryd.results28, go_sem, m0, m1, m2, m3, n0, n1, n2, n3]) rfl ⟨rfl, ?_⟩
  iterate 8 refine Below.setCell ?_ (by first | (simp; done) | (simp; omega)) _
  exact L5.out

set_option maxRecDepth 100000 in
set_option maxHeartbeats 4000000 in
theorem rhv_yes (s : Bool) (h l : Nat) (b : Int) (hh : N64 h) (hl : N64 l) (hp : pvl s h l b = true) (hb : b < (wd s : Int)) (w : World) :
    Calls Tryd.prog 28 #[pfx s h l b] w fun e w' => e = .returned (hvV s h l b) ∧ Below w.heap.size w w' := by
  obtain ⟨v, ok, e⟩ := (pvl_iff hl).1 hp
  obtain ⟨o1, o2⟩ := okn_iff.1 ok
  obtain ⟨u1, u2, u3, u4, u5⟩ := up_spec hh hl hp hb
  have hN := nm_wd hh hl v
  obtain ⟨m, hm⟩ := Int.eq_ofNat_of_zero_le o1
  have em : b.toNat = m := by omega
  have ek : kk s b = wd s - m := by unfold kk; rw [em]
  have mW : m < wd s := by omega
  have UB := up_bits (nm h l) (wd s) m mW
  rw [ek] at e u3
  rw [e, ← u3, ← ek] at UB
  have p1 := half_ok hh hl hp hb
  have hv2 := nm_wd u1 u2 ((pvl_iff u2).1 p1.2).1
  obtain ⟨Wn, hWn⟩ : ∃ W, W = wd s := ⟨_, rfl⟩
  have W1 : Wn ≤ 128 := by rw [hWn]; unfold wd; split <;> omega
  have HV := Lib.hid (fun w => rpvalid_at s h l b hh hl hp w)
  have HW := Lib.hid (fun w => rwidth_at s h l (Wn : Int) (by rw [hWn]) w)
  have HBt := Lib.hid (fun (i c : Nat) (hi : i < wd s) (ec : bt (nm h l) (wd s) i = c) w => rbit_any s h l i hh hl v hi ec w)
  have HO := Lib.hid (fun (w : World) (B c : Nat) (A : Option Addr) zs hz hB hb => rof_any s (upH h (kk s b)) (upL l (kk s b)) u1 u2 hv2 w B c A zs hz hB hb)
  have eR : hvV s h l b = .tuple #[pfx s h l (b + 1), pfx s (upH h (kk s b) : Nat) (upL l (kk s b) : Nat) (b + 1), .int .i64 0] := by
    unfold hvV
    rw [hp, if_pos (by simp; omega)]
  rw [eR]
  obtain ⟨A, hA⟩ : ∃ A, ((upH h (kk s b) : Nat) : Int) = A := ⟨_, rfl⟩
  obtain ⟨B, hB⟩ : ∃ B, ((upL l (kk s b) : Nat) : Int) = B := ⟨_, rfl⟩
  rw [hA, hB] at HO
  rw [hA, hB]
  rw [← hWn] at HBt HO UB mW
  obtain ⟨N, hN2⟩ : ∃ N, N = nm h l := ⟨_, rfl⟩
  have hHB : Hid (∀ (i c : Nat), i < Wn → bt N Wn i = c → ∀ w, Calls Tryd.prog 16 #[adr s h l, .int .i64 i] w fun e w' => e = .returned (.int .i64 c) ∧ Below w.heap.size w w') := by rw [hN2]; exact HBt
  rw [← hN2] at UB
  have HUB := Lib.hid UB
  have i1 : IntKind.i64.wrap (b + 1) = b + 1 := by rw [IntKind.wrap_i64]; omega
  have b127 : b ≤ 127 := by omega
  have HM := Lib.hid hm
  have bw : (b == (Wn : Int)) = false := by simp; omega
  have HMW := Lib.hid mW
  clear HBt UB hWn hN hA hB hN2 e u1 u2 u3 u4 u5 p1 hv2 v ok ek em hp eR o2 hb mW hm hh hl
  go_enter Tryd.func28, Tryd.ntmps28
  go_wp2_with fail
  refine Calls.mono (HV.out _) ?_
  rintro e w1 ⟨rfl, hb⟩
  have K1 := Lib.hid ((((Blk.new w 26 #[.bool s, .int .u64 h, .int .u64 l, .int .i64 b]).alloc (.cells #[.bool false, .int .u64 0, .int .u64 0, .int .i64 0] 26)).alloc (.cells #[.bool false, .int .u64 0, .int .u64 0, .int .i64 0] 26)).below hb (by simp only [World.size_alloc]; omega))
  have M1 := Lib.hid (((Blk.new (w.alloc (.cells #[.bool s, .int .u64 h, .int .u64 l, .int .i64 b] 26)) 26 #[.bool false, .int .u64 0, .int .u64 0, .int .i64 0]).alloc (.cells #[.bool false, .int .u64 0, .int .u64 0, .int .i64 0] 26)).below hb (by simp only [World.size_alloc]; omega))
  have N1 := Lib.hid ((Blk.new ((w.alloc (.cells #[.bool s, .int .u64 h, .int .u64 l, .int .i64 b] 26)).alloc (.cells #[.bool false, .int .u64 0, .int .u64 0, .int .i64 0] 26)) 26 #[.bool false, .int .u64 0, .int .u64 0, .int .i64 0]).below hb (by simp only [World.size_alloc]; omega))
  rw [World.size_alloc] at M1
  rw [World.size_alloc, World.size_alloc] at N1
  have L1 := Lib.hid (((((Below.refl _ w).alloc (Nat.le_refl _) _).alloc (by simp) _).alloc (by simp only [World.size_alloc]; omega) _).trans (hb.mono (by simp only [World.size_alloc]; omega)))
  have s1 : w.heap.size + 2 < w1.heap.size := by have := hb.size; simp only [World.size_alloc] at this; omega
  clear hb
  have HC : Hid (∀ W', Below w1.heap.size w1 W' → W'.cell? ⟨w.heap.size, 0, none⟩ = some (.bool s) ∧ W'.cell? ⟨w.heap.size, 1, none⟩ = some (.int .u64 h) ∧ W'.cell? ⟨w.heap.size, 2, none⟩ = some (.int .u64 l) ∧ W'.cell? ⟨w.heap.size, 3, none⟩ = some (.int .i64 b)) := by
    show ∀ W', _ → _
    intro W' hB
    exact (K1.out.below hB K1.out.lt).c4
  have hR : Below w1.heap.size w1 w1.drew := (Below.refl _ _).drew
  have I1 := Lib.hid i1
  clear i1
  go_wp2
  refine wp_region_held_drew (S := (fun w' => w'.cell? ⟨w.heap.size, 0, none⟩ = some (.bool s) ∧ w'.cell? ⟨w.heap.size, 1, none⟩ = some (.int .u64 h) ∧ w'.cell? ⟨w.heap.size, 2, none⟩ = some (.int .u64 l) ∧ w'.cell? ⟨w.heap.size, 3, none⟩ = some (.int .i64 b))) (by kernel_rfl) ?_ (fun hHeld => ?_)
  · exact HC.out _ hR
  refine wpAnyH_take (i := 0) (oi := { dst := some 10, op := Go.Op.move (Go.Operand.tmp 5), type := 4, pos := "ref.go:97", after := #[], guard := none }) (v := ?_) rfl (by kernel_rfl) (by kernel_rfl) (by kernel_rfl) (fun _ _ _ h => h) (Or.inl ⟨by rfl, ?_⟩) (by assumption) ?_
  rotate_left
  · intro w hSw
    (try dsimp only at hSw)
    go_simp
    try (with_reducible rfl)
  try simp only [Act.put, List.setIfInBounds_toArray, List.set_cons_zero, List.set_cons_succ]
  refine wpAnyH_take (i := 1) (oi := { dst := some 11, op := Go.Op.unOp Go.UnOp.not 4 (Go.Operand.tmp 10), type := 4, pos := "ref.go:97", after := #[{ on := 0, ground := Go.Ground.data }], guard := none }) (v := ?_) rfl (by kernel_rfl) (by kernel_rfl) (by kernel_rfl) (fun _ _ _ h => h) (Or.inl ⟨by rfl, ?_⟩) (by assumption) ?_
  rotate_left
  · intro w hSw
    (try dsimp only at hSw)
    go_simp
    try (with_reducible rfl)
  try simp only [Act.put, List.setIfInBounds_toArray, List.set_cons_zero, List.set_cons_succ]
  refine wpAnyH_take (i := 2) (oi := { dst := some 12, op := Go.Op.move (Go.Operand.tmp 11), type := 4, pos := "ref.go:97", after := #[{ on := 1, ground := Go.Ground.data }], guard := none }) (v := ?_) rfl (by kernel_rfl) (by kernel_rfl) (by kernel_rfl) (fun _ _ _ h => h) (Or.inl ⟨by rfl, ?_⟩) (by assumption) ?_
  rotate_left
  · intro w hSw
    (try dsimp only at hSw)
    go_simp
    try (with_reducible rfl)
  try simp only [Act.put, List.setIfInBounds_toArray, List.set_cons_zero, List.set_cons_succ]
  refine wpAnyH_take (i := 3) (oi := { dst := some 13, op := Go.Op.fieldAddr 26 (Go.Operand.tmp 1) 1, type := 0, pos := "ref.go:97", after := #[{ on := 2, ground := Go.Ground.guard }], guard := some (2, false) }) (v := ?_) rfl (by kernel_rfl) (by kernel_rfl) (by kernel_rfl) (fun _ _ _ h => h) (Or.inl ⟨by rfl, ?_⟩) (by assumption) ?_
  rotate_left
  · intro w hSw
    (try dsimp only at hSw)
    go_simp
    try (with_reducible rfl)
  try simp only [Act.put, List.setIfInBounds_toArray, List.set_cons_zero, List.set_cons_succ]
  refine wpAnyH_take (i := 4) (oi := { dst := some 14, op := Go.Op.load 3 (Go.Operand.tmp 13), type := 3, pos := "ref.go:97", after := #[{ on := 3, ground := Go.Ground.data }, { on := 2, ground := Go.Ground.guard }], guard := some (2, false) }) (v := ?_) rfl (by kernel_rfl) (by kernel_rfl) (by kernel_rfl) (fun _ _ _ h => h) (Or.inl ⟨by rfl, ?_⟩) (by assumption) ?_
  rotate_left
  · intro w hSw
    (try dsimp only at hSw)
    go_simp
    try (with_reducible rfl)
  try simp only [Act.put, List.setIfInBounds_toArray, List.set_cons_zero, List.set_cons_succ]
  refine wpAnyH_take (i := 5) (oi := { dst := some 15, op := Go.Op.fieldAddr 26 (Go.Operand.tmp 1) 0, type := 0, pos := "ref.go:97", after := #[{ on := 2, ground := Go.Ground.guard }], guard := some (2, false) }) (v := ?_) rfl (by kernel_rfl) (by kernel_rfl) (by kernel_rfl) (fun _ _ _ h => h) (Or.inl ⟨by rfl, ?_⟩) (by assumption) ?_
  rotate_left
  · intro w hSw
    (try dsimp only at hSw)
    go_simp
    try (with_reducible rfl)
  try simp only [Act.put, List.setIfInBounds_toArray, List.set_cons_zero, List.set_cons_succ]
  refine wpAnyH_take (i := 6) (oi := { dst := some 16, op := Go.Op.load 24 (Go.Operand.tmp 15), type := 24, pos := "ref.go:97", after := #[{ on := 5, ground := Go.Ground.data }, { on := 2, ground := Go.Ground.guard }], guard := some (2, false) }) (v := ?_) rfl (by kernel_rfl) (by kernel_rfl) (by kernel_rfl) (fun _ _ _ h => h) (Or.inl ⟨by rfl, ?_⟩) (by assumption) ?_
  rotate_left
  · intro w hSw
    (try dsimp only at hSw)
    go_simp
    try (with_reducible rfl)
  try simp only [Act.put, List.setIfInBounds_toArray, List.set_cons_zero, List.set_cons_succ]
  refine wpAnyH_ready (rs := [7]) (by kernel_rfl) (by simp) ?_
  refine AllReadyH.cons (o := { dst := some 17, op := Go.Op.call { callee := Go.Callee.value (Go.Operand.func 50), args := #[Go.Operand.tmp 16], argTypes := #[24] }, type := 3, pos := "ref.go:97", after := #[{ on := 6, ground := Go.Ground.data }, { on := 2, ground := Go.Ground.chain }, { on := 2, ground := Go.Ground.guard }], guard := some (2, false) }) rfl (fun K hK => ?_) AllReadyH.nil
  go_simp
  (go_at_call 50; (with_reducible refine Calls.mono (HW.out _) ?_); rintro e W' ⟨rfl, hb⟩; replace hR := hR.trans (hb.mono hR.size); clear hb)
  go_wp2_with fail
  refine hK.out _ _ ?_ (fun hHeld => ?_)
  · exact HC.out _ hR
  clear hK K
  try simp only [Act.put, List.setIfInBounds_toArray, List.set_cons_zero, List.set_cons_succ]
  refine wpAnyH_take (i := 8) (oi := { dst := some 18, op := Go.Op.binOp Go.BinOp.eql 3 (Go.Operand.tmp 14) (Go.Operand.tmp 17) 3, type := 4, pos := "ref.go:97", after := #[{ on := 4, ground := Go.Ground.data }, { on := 7, ground := Go.Ground.data }, { on := 2, ground := Go.Ground.guard }], guard := some (2, false) }) (v := ?_) rfl (by kernel_rfl) (by kernel_rfl) (by kernel_rfl) (fun _ _ _ h => h) (Or.inl ⟨by rfl, ?_⟩) (by assumption) ?_
  rotate_left
  · intro w hSw
    (try dsimp only at hSw)
    go_simp
    try (with_reducible rfl)
  try simp only [Act.put, List.setIfInBounds_toArray, List.set_cons_zero, List.set_cons_succ]
  refine wpAnyH_take (i := 9) (oi := { dst := some 19, op := Go.Op.pick (Go.Operand.tmp 12) (Go.Operand.const (Go.Value.bool true)) (Go.Operand.tmp 18), type := 4, pos := "ref.go:97", after := #[{ on := 2, ground := Go.Ground.data }, { on := 8, ground := Go.Ground.data }], guard := none }) (v := ?_) rfl (by kernel_rfl) (by kernel_rfl) (by kernel_rfl) (fun _ _ _ h => h) (Or.inl ⟨by rfl, ?_⟩) (by assumption) ?_
  rotate_left
  · intro w hSw
    (try dsimp only at hSw)
    go_simp
    try (with_reducible rfl)
  try simp only [Act.put, List.setIfInBounds_toArray, List.set_cons_zero, List.set_cons_succ]
  refine wpAnyH_done (by kernel_rfl) ?_ _
  have K2 := Lib.hid (K1.out.below hR K1.out.lt)
  have M2 := Lib.hid (M1.out.below hR M1.out.lt)
  have N2 := Lib.hid (N1.out.below hR N1.out.lt)
  have L2 := Lib.hid (L1.out.trans (hR.mono L1.out.size))
  clear hR HC hHeld bw
  obtain ⟨f0, f1, f2, f3⟩ := K2.out.c4
  go_wp2_with fail
  refine Calls.mono (HW.out _) ?_
  rintro e w3 ⟨rfl, hb⟩
  clear f0 f1 f2 f3
  have K3 := Lib.hid (K2.out.below hb K2.out.lt)
  have M3 := Lib.hid (M2.out.below hb M2.out.lt)
  have N3 := Lib.hid (N2.out.below hb N2.out.lt)
  have L3 := Lib.hid (L2.out.trans (hb.mono L2.out.size))
  clear hb
  have hmk := make_ints Wn (by omega) w3
  rw [made_ints, bl_zero N Wn] at hmk
  have K4 := Lib.hid (K3.out.alloc (.cells ((bl N Wn 0).map (Value.int .i64)).toArray 3))
  have M4 := Lib.hid (M3.out.alloc (.cells ((bl N Wn 0).map (Value.int .i64)).toArray 3))
  have N4 := Lib.hid (N3.out.alloc (.cells ((bl N Wn 0).map (Value.int .i64)).toArray 3))
  have G4 := Lib.hid (Blk.new w3 3 ((bl N Wn 0).map (Value.int .i64)).toArray)
  have L4 := Lib.hid (L3.out.alloc L3.out.size (.cells ((bl N Wn 0).map (Value.int .i64)).toArray 3))
  have s4 : w.heap.size + 1 + 1 < w3.heap.size := N3.out.lt
  generalize w3.alloc (.cells ((bl N Wn 0).map (Value.int .i64)).toArray 3) = w4 at hmk K4 M4 N4 G4 L4
  go_wp2
  generalize w3.heap.size = g at *
  clear hmk
  go_loopw [7] (fun i wr => ∃ k : Nat, k ≤ m ∧ i = .int .i64 (k : Int) ∧ Blk wr g 3 ((bl N Wn k).map (Value.int .i64)).toArray ∧ Blk wr w.heap.size 26 #[.bool s, .int .u64 h, .int .u64 l, .int .i64 b] ∧ Blk wr (w.heap.size + 1) 26 #[.bool false, .int .u64 0, .int .u64 0, .int .i64 0] ∧ Blk wr (w.heap.size + 1 + 1) 26 #[.bool false, .int .u64 0, .int .u64 0, .int .i64 0] ∧ Below w.heap.size w wr) (fun i _ => (m - intOf i).toNat)
  case atStart => exact ⟨0, by omega, rfl, G4.out, K4.out, M4.out, N4.out, L4.out⟩
  case round =>
    obtain ⟨k, hk, rfl, hg, hkk, hmm, hnn, hbel⟩ := hrel
    have HG := Lib.hid hg
    have HK := Lib.hid hkk
    have HMm := Lib.hid hmm
    have HNn := Lib.hid hnn
    have HL := Lib.hid hbel
    obtain ⟨f0, f1, f2, f3⟩ := hkk.c4
    have mWn := HMW.out
    have hm := HM.out
    clear hg hkk hmm hnn hbel
    by_cases hlt : k < m
    · obtain ⟨c, hc⟩ : ∃ c, bt N Wn k = c := ⟨_, rfl⟩
      have HBk := Lib.hid (hHB.out k c (by omega) hc)
      have HBt := Lib.hid hc
      have kW2 : (k : Int) < Wn := by omega
      have kb : (k : Int) < b := by omega
      clear hc hm
      go_wp2_with fail
      refine Calls.mono (HBk.out _) ?_
      rintro e w5 ⟨rfl, hb⟩
      clear f0 f1 f2 f3
      have G5 := Lib.hid (HG.out.below hb HG.out.lt)
      have K5 := Lib.hid (HK.out.below hb HK.out.lt)
      have M5 := Lib.hid (HMm.out.below hb HMm.out.lt)
      have N5 := Lib.hid (HNn.out.below hb HNn.out.lt)
      have L5 := Lib.hid (HL.out.trans (hb.mono HL.out.size))
      clear hb
      have gc : w5.cell? ⟨g, k, none⟩ = some (.int .i64 ((if k < k then ((bt N Wn k : Nat) : Int) else 0))) := by
        rw [G5.out.cell]
        simp [bl_get N Wn k k (by omega)]
      have gz := G5.out.frozen k
      go_wp2
      have G6 := Lib.hid (G5.out.set_ k (.int .i64 c))
      have e4 := bl_set N Wn k (by omega)
      rw [HBt.out] at e4
      rw [e4] at G6
      have K6 := Lib.hid (K5.out.far (p := ⟨g, k, none⟩) (by simp; omega) (.int .i64 c))
      have M6 := Lib.hid (M5.out.far (p := ⟨g, k, none⟩) (by simp; omega) (.int .i64 c))
      have N6 := Lib.hid (N5.out.far (p := ⟨g, k, none⟩) (by simp; omega) (.int .i64 c))
      have L6 := Lib.hid (L5.out.setCell (p := ⟨g, k, none⟩) (by simp; omega) (.int .i64 c))
      go_roundw
      case rel => exact ⟨k + 1, by omega, by go_num, G6.out, K6.out, M6.out, N6.out, L6.out⟩
      case measure => simp [intOf]; omega
    · obtain rfl : k = m := by omega
      have kb : ¬ (k : Int) < b := by omega
      have kW2 : b < Wn := by omega
      have btn : b.toNat = k := by omega
      have gc : wr.cell? ⟨g, k, none⟩ = some (.int .i64 ((if k < k then ((bt N Wn k : Nat) : Int) else 0))) := by
        rw [HG.out.cell]
        simp [bl_get N Wn k k (by omega)]
      have gz := HG.out.frozen k
      clear hm
      go_wp2
      have eset : (((bl N Wn k).map (Value.int .i64)).toArray).setIfInBounds k (.int .i64 1) = (((bl N Wn k).set k 1).map (Value.int .i64)).toArray := by simp [List.map_set]
      have G6 := Lib.hid (HG.out.set_ k (.int .i64 1))
      rw [eset] at G6
      have K6 := Lib.hid (HK.out.far (p := ⟨g, k, none⟩) (by simp; omega) (.int .i64 1))
      have M6 := Lib.hid (HMm.out.far (p := ⟨g, k, none⟩) (by simp; omega) (.int .i64 1))
      have N6 := Lib.hid (HNn.out.far (p := ⟨g, k, none⟩) (by simp; omega) (.int .i64 1))
      have L6 := Lib.hid (HL.out.setCell (p := ⟨g, k, none⟩) (by simp; omega) (.int .i64 1))
      clear f0 f1 f2 f3 gc gz eset
      generalize wr.setCell ⟨g, k, none⟩ (.int .i64 1) = w6 at G6 K6 M6 N6 L6 ⊢
      have hlen : ((bl N Wn k).set k 1).length = Wn := by rw [List.length_set, bl_len]
      have HOk := Lib.hid (fun (w : World) (hG : Blk w g 3 (((bl N Wn k).set k 1).map (Value.int .i64)).toArray) => HO.out w w.heap.size Wn (some ⟨g, 0, none⟩) ((bl N Wn k).set k 1) (by have := hG.reads64 (bin_wf (bits_bin HUB.out)) hG.lt; rw [hlen] at this; exact this) (Nat.le_refl _) HUB.out)
      clear hlen kb kW2 btn
      have i1 := I1.out
      have HC : Hid (∀ W', Below w6.heap.size w6 W' → W'.cell? ⟨w.heap.size, 0, none⟩ = some (.bool s) ∧ W'.cell? ⟨w.heap.size, 1, none⟩ = some (.int .u64 h) ∧ W'.cell? ⟨w.heap.size, 2, none⟩ = some (.int .u64 l) ∧ W'.cell? ⟨w.heap.size, 3, none⟩ = some (.int .i64 b)) := by
        show ∀ W', _ → _
        intro W' hB
        exact (K6.out.below hB K6.out.lt).c4
      have hR : Below w6.heap.size w6 w6.drew := (Below.refl _ _).drew
      obtain ⟨f0, f1, f2, f3⟩ := K6.out.c4
      refine wp_region_held_drew (S := (fun w' => w'.cell? ⟨w.heap.size, 0, none⟩ = some (.bool s) ∧ w'.cell? ⟨w.heap.size, 1, none⟩ = some (.int .u64 h) ∧ w'.cell? ⟨w.heap.size, 2, none⟩ = some (.int .u64 l) ∧ w'.cell? ⟨w.heap.size, 3, none⟩ = some (.int .i64 b))) (by kernel_rfl) ?_ (fun hHeld => ?_)
      · exact HC.out _ hR
      refine wpAnyH_take (i := 0) (oi := { dst := some 43, op := Go.Op.fieldAddr 26 (Go.Operand.tmp 1) 0, type := 0, pos := "ref.go:105", after := #[], guard := none }) (v := ?_) rfl (by kernel_rfl) (by kernel_rfl) (by kernel_rfl) (fun _ _ _ h => h) (Or.inl ⟨by rfl, ?_⟩) (by assumption) ?_
      rotate_left
      · intro w hSw
        (try dsimp only at hSw)
        go_simp
        try (with_reducible rfl)
      try simp only [Act.put, List.setIfInBounds_toArray, List.set_cons_zero, List.set_cons_succ]
      refine wpAnyH_take (i := 1) (oi := { dst := some 44, op := Go.Op.load 24 (Go.Operand.tmp 43), type := 24, pos := "ref.go:105", after := #[{ on := 0, ground := Go.Ground.data }], guard := none }) (v := ?_) rfl (by kernel_rfl) (by kernel_rfl) (by kernel_rfl) (fun _ _ _ h => h) (Or.inl ⟨by rfl, ?_⟩) (by assumption) ?_
      rotate_left
      · intro w hSw
        (try dsimp only at hSw)
        go_simp
        try (with_reducible rfl)
      try simp only [Act.put, List.setIfInBounds_toArray, List.set_cons_zero, List.set_cons_succ]
      refine wpAnyH_take (i := 2) (oi := { dst := some 45, op := Go.Op.fieldAddr 26 (Go.Operand.tmp 1) 1, type := 0, pos := "ref.go:105", after := #[], guard := none }) (v := ?_) rfl (by kernel_rfl) (by kernel_rfl) (by kernel_rfl) (fun _ _ _ h => h) (Or.inl ⟨by rfl, ?_⟩) (by assumption) ?_
      rotate_left
      · intro w hSw
        (try dsimp only at hSw)
        go_simp
        try (with_reducible rfl)
      try simp only [Act.put, List.setIfInBounds_toArray, List.set_cons_zero, List.set_cons_succ]
      refine wpAnyH_take (i := 3) (oi := { dst := some 46, op := Go.Op.load 3 (Go.Operand.tmp 45), type := 3, pos := "ref.go:105", after := #[{ on := 2, ground := Go.Ground.data }], guard := none }) (v := ?_) rfl (by kernel_rfl) (by kernel_rfl) (by kernel_rfl) (fun _ _ _ h => h) (Or.inl ⟨by rfl, ?_⟩) (by assumption) ?_
      rotate_left
      · intro w hSw
        (try dsimp only at hSw)
        go_simp
        try (with_reducible rfl)
      try simp only [Act.put, List.setIfInBounds_toArray, List.set_cons_zero, List.set_cons_succ]
      refine wpAnyH_take (i := 4) (oi := { dst := some 47, op := Go.Op.binOp Go.BinOp.add 3 (Go.Operand.tmp 46) (Go.Operand.const (Go.Value.int Go.IntKind.i64 1)) 3, type := 3, pos := "ref.go:105", after := #[{ on := 3, ground := Go.Ground.data }], guard := none }) (v := ?_) rfl (by kernel_rfl) (by kernel_rfl) (by kernel_rfl) (fun _ _ _ h => h) (Or.inl ⟨by rfl, ?_⟩) (by assumption) ?_
      rotate_left
      · intro w hSw
        (try dsimp only at hSw)
        go_simp
        try (with_reducible rfl)
      try simp only [Act.put, List.setIfInBounds_toArray, List.set_cons_zero, List.set_cons_succ]
      refine wpAnyH_take (i := 5) (oi := { dst := some 48, op := Go.Op.build 26 #[(0, Go.Operand.tmp 44), (1, Go.Operand.tmp 47)], type := 26, pos := "ref.go:105", after := #[{ on := 1, ground := Go.Ground.data }, { on := 4, ground := Go.Ground.data }], guard := none }) (v := ?_) rfl (by kernel_rfl) (by kernel_rfl) (by kernel_rfl) (fun _ _ _ h => h) (Or.inl ⟨by rfl, ?_⟩) (by assumption) ?_
      rotate_left
      · intro w hSw
        (try dsimp only at hSw)
        go_simp
        try (with_reducible rfl)
      try simp only [Act.put, List.setIfInBounds_toArray, List.set_cons_zero, List.set_cons_succ]
      refine wpAnyH_take (i := 6) (oi := { dst := some 49, op := Go.Op.fieldAddr 26 (Go.Operand.tmp 1) 0, type := 0, pos := "ref.go:105", after := #[], guard := none }) (v := ?_) rfl (by kernel_rfl) (by kernel_rfl) (by kernel_rfl) (fun _ _ _ h => h) (Or.inl ⟨by rfl, ?_⟩) (by assumption) ?_
      rotate_left
      · intro w hSw
        (try dsimp only at hSw)
        go_simp
        try (with_reducible rfl)
      try simp only [Act.put, List.setIfInBounds_toArray, List.set_cons_zero, List.set_cons_succ]
      refine wpAnyH_take (i := 7) (oi := { dst := some 50, op := Go.Op.fieldAddr 24 (Go.Operand.tmp 49) 0, type := 0, pos := "ref.go:105", after := #[{ on := 6, ground := Go.Ground.data }], guard := none }) (v := ?_) rfl (by kernel_rfl) (by kernel_rfl) (by kernel_rfl) (fun _ _ _ h => h) (Or.inl ⟨by rfl, ?_⟩) (by assumption) ?_
      rotate_left
      · intro w hSw
        (try dsimp only at hSw)
        go_simp
        try (with_reducible rfl)
      try simp only [Act.put, List.setIfInBounds_toArray, List.set_cons_zero, List.set_cons_succ]
      refine wpAnyH_take (i := 8) (oi := { dst := some 51, op := Go.Op.load 4 (Go.Operand.tmp 50), type := 4, pos := "ref.go:105", after := #[{ on := 7, ground := Go.Ground.data }], guard := none }) (v := ?_) rfl (by kernel_rfl) (by kernel_rfl) (by kernel_rfl) (fun _ _ _ h => h) (Or.inl ⟨by rfl, ?_⟩) (by assumption) ?_
      rotate_left
      · intro w hSw
        (try dsimp only at hSw)
        go_simp
        try (with_reducible rfl)
      try simp only [Act.put, List.setIfInBounds_toArray, List.set_cons_zero, List.set_cons_succ]
      refine wpAnyH_take (i := 9) (oi := { dst := some 52, op := Go.Op.move (Go.Operand.tmp 6), type := 69, pos := "ref.go:105", after := #[], guard := none }) (v := ?_) rfl (by kernel_rfl) (by kernel_rfl) (by kernel_rfl) (fun _ _ _ h => h) (Or.inl ⟨by rfl, ?_⟩) (by assumption) ?_
      rotate_left
      · intro w hSw
        (try dsimp only at hSw)
        go_simp
        try (with_reducible rfl)
      try simp only [Act.put, List.setIfInBounds_toArray, List.set_cons_zero, List.set_cons_succ]
      refine wpAnyH_take (i := 11) (oi := { dst := some 54, op := Go.Op.fieldAddr 26 (Go.Operand.tmp 1) 1, type := 0, pos := "ref.go:105", after := #[{ on := 15, ground := Go.Ground.gcOnly Go.Departure.lateStores }], guard := none }) (v := ?_) rfl (by kernel_rfl) (by kernel_rfl) (by kernel_rfl) (fun _ _ _ h => h) (Or.inl ⟨by rfl, ?_⟩) (by assumption) ?_
      rotate_left
      · intro w hSw
        (try dsimp only at hSw)
        go_simp
        try (with_reducible rfl)
      try simp only [Act.put, List.setIfInBounds_toArray, List.set_cons_zero, List.set_cons_succ]
      refine wpAnyH_take (i := 12) (oi := { dst := some 55, op := Go.Op.load 3 (Go.Operand.tmp 54), type := 3, pos := "ref.go:105", after := #[{ on := 11, ground := Go.Ground.data }, { on := 15, ground := Go.Ground.gcOnly Go.Departure.lateStores }], guard := none }) (v := ?_) rfl (by kernel_rfl) (by kernel_rfl) (by kernel_rfl) (fun _ _ _ h => h) (Or.inl ⟨by rfl, ?_⟩) (by assumption) ?_
      rotate_left
      · intro w hSw
        (try dsimp only at hSw)
        go_simp
        try (with_reducible rfl)
      try simp only [Act.put, List.setIfInBounds_toArray, List.set_cons_zero, List.set_cons_succ]
      refine wpAnyH_take (i := 13) (oi := { dst := some 56, op := Go.Op.binOp Go.BinOp.add 3 (Go.Operand.tmp 55) (Go.Operand.const (Go.Value.int Go.IntKind.i64 1)) 3, type := 3, pos := "ref.go:105", after := #[{ on := 12, ground := Go.Ground.data }, { on := 15, ground := Go.Ground.gcOnly Go.Departure.lateStores }], guard := none }) (v := ?_) rfl (by kernel_rfl) (by kernel_rfl) (by kernel_rfl) (fun _ _ _ h => h) (Or.inl ⟨by rfl, ?_⟩) (by assumption) ?_
      rotate_left
      · intro w hSw
        (try dsimp only at hSw)
        go_simp
        try (with_reducible rfl)
      try simp only [Act.put, List.setIfInBounds_toArray, List.set_cons_zero, List.set_cons_succ]
      refine wpAnyH_ready (rs := [10]) (by kernel_rfl) (by simp) ?_
      refine AllReadyH.cons (o := { dst := some 53, op := Go.Op.call { callee := Go.Callee.value (Go.Operand.func 57), args := #[Go.Operand.tmp 51, Go.Operand.tmp 52], argTypes := #[4, 69] }, type := 24, pos := "ref.go:105", after := #[{ on := 8, ground := Go.Ground.data }, { on := 9, ground := Go.Ground.data }], guard := none }) rfl (fun K hK => ?_) AllReadyH.nil
      go_simp
      (go_at_call 57; (with_reducible refine Calls.mono (HOk.out _ (G6.out.below hR G6.out.lt)) ?_); rintro e W' ⟨rfl, hb⟩; replace hR := hR.trans (hb.mono hR.size); clear hb f0 f1 f2 f3; obtain ⟨m0, m1, m2, m3⟩ := (Lib.hid (M6.out.below hR M6.out.lt)).out.c4; have a0 := (Lib.hid (M6.out.below hR M6.out.lt)).out.frozen 0; have a1 := (Lib.hid (M6.out.below hR M6.out.lt)).out.frozen 1; have a2 := (Lib.hid (M6.out.below hR M6.out.lt)).out.frozen 2; have a3 := (Lib.hid (M6.out.below hR M6.out.lt)).out.frozen 3; obtain ⟨n0, n1, n2, n3⟩ := (Lib.hid (N6.out.below hR N6.out.lt)).out.c4; have c0 := (Lib.hid (N6.out.below hR N6.out.lt)).out.frozen 0; have c1 := (Lib.hid (N6.out.below hR N6.out.lt)).out.frozen 1; have c2 := (Lib.hid (N6.out.below hR N6.out.lt)).out.frozen 2; have c3 := (Lib.hid (N6.out.below hR N6.out.lt)).out.frozen 3)
      go_wp2_with fail
      refine hK.out _ _ ?_ (fun hHeld => ?_)
      · exact HC.out _ hR
      clear hK K
      try simp only [Act.put, List.setIfInBounds_toArray, List.set_cons_zero, List.set_cons_succ]
      refine wpAnyH_take (i := 14) (oi := { dst := some 57, op := Go.Op.build 26 #[(0, Go.Operand.tmp 53), (1, Go.Operand.tmp 56)], type := 26, pos := "ref.go:105", after := #[{ on := 10, ground := Go.Ground.data }, { on := 13, ground := Go.Ground.data }, { on := 15, ground := Go.Ground.gcOnly Go.Departure.lateStores }], guard := none }) (v := ?_) rfl (by kernel_rfl) (by kernel_rfl) (by kernel_rfl) (fun _ _ _ h => h) (Or.inl ⟨by rfl, ?_⟩) (by assumption) ?_
      rotate_left
      · intro w hSw
        (try dsimp only at hSw)
        go_simp
        try (with_reducible rfl)
      try simp only [Act.put, List.setIfInBounds_toArray, List.set_cons_zero, List.set_cons_succ]
      refine wpAnyH_ready (rs := [15]) (by kernel_rfl) (by simp) ?_
      refine AllReadyH.cons (o := { dst := none, op := Go.Op.store 26 (Go.Operand.tmp 2) (Go.Operand.tmp 48), type := 0, pos := "ref.go:105", after := #[{ on := 5, ground := Go.Ground.data }, { on := 10, ground := Go.Ground.chain }, { on := 0, ground := Go.Ground.phase }, { on := 1, ground := Go.Ground.phase }, { on := 2, ground := Go.Ground.phase }, { on := 3, ground := Go.Ground.phase }, { on := 4, ground := Go.Ground.phase }, { on := 5, ground := Go.Ground.phase }, { on := 6, ground := Go.Ground.textOnly Go.Departure.lateStores }, { on := 7, ground := Go.Ground.textOnly Go.Departure.lateStores }, { on := 8, ground := Go.Ground.textOnly Go.Departure.lateStores }, { on := 9, ground := Go.Ground.textOnly Go.Departure.lateStores }, { on := 10, ground := Go.Ground.textOnly Go.Departure.lateStoresUnsure }, { on := 11, ground := Go.Ground.textOnly Go.Departure.lateStores }, { on := 12, ground := Go.Ground.textOnly Go.Departure.lateStores }, { on := 13, ground := Go.Ground.textOnly Go.Departure.lateStores }, { on := 14, ground := Go.Ground.textOnly Go.Departure.lateStores }], guard := none }) rfl (fun K hK => ?_) AllReadyH.nil
      go_simp
      refine hK.out _ _ ?_ (fun hHeld => ?_)
      · (obtain ⟨p0, p1, p2, p3⟩ := HC.out _ hR; have q2 : ¬ w.heap.size + 1 + 1 = w.heap.size := (by omega); (try dsimp only); first | (simp [World.cell?_setCell_far, p0, p1, p2, p3]; done) | simp [World.cell?_setCell_far, q2, p0, p1, p2, p3])
      clear hK K
      try simp only [Act.put, List.setIfInBounds_toArray, List.set_cons_zero, List.set_cons_succ]
      refine wpAnyH_ready (rs := [16]) (by kernel_rfl) (by simp) ?_
      refine AllReadyH.cons (o := { dst := none, op := Go.Op.store 26 (Go.Operand.tmp 3) (Go.Operand.tmp 57), type := 0, pos := "ref.go:105", after := #[{ on := 14, ground := Go.Ground.data }, { on := 15, ground := Go.Ground.chain }, { on := 0, ground := Go.Ground.phase }, { on := 1, ground := Go.Ground.phase }, { on := 2, ground := Go.Ground.phase }, { on := 3, ground := Go.Ground.phase }, { on := 4, ground := Go.Ground.phase }, { on := 5, ground := Go.Ground.phase }, { on := 6, ground := Go.Ground.phase }, { on := 7, ground := Go.Ground.phase }, { on := 8, ground := Go.Ground.phase }, { on := 9, ground := Go.Ground.phase }, { on := 10, ground := Go.Ground.phase }, { on := 11, ground := Go.Ground.phase }, { on := 12, ground := Go.Ground.phase }, { on := 13, ground := Go.Ground.phase }, { on := 14, ground := Go.Ground.phase }, { on := 15, ground := Go.Ground.phase }], guard := none }) rfl (fun K hK => ?_) AllReadyH.nil
      go_simp
      refine hK.out _ _ ?_ (fun hHeld => ?_)
      · (obtain ⟨p0, p1, p2, p3⟩ := HC.out _ hR; have q2 : ¬ w.heap.size + 1 + 1 = w.heap.size := (by omega); (try dsimp only); first | (simp [World.cell?_setCell_far, p0, p1, p2, p3]; done) | simp [World.cell?_setCell_far, q2, p0, p1, p2, p3])
      clear hK K
      try simp only [Act.put, List.setIfInBounds_toArray, List.set_cons_zero, List.set_cons_succ]
      refine wpAnyH_take (i := 17) (oi := { dst := some 4, op := Go.Op.assign (Go.Operand.const (Go.Value.int Go.IntKind.i64 0)), type := 28, pos := "ref.go:105", after := #[{ on := 16, ground := Go.Ground.chain }, { on := 0, ground := Go.Ground.phase }, { on := 1, ground := Go.Ground.phase }, { on := 2, ground := Go.Ground.phase }, { on := 3, ground := Go.Ground.phase }, { on := 4, ground := Go.Ground.phase }, { on := 5, ground := Go.Ground.phase }, { on := 6, ground := Go.Ground.phase }, { on := 7, ground := Go.Ground.phase }, { on := 8, ground := Go.Ground.phase }, { on := 9, ground := Go.Ground.phase }, { on := 10, ground := Go.Ground.phase }, { on := 11, ground := Go.Ground.phase }, { on := 12, ground := Go.Ground.phase }, { on := 13, ground := Go.Ground.phase }, { on := 14, ground := Go.Ground.phase }, { on := 15, ground := Go.Ground.phase }, { on := 16, ground := Go.Ground.phase }], guard := none }) (v := ?_) rfl (by kernel_rfl) (by kernel_rfl) (by kernel_rfl) (fun _ _ _ h => h) (Or.inl ⟨by rfl, ?_⟩) (by assumption) ?_
      rotate_left
      · intro w hSw
        (try dsimp only at hSw)
        go_simp
        try (with_reducible rfl)
      try simp only [Act.put, List.setIfInBounds_toArray, List.set_cons_zero, List.set_cons_succ]
      refine wpAnyH_done (by kernel_rfl) ?_ _
      have L7 := Lib.hid (L6.out.trans (hR.mono L6.out.size))
      go_wp2
      refine bodyPost_ret (v := .tuple #[pfx s h l (b + 1), pfx s A B (b + 1), .int .i64 0]) (by simp [results, Tryd.results28, go_sem, m0, m1, m2, m3, n0, n1, n2, n3]) rfl ⟨rfl, ?_⟩
      iterate 8 refine Below.setCell ?_ (by first | (simp; done) | (simp; omega)) _
      exact L7.out

theorem rhalves_at (s : Bool) (h l : Nat) (b : Int) (hh : N64 h) (hl : N64 l) {v : Value} (ev : hvV s h l b = v) (w : World) :
    Calls Tryd.prog 28 #[pfx s h l b] w fun e w' => e = .returned v ∧ Below w.heap.size w w' := by
  subst ev
  by_cases hk : pvl s h l b = true ∧ b < (wd s : Int)
  · exact rhv_yes s h l b hh hl hk.1 hk.2 w
  · rw [hvV_no hk hl]
    by_cases hp : pvl s h l b = true
    · have := (okn_iff.1 ((pvl_iff hl).1 hp).2.1).2
      exact rhv_full s h l b hh hl hp _ rfl (by have : ¬ b < (wd s : Int) := fun x => hk ⟨hp, x⟩; omega) w
    · exact rhv_bad s h l b hh hl (by simpa using hp) w
end Go.Proofs.YtecgmejfkfoceaaDoor
