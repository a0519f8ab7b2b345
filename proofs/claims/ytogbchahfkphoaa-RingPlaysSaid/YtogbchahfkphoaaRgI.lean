/-
  The program's ring of elements of type int (layer 12).
-/
import Derived.Test.YtogbchahfkphoaaRgA
namespace Go.Proofs.Ytogbchahfkphoaa
open Go.RowKit
set_option linter.unusedVariables false

/-- A ring with room for N elements. -/
def RgI (w : World) (r b N : Nat) (all : List (List Value)) (out : Nat) : Prop := ∃ cur, Blk w r 81 #[.slice (some ⟨b, 0, none⟩) N N, .int .u64 (out : Int), .int .u64 (all.length : Int)] ∧ Blk w b 3 cur ∧ RgC cur 1 N all out ∧ r ≠ b ∧ ∃ k, N = 2 ^ k ∧ k ≤ 16
section
variable {w w' : World} {r b N out : Nat} {all : List (List Value)}
theorem RgI.lt (h : RgI w r b N all out) : r < w.heap.size ∧ b < w.heap.size := by
  obtain ⟨cur, h1, h2, -⟩ := h
  exact ⟨h1.lt, h2.lt⟩
theorem RgI.le (h : RgI w r b N all out) : out ≤ all.length ∧ all.length ≤ out + N ∧ 0 < N ∧ N ≤ 65536 := by
  obtain ⟨cur, h1, h2, h3, h4, k, rfl, hk⟩ := h
  exact ⟨h3.le, h3.room, h3.pos, (two_pow16 hk).2⟩
theorem RgI.pow (h : RgI w r b N all out) : ∃ k, N = 2 ^ k ∧ k ≤ 16 := by
  obtain ⟨cur, h1, h2, h3, h4, h5⟩ := h
  exact h5
theorem RgI.tch {S : List Nat} (h : RgI w r b N all out) (ht : Tch w w' S) (h1 : r ∉ S) (h2 : b ∉ S) : RgI w' r b N all out := by
  obtain ⟨cur, h3, h4, h5⟩ := h
  exact ⟨cur, ht.blk h3 h1, ht.blk h4 h2, h5⟩
theorem RgI.below (h : RgI w r b N all out) (hb : Below w.heap.size w w') : RgI w' r b N all out := h.tch (Tch.of_below [] hb) (by simp) (by simp)
end
set_option maxHeartbeats 1000000 in
theorem newI_bad (O : Int) (h : O < 0 ∨ 16 < O) (w : World) : Calls Try.prog 31 #[.int .i64 O] w fun e w' => e = .returned (.pointer none) ∧ w = w' := by
  by_cases h0 : O < 0
  · clear h
    go_enter Try.func31, Try.ntmps31
    go_wp2
    go_ret
    exact ⟨rfl, rfl⟩
  · have h2 : 16 < O := by omega
    clear h
    go_enter Try.func31, Try.ntmps31
    go_wp2
    go_ret
    exact ⟨rfl, rfl⟩
theorem infoI : (Try.prog.info? 3).map (fun i => (i.zero, i.size, i.bytes)) = some (some (.int .i64 0), 1, 8) := by kernel_rfl
set_option maxHeartbeats 1000000 in
theorem newI_ok (k : Nat) (hk : k ≤ 16) (w : World) : Calls Try.prog 31 #[.int .i64 (k : Int)] w fun e w' => ∃ r b, e = .returned (.pointer (some ⟨r, 0, none⟩)) ∧ RgI w' r b (2 ^ k) [] 0 ∧ Below w.heap.size w w' ∧ w.heap.size ≤ r ∧ w.heap.size ≤ b := by
  have h0 : ¬ (k : Int) < 0 := by omega
  have h1 : ¬ (16 : Int) < k := by omega
  have hp := two_pow16 hk
  have j1 : IntKind.i64.wrap ((2 : Int) ^ k) = ((2 ^ k : Nat) : Int) := by
    have e : ((2 : Int) ^ k) = ((2 ^ k : Nat) : Int) := by simp
    rw [e, IntKind.wrap_i64]; omega
  have HK : Hid (∃ k', 2 ^ k = 2 ^ k' ∧ k' ≤ 16) := Lib.hid ⟨k, rfl, hk⟩
  obtain ⟨N, hN⟩ : ∃ N : Nat, 2 ^ k = N := ⟨_, rfl⟩
  rw [hN] at hp j1 HK ⊢
  have hmk := run_make_row' (P := Try.prog) 49 3 (.int .i64 0) 8 Try.underlying49 infoI rfl .i64 .i64 N (by omega) (by omega) w
  have HP := Lib.hid hp
  clear hN hp hk
  go_enter Try.func31, Try.ntmps31
  go_wp2
  go_ret
  refine ⟨w.heap.size + 1, rfl, w.heap.size, ⟨madeCells #[.int .i64 0] N, ?_, (Blk.new _ _ _).alloc _, RgC.new (by simp [madeCells]) HP.out.1, by omega, HK.out⟩, ((Below.refl _ _).alloc (Nat.le_refl _) _).alloc (by simp) _, by omega, Nat.le_refl _⟩
  have := Blk.new (w.alloc (.cells (madeCells #[.int .i64 0] N) 3)) 81 #[.slice (some ⟨w.heap.size, 0, none⟩) N N, .int .u64 (0 : Int), .int .u64 (0 : Int)]
  rwa [World.size_alloc] at this
theorem remI {N x : Nat} (hN : 0 < N) : Int.tmod (x : Int) (N : Int) = ((x % N : Nat) : Int) := by
  rw [Int.tmod_eq_emod_of_nonneg (by omega)]; rfl
set_option maxRecDepth 100000 in
set_option maxHeartbeats 1000000 in
theorem pushedI_e (r b N : Nat) (all : List (List Value)) (out : Nat) (w : World) (h : RgI w r b N all out) :
    Calls Try.prog 37 #[.pointer (some ⟨r, 0, none⟩)] w fun e w' => e = .returned (.int .u64 (all.length : Int)) ∧ w = w' := by
  obtain ⟨cur, h1, -⟩ := h
  have c2 := (h1.cell 2).trans (show _ = some (Value.int .u64 (all.length : Int)) by rfl)
  obtain ⟨L, hL⟩ : ∃ L : Int, (all.length : Int) = L := ⟨_, rfl⟩
  rw [hL] at c2 ⊢
  clear h1 hL
  go_enter Try.func37, Try.ntmps37
  go_wp2_with (go_at_call 39; (with_reducible refine Calls.mono (aload_any r 2 _ _ c2) ?_); rintro e w' ⟨rfl, rfl⟩)
  go_ret
  exact ⟨rfl, rfl⟩
set_option maxRecDepth 100000 in
set_option maxHeartbeats 1000000 in
theorem poppedI_e (r b N : Nat) (all : List (List Value)) (out : Nat) (w : World) (h : RgI w r b N all out) :
    Calls Try.prog 38 #[.pointer (some ⟨r, 0, none⟩)] w fun e w' => e = .returned (.int .u64 (out : Int)) ∧ w = w' := by
  obtain ⟨cur, h1, -⟩ := h
  have c1 := (h1.cell 1).trans (show _ = some (Value.int .u64 (out : Int)) by rfl)
  obtain ⟨L, hL⟩ : ∃ L : Int, (out : Int) = L := ⟨_, rfl⟩
  rw [hL] at c1 ⊢
  clear h1 hL
  go_enter Try.func38, Try.ntmps38
  go_wp2_with (go_at_call 39; (with_reducible refine Calls.mono (aload_any r 1 _ _ c1) ?_); rintro e w' ⟨rfl, rfl⟩)
  go_ret
  exact ⟨rfl, rfl⟩
set_option maxRecDepth 100000 in
set_option maxHeartbeats 1000000 in
theorem lenI_any (r b N : Nat) (all : List (List Value)) (out : Nat) (hs : all.length ≤ 900000) (w : World) (h : RgI w r b N all out) :
    Calls Try.prog 35 #[.pointer (some ⟨r, 0, none⟩)] w fun e w' => e = .returned (.int .i64 ((all.length : Int) - (out : Int))) ∧ w = w' := by
  have HA1 := Lib.hid (poppedI_e r b N all out w h)
  have HA2 := Lib.hid (pushedI_e r b N all out w h)
  have hle := h.le
  obtain ⟨L, hL⟩ : ∃ L : Nat, all.length = L := ⟨_, rfl⟩
  rw [hL] at HA2 hs hle ⊢
  have j1 : IntKind.u64.wrap ((L : Int) - (out : Int)) = (L : Int) - (out : Int) := by rw [IntKind.wrap_u64]; omega
  have j2 : IntKind.i64.wrap ((L : Int) - (out : Int)) = (L : Int) - (out : Int) := by rw [IntKind.wrap_i64]; omega
  clear hL hle hs h
  go_enter Try.func35, Try.ntmps35
  go_wp2_with (first | (go_at_call 38; (with_reducible refine Calls.mono HA1.out ?_); rintro e w' ⟨rfl, rfl⟩) | (go_at_call 37; (with_reducible refine Calls.mono HA2.out ?_); rintro e w' ⟨rfl, rfl⟩))
  go_ret
  exact ⟨rfl, rfl⟩
set_option maxRecDepth 100000 in
set_option maxHeartbeats 1000000 in
theorem roomI_e (r b N : Nat) (all : List (List Value)) (out : Nat) (hs : all.length ≤ 900000) (w : World) (h : RgI w r b N all out) :
    Calls Try.prog 34 #[.pointer (some ⟨r, 0, none⟩)] w fun e w' => e = .returned (.int .i64 ((N : Int) - ((all.length : Int) - (out : Int)))) ∧ w.drew = w' := by
  have HN := Lib.hid (lenI_any r b N all out hs w.drew (h.tch (Tch.refl w []).drew (by simp) (by simp)))
  have hle := h.le
  obtain ⟨cur, h1, -⟩ := h
  have c0 := (h1.cell 0).trans (show _ = some (Value.slice (some ⟨b, 0, none⟩) N N) by rfl)
  have HC := Lib.hid c0
  obtain ⟨L, hL⟩ : ∃ L : Nat, all.length = L := ⟨_, rfl⟩
  rw [hL] at HN hs hle ⊢
  have j2 : IntKind.i64.wrap ((N : Int) - ((L : Int) - (out : Int))) = (N : Int) - ((L : Int) - (out : Int)) := by rw [IntKind.wrap_i64]; omega
  clear hL hle hs h1
  go_enter Try.func34, Try.ntmps34
  go_wp2
  refine wp_region_held_drew (S := (fun W => W.cell? ⟨r, 0, none⟩ = some (.slice (some ⟨b, 0, none⟩) N N))) (by kernel_rfl) ?_ (fun hHeld => ?_)
  · (exact HC.out)
  refine wpAnyH_take (i := 0) (oi := { dst := some 5, op := Go.Op.move (Go.Operand.tmp 0), type := 54, pos := "ring.go:79", after := #[], guard := none }) (v := ?_) rfl (by kernel_rfl) (by kernel_rfl) (by kernel_rfl) (fun _ _ _ h => h) (Or.inl ⟨by rfl, ?_⟩) (by assumption) ?_
  rotate_left
  · intro w hSw
    (try dsimp only at hSw)
    go_simp
    try (with_reducible rfl)
  try simp only [Act.put, List.setIfInBounds_toArray, List.set_cons_zero, List.set_cons_succ]
  refine wpAnyH_take (i := 1) (oi := { dst := some 6, op := Go.Op.nilCheck (Go.Operand.tmp 5), type := 0, pos := "ring.go:79", after := #[{ on := 0, ground := Go.Ground.data }], guard := none }) (v := ?_) rfl (by kernel_rfl) (by kernel_rfl) (by kernel_rfl) (fun _ _ _ h => h) (Or.inl ⟨by rfl, ?_⟩) (by assumption) ?_
  rotate_left
  · intro w hSw
    (try dsimp only at hSw)
    go_simp
    try (with_reducible rfl)
  try simp only [Act.put, List.setIfInBounds_toArray, List.set_cons_zero, List.set_cons_succ]
  refine wpAnyH_take (i := 2) (oi := { dst := some 7, op := Go.Op.fieldAddr 81 (Go.Operand.tmp 6) 0, type := 0, pos := "ring.go:79", after := #[{ on := 1, ground := Go.Ground.data }], guard := none }) (v := ?_) rfl (by kernel_rfl) (by kernel_rfl) (by kernel_rfl) (fun _ _ _ h => h) (Or.inl ⟨by rfl, ?_⟩) (by assumption) ?_
  rotate_left
  · intro w hSw
    (try dsimp only at hSw)
    go_simp
    try (with_reducible rfl)
  try simp only [Act.put, List.setIfInBounds_toArray, List.set_cons_zero, List.set_cons_succ]
  refine wpAnyH_take (i := 3) (oi := { dst := some 8, op := Go.Op.load 49 (Go.Operand.tmp 7), type := 49, pos := "ring.go:79", after := #[{ on := 2, ground := Go.Ground.data }], guard := none }) (v := ?_) rfl (by kernel_rfl) (by kernel_rfl) (by kernel_rfl) (fun _ _ _ h => h) (Or.inl ⟨by rfl, ?_⟩) (by assumption) ?_
  rotate_left
  · intro w hSw
    (try dsimp only at hSw)
    go_simp
    try (with_reducible rfl)
  try simp only [Act.put, List.setIfInBounds_toArray, List.set_cons_zero, List.set_cons_succ]
  refine wpAnyH_take (i := 4) (oi := { dst := some 9, op := Go.Op.call { callee := Go.Callee.builtin Go.Builtin.len, args := #[Go.Operand.tmp 8], argTypes := #[49] }, type := 3, pos := "ring.go:79", after := #[{ on := 3, ground := Go.Ground.data }], guard := none }) (v := ?_) rfl (by kernel_rfl) (by kernel_rfl) (by kernel_rfl) (fun _ _ _ h => h) (Or.inl ⟨by rfl, ?_⟩) (by assumption) ?_
  rotate_left
  · intro w hSw
    (try dsimp only at hSw)
    go_simp
    try (with_reducible rfl)
  try simp only [Act.put, List.setIfInBounds_toArray, List.set_cons_zero, List.set_cons_succ]
  refine wpAnyH_take (i := 5) (oi := { dst := some 10, op := Go.Op.move (Go.Operand.tmp 0), type := 54, pos := "ring.go:79", after := #[], guard := none }) (v := ?_) rfl (by kernel_rfl) (by kernel_rfl) (by kernel_rfl) (fun _ _ _ h => h) (Or.inl ⟨by rfl, ?_⟩) (by assumption) ?_
  rotate_left
  · intro w hSw
    (try dsimp only at hSw)
    go_simp
    try (with_reducible rfl)
  try simp only [Act.put, List.setIfInBounds_toArray, List.set_cons_zero, List.set_cons_succ]
  refine wpAnyH_ready (rs := [6]) (by kernel_rfl) (by simp) ?_
  refine AllReadyH.cons (o := { dst := some 11, op := Go.Op.call { callee := Go.Callee.value (Go.Operand.func 35), args := #[Go.Operand.tmp 10], argTypes := #[54] }, type := 3, pos := "ring.go:79", after := #[{ on := 5, ground := Go.Ground.data }], guard := none }) rfl (fun K hK => ?_) AllReadyH.nil
  go_simp
  (go_at_call 35; (with_reducible refine Calls.mono HN.out ?_); rintro e w' ⟨rfl, rfl⟩)
  go_wp2_with fail
  refine hK.out _ _ ?_ (fun hHeld => ?_)
  · (exact HC.out)
  clear hK K
  try simp only [Act.put, List.setIfInBounds_toArray, List.set_cons_zero, List.set_cons_succ]
  refine wpAnyH_take (i := 7) (oi := { dst := some 12, op := Go.Op.binOp Go.BinOp.sub 3 (Go.Operand.tmp 9) (Go.Operand.tmp 11) 3, type := 3, pos := "ring.go:79", after := #[{ on := 4, ground := Go.Ground.data }, { on := 6, ground := Go.Ground.data }], guard := none }) (v := ?_) rfl (by kernel_rfl) (by kernel_rfl) (by kernel_rfl) (fun _ _ _ h => h) (Or.inl ⟨by rfl, ?_⟩) (by assumption) ?_
  rotate_left
  · intro w hSw
    (try dsimp only at hSw)
    go_simp
    try (with_reducible rfl)
  try simp only [Act.put, List.setIfInBounds_toArray, List.set_cons_zero, List.set_cons_succ]
  refine wpAnyH_take (i := 8) (oi := { dst := some 2, op := Go.Op.assign (Go.Operand.tmp 12), type := 3, pos := "ring.go:79", after := #[{ on := 7, ground := Go.Ground.data }, { on := 6, ground := Go.Ground.chain }, { on := 0, ground := Go.Ground.phase }, { on := 1, ground := Go.Ground.phase }, { on := 2, ground := Go.Ground.phase }, { on := 3, ground := Go.Ground.phase }, { on := 4, ground := Go.Ground.phase }, { on := 5, ground := Go.Ground.phase }, { on := 6, ground := Go.Ground.phase }, { on := 7, ground := Go.Ground.phase }], guard := none }) (v := ?_) rfl (by kernel_rfl) (by kernel_rfl) (by kernel_rfl) (fun _ _ _ h => h) (Or.inl ⟨by rfl, ?_⟩) (by assumption) ?_
  rotate_left
  · intro w hSw
    (try dsimp only at hSw)
    go_simp
    try (with_reducible rfl)
  try simp only [Act.put, List.setIfInBounds_toArray, List.set_cons_zero, List.set_cons_succ]
  refine wpAnyH_done (by kernel_rfl) ?_ _
  go_wp2
  go_ret
  exact ⟨rfl, rfl⟩
set_option maxRecDepth 100000 in
set_option maxHeartbeats 1000000 in
theorem slotI_any (r b N : Nat) (all : List (List Value)) (out : Nat) (x : Nat) (hx : x ≤ 1000000) (w : World) (h : RgI w r b N all out) :
    Calls Try.prog 49 #[.pointer (some ⟨r, 0, none⟩), .int .u64 (x : Int)] w fun e w' => e = .returned (.pointer (some ⟨b, x % N, none⟩)) ∧ w.drew = w' := by
  have hle := h.le
  obtain ⟨cur, h1, -⟩ := h
  have c0 := (h1.cell 0).trans (show _ = some (Value.slice (some ⟨b, 0, none⟩) N N) by rfl)
  have HC := Lib.hid c0
  have hl := remI (x := x) hle.2.2.1
  have hm := Nat.mod_lt x (y := N) hle.2.2.1
  have q1 : ¬ N = 0 := by omega
  have q2 : ¬ (N : Int) = 0 := by omega
  have j1 : IntKind.u64.wrap (N : Int) = (N : Int) := by rw [IntKind.wrap_u64]; omega
  obtain ⟨m, hM⟩ : ∃ m : Nat, x % N = m := ⟨_, rfl⟩
  rw [hM] at hl hm ⊢
  have j2 : IntKind.u64.wrap (m : Int) = (m : Int) := by rw [IntKind.wrap_u64]; omega
  have j3 : IntKind.i64.wrap (m : Int) = (m : Int) := by rw [IntKind.wrap_i64]; omega
  have m0 : (0 : Int) ≤ (m : Int) := by omega
  have mN : (m : Int) < (N : Int) := by omega
  clear hle hx hM hm h1
  go_enter Try.func49, Try.ntmps49
  go_wp2
  refine wp_region_held_drew (S := (fun W => W.cell? ⟨r, 0, none⟩ = some (.slice (some ⟨b, 0, none⟩) N N))) (by kernel_rfl) ?_ (fun hHeld => ?_)
  · (exact HC.out)
  refine wpAnyH_take (i := 0) (oi := { dst := some 5, op := Go.Op.move (Go.Operand.tmp 0), type := 54, pos := "ring.go:100", after := #[], guard := none }) (v := ?_) rfl (by kernel_rfl) (by kernel_rfl) (by kernel_rfl) (fun _ _ _ h => h) (Or.inl ⟨by rfl, ?_⟩) (by assumption) ?_
  rotate_left
  · intro w hSw
    (try dsimp only at hSw)
    go_simp
    try (with_reducible rfl)
  try simp only [Act.put, List.setIfInBounds_toArray, List.set_cons_zero, List.set_cons_succ]
  refine wpAnyH_take (i := 1) (oi := { dst := some 6, op := Go.Op.nilCheck (Go.Operand.tmp 5), type := 0, pos := "ring.go:100", after := #[{ on := 0, ground := Go.Ground.data }], guard := none }) (v := ?_) rfl (by kernel_rfl) (by kernel_rfl) (by kernel_rfl) (fun _ _ _ h => h) (Or.inl ⟨by rfl, ?_⟩) (by assumption) ?_
  rotate_left
  · intro w hSw
    (try dsimp only at hSw)
    go_simp
    try (with_reducible rfl)
  try simp only [Act.put, List.setIfInBounds_toArray, List.set_cons_zero, List.set_cons_succ]
  refine wpAnyH_take (i := 2) (oi := { dst := some 7, op := Go.Op.fieldAddr 81 (Go.Operand.tmp 6) 0, type := 0, pos := "ring.go:100", after := #[{ on := 1, ground := Go.Ground.data }], guard := none }) (v := ?_) rfl (by kernel_rfl) (by kernel_rfl) (by kernel_rfl) (fun _ _ _ h => h) (Or.inl ⟨by rfl, ?_⟩) (by assumption) ?_
  rotate_left
  · intro w hSw
    (try dsimp only at hSw)
    go_simp
    try (with_reducible rfl)
  try simp only [Act.put, List.setIfInBounds_toArray, List.set_cons_zero, List.set_cons_succ]
  refine wpAnyH_take (i := 3) (oi := { dst := some 8, op := Go.Op.load 49 (Go.Operand.tmp 7), type := 49, pos := "ring.go:100", after := #[{ on := 2, ground := Go.Ground.data }], guard := none }) (v := ?_) rfl (by kernel_rfl) (by kernel_rfl) (by kernel_rfl) (fun _ _ _ h => h) (Or.inl ⟨by rfl, ?_⟩) (by assumption) ?_
  rotate_left
  · intro w hSw
    (try dsimp only at hSw)
    go_simp
    try (with_reducible rfl)
  try simp only [Act.put, List.setIfInBounds_toArray, List.set_cons_zero, List.set_cons_succ]
  refine wpAnyH_take (i := 4) (oi := { dst := some 9, op := Go.Op.move (Go.Operand.tmp 1), type := 39, pos := "ring.go:100", after := #[], guard := none }) (v := ?_) rfl (by kernel_rfl) (by kernel_rfl) (by kernel_rfl) (fun _ _ _ h => h) (Or.inl ⟨by rfl, ?_⟩) (by assumption) ?_
  rotate_left
  · intro w hSw
    (try dsimp only at hSw)
    go_simp
    try (with_reducible rfl)
  try simp only [Act.put, List.setIfInBounds_toArray, List.set_cons_zero, List.set_cons_succ]
  refine wpAnyH_take (i := 5) (oi := { dst := some 10, op := Go.Op.move (Go.Operand.tmp 0), type := 54, pos := "ring.go:100", after := #[], guard := none }) (v := ?_) rfl (by kernel_rfl) (by kernel_rfl) (by kernel_rfl) (fun _ _ _ h => h) (Or.inl ⟨by rfl, ?_⟩) (by assumption) ?_
  rotate_left
  · intro w hSw
    (try dsimp only at hSw)
    go_simp
    try (with_reducible rfl)
  try simp only [Act.put, List.setIfInBounds_toArray, List.set_cons_zero, List.set_cons_succ]
  refine wpAnyH_take (i := 6) (oi := { dst := some 11, op := Go.Op.nilCheck (Go.Operand.tmp 10), type := 0, pos := "ring.go:100", after := #[{ on := 5, ground := Go.Ground.data }], guard := none }) (v := ?_) rfl (by kernel_rfl) (by kernel_rfl) (by kernel_rfl) (fun _ _ _ h => h) (Or.inl ⟨by rfl, ?_⟩) (by assumption) ?_
  rotate_left
  · intro w hSw
    (try dsimp only at hSw)
    go_simp
    try (with_reducible rfl)
  try simp only [Act.put, List.setIfInBounds_toArray, List.set_cons_zero, List.set_cons_succ]
  refine wpAnyH_take (i := 7) (oi := { dst := some 12, op := Go.Op.fieldAddr 81 (Go.Operand.tmp 11) 0, type := 0, pos := "ring.go:100", after := #[{ on := 6, ground := Go.Ground.data }], guard := none }) (v := ?_) rfl (by kernel_rfl) (by kernel_rfl) (by kernel_rfl) (fun _ _ _ h => h) (Or.inl ⟨by rfl, ?_⟩) (by assumption) ?_
  rotate_left
  · intro w hSw
    (try dsimp only at hSw)
    go_simp
    try (with_reducible rfl)
  try simp only [Act.put, List.setIfInBounds_toArray, List.set_cons_zero, List.set_cons_succ]
  refine wpAnyH_take (i := 8) (oi := { dst := some 13, op := Go.Op.load 49 (Go.Operand.tmp 12), type := 49, pos := "ring.go:100", after := #[{ on := 7, ground := Go.Ground.data }], guard := none }) (v := ?_) rfl (by kernel_rfl) (by kernel_rfl) (by kernel_rfl) (fun _ _ _ h => h) (Or.inl ⟨by rfl, ?_⟩) (by assumption) ?_
  rotate_left
  · intro w hSw
    (try dsimp only at hSw)
    go_simp
    try (with_reducible rfl)
  try simp only [Act.put, List.setIfInBounds_toArray, List.set_cons_zero, List.set_cons_succ]
  refine wpAnyH_take (i := 9) (oi := { dst := some 14, op := Go.Op.call { callee := Go.Callee.builtin Go.Builtin.len, args := #[Go.Operand.tmp 13], argTypes := #[49] }, type := 3, pos := "ring.go:100", after := #[{ on := 8, ground := Go.Ground.data }], guard := none }) (v := ?_) rfl (by kernel_rfl) (by kernel_rfl) (by kernel_rfl) (fun _ _ _ h => h) (Or.inl ⟨by rfl, ?_⟩) (by assumption) ?_
  rotate_left
  · intro w hSw
    (try dsimp only at hSw)
    go_simp
    try (with_reducible rfl)
  try simp only [Act.put, List.setIfInBounds_toArray, List.set_cons_zero, List.set_cons_succ]
  refine wpAnyH_take (i := 10) (oi := { dst := some 15, op := Go.Op.convert 3 39 (Go.Operand.tmp 14), type := 39, pos := "ring.go:100", after := #[{ on := 9, ground := Go.Ground.data }], guard := none }) (v := ?_) rfl (by kernel_rfl) (by kernel_rfl) (by kernel_rfl) (fun _ _ _ h => h) (Or.inl ⟨by rfl, ?_⟩) (by assumption) ?_
  rotate_left
  · intro w hSw
    (try dsimp only at hSw)
    go_simp
    try (with_reducible rfl)
  try simp only [Act.put, List.setIfInBounds_toArray, List.set_cons_zero, List.set_cons_succ]
  refine wpAnyH_take (i := 11) (oi := { dst := some 16, op := Go.Op.binOp Go.BinOp.rem 39 (Go.Operand.tmp 9) (Go.Operand.tmp 15) 39, type := 39, pos := "ring.go:100", after := #[{ on := 4, ground := Go.Ground.data }, { on := 10, ground := Go.Ground.data }], guard := none }) (v := ?_) rfl (by kernel_rfl) (by kernel_rfl) (by kernel_rfl) (fun _ _ _ h => h) (Or.inl ⟨by rfl, ?_⟩) (by assumption) ?_
  rotate_left
  · intro w hSw
    (try dsimp only at hSw)
    go_simp
    try (with_reducible rfl)
  try simp only [Act.put, List.setIfInBounds_toArray, List.set_cons_zero, List.set_cons_succ]
  refine wpAnyH_take (i := 12) (oi := { dst := some 17, op := Go.Op.indexAddr 49 (Go.Operand.tmp 8) (Go.Operand.tmp 16), type := 0, pos := "ring.go:100", after := #[{ on := 3, ground := Go.Ground.data }, { on := 11, ground := Go.Ground.data }], guard := none }) (v := ?_) rfl (by kernel_rfl) (by kernel_rfl) (by kernel_rfl) (fun _ _ _ h => h) (Or.inl ⟨by rfl, ?_⟩) (by assumption) ?_
  rotate_left
  · intro w hSw
    (try dsimp only at hSw)
    go_simp
    try (with_reducible rfl)
  try simp only [Act.put, List.setIfInBounds_toArray, List.set_cons_zero, List.set_cons_succ]
  refine wpAnyH_take (i := 13) (oi := { dst := some 4, op := Go.Op.assign (Go.Operand.tmp 17), type := 82, pos := "ring.go:100", after := #[{ on := 12, ground := Go.Ground.data }, { on := 0, ground := Go.Ground.phase }, { on := 1, ground := Go.Ground.phase }, { on := 2, ground := Go.Ground.phase }, { on := 3, ground := Go.Ground.phase }, { on := 4, ground := Go.Ground.phase }, { on := 5, ground := Go.Ground.phase }, { on := 6, ground := Go.Ground.phase }, { on := 7, ground := Go.Ground.phase }, { on := 8, ground := Go.Ground.phase }, { on := 9, ground := Go.Ground.phase }, { on := 10, ground := Go.Ground.phase }, { on := 11, ground := Go.Ground.phase }, { on := 12, ground := Go.Ground.phase }], guard := none }) (v := ?_) rfl (by kernel_rfl) (by kernel_rfl) (by kernel_rfl) (fun _ _ _ h => h) (Or.inl ⟨by rfl, ?_⟩) (by assumption) ?_
  rotate_left
  · intro w hSw
    (try dsimp only at hSw)
    go_simp
    try (with_reducible rfl)
  try simp only [Act.put, List.setIfInBounds_toArray, List.set_cons_zero, List.set_cons_succ]
  refine wpAnyH_done (by kernel_rfl) ?_ _
  go_wp2
  go_ret
  exact ⟨rfl, rfl⟩
set_option maxRecDepth 100000 in
set_option maxHeartbeats 1000000 in
theorem pushI_full (r b N : Nat) (all : List (List Value)) (out : Nat) (z : Int) (hf : all.length = out + N) (hs : all.length ≤ 900000) (w : World) (h : RgI w r b N all out) :
    Calls Try.prog 32 #[.pointer (some ⟨r, 0, none⟩), .int .i64 z] w fun e w' => e = .returned (.bool false) ∧ RgI w' r b N all out ∧ Tch w w' [r, b] := by
  have HR := Lib.hid h
  have HN0 := roomI_e r b N all out hs w h
  rw [show (N : Int) - ((all.length : Int) - (out : Int)) = 0 by omega] at HN0
  have HN1 := Lib.hid HN0
  clear HN0 hf hs h
  go_enter Try.func32, Try.ntmps32
  go_wp2_with (go_at_call 34; (with_reducible refine Calls.mono HN1.out ?_); rintro e w' ⟨rfl, rfl⟩)
  go_ret
  exact ⟨rfl, HR.out.tch (Tch.refl w []).drew (by simp) (by simp), (Tch.refl _ _).drew⟩
set_option maxRecDepth 100000 in
set_option maxHeartbeats 1000000 in
theorem pushI_ok (r b N : Nat) (all : List (List Value)) (out : Nat) (z : Int) (hf : all.length < out + N) (hs : all.length ≤ 900000) (w : World) (h : RgI w r b N all out) :
    Calls Try.prog 32 #[.pointer (some ⟨r, 0, none⟩), .int .i64 z] w fun e w' => e = .returned (.bool true) ∧ RgI w' r b N (all ++ [[.int .i64 z]]) out ∧ Tch w w' [r, b] := by
  have HR := Lib.hid h
  obtain ⟨cur, h1, h2, h3, h4, k, rfl, hk⟩ := h
  have HE := Lib.hid h3
  have HB := Lib.hid h1
  have HB2 := Lib.hid h2
  have hp := two_pow16 hk
  have hle := h3.le
  have hrm := h3.room
  have hsz := h3.size
  have c0 := (h1.cell 0).trans (show _ = some (Value.slice (some ⟨b, 0, none⟩) (2 ^ k) (2 ^ k)) by rfl)
  have c1 := (h1.cell 1).trans (show _ = some (Value.int .u64 (out : Int)) by rfl)
  have c2 := (h1.cell 2).trans (show _ = some (Value.int .u64 (all.length : Int)) by rfl)
  have HC := Lib.hid (And.intro c0 (And.intro c1 c2))
  have HPl := Lib.hid (fun x hx W hW => slotI_any r b (2 ^ k) all out x hx W hW)
  have HLn := Lib.hid (fun W hW => lenI_any r b (2 ^ k) all out hs W hW)
  have HRm := Lib.hid (fun W hW => roomI_e r b (2 ^ k) all out hs W hW)
  obtain ⟨N, hN⟩ : ∃ N : Nat, 2 ^ k = N := ⟨_, rfl⟩
  rw [hN] at c0 HC HB HE HR HPl HLn HRm hp hrm hsz
  try rw [hN]
  obtain ⟨L, hL⟩ : ∃ L : Nat, all.length = L := ⟨_, rfl⟩
  rw [hL] at c2 HC HB hs hle hrm HLn HRm
  have HLL := Lib.hid hL
  rw [hL, hN] at hf
  have HN1 := Lib.hid (HRm.out w HR.out)
  have j3 : IntKind.u64.wrap ((L : Int) + 1) = (L : Int) + 1 := by rw [IntKind.wrap_u64]; omega
  obtain ⟨rm, hr⟩ : ∃ rm : Nat, (N : Int) - ((L : Int) - (out : Int)) = (rm : Int) := ⟨N + out - L, by omega⟩
  rw [hr] at HN1
  have q1 : ((rm : Int) == (0 : Int)) = false := by simp; omega
  have q2 : ¬ rm = 0 := by omega
  have q3 : ¬ (rm : Int) = 0 := by omega
  have hm := Nat.mod_lt L (y := N) hp.1
  have HP := Lib.hid (HPl.out L (by omega) w.drew (HR.out.tch (Tch.refl w []).drew (by simp) (by simp)))
  have HA2 := Lib.hid (aload_any r 2 (L : Int) w.drew c2)
  obtain ⟨m, hM⟩ : ∃ m : Nat, L % N = m := ⟨_, rfl⟩
  rw [hM] at hm HP
  have HM := Lib.hid hM
  obtain ⟨old, ho⟩ : ∃ old, cur[m]? = some old := ⟨_, Array.getElem?_eq_getElem (by omega)⟩
  have o1 := (h2.cell m).trans ho
  have o2 := h2.frozen m
  have HF := Lib.hid hf
  have HO := Lib.hid ho
  have HNe := Lib.hid h4
  have HW1 : Hid (Blk (w.setCell ⟨b, m, none⟩ (.int .i64 z)).drew.drew r 81 #[.slice (some ⟨b, 0, none⟩) N N, .int .u64 (out : Int), .int .u64 (L : Int)]) := Lib.hid (HB.out.far h4 _)
  have HW2 : Hid (Blk (w.setCell ⟨b, m, none⟩ (.int .i64 z)).drew.drew b 3 (cur.setIfInBounds m (.int .i64 z))) := Lib.hid (HB2.out.set_ m _)
  have HS := Lib.hid (astore_any r 2 (.int .u64 (L : Int)) ((L : Int) + 1) ((w.setCell ⟨b, m, none⟩ (.int .i64 z)).drew.drew) ((HW1.out.cell 2).trans rfl) (HW1.out.frozen 2))
  clear h1 h2 h3 h4 hk hL hf hN hp hle hrm hsz hs hM hm ho hr
  go_enter Try.func32, Try.ntmps32
  go_wp2_with (first | (go_at_call 34; (with_reducible refine Calls.mono HN1.out ?_); rintro e w' ⟨rfl, rfl⟩) | (go_at_call 39; (with_reducible refine Calls.mono HA2.out ?_); rintro e w' ⟨rfl, rfl⟩) | (go_at_call 49; (with_reducible refine Calls.mono HP.out ?_); rintro e w' ⟨rfl, rfl⟩) | (go_at_call 41; (with_reducible refine Calls.mono HS.out ?_); rintro e w' ⟨rfl, rfl⟩))
  go_ret
  refine ⟨rfl, ⟨cur.setIfInBounds m (.int .i64 z), ?_, HW2.out.far HNe.out.symm _, HE.out.push (by rw [HLL.out]; exact HF.out) rfl ?_ ?_, HNe.out, HR.out.pow⟩, ?_⟩
  · have := HW1.out.set_ 2 (.int .u64 ((L : Int) + 1))
    rw [List.length_append, HLL.out]
    exact this
  · rw [HLL.out, HM.out]
    have := (offP.refl cur 1 m).set_ (k := 0) (by decide) (.int .i64 z)
    rwa [Nat.mul_one, Nat.add_zero] at this
  · intro i hi
    obtain rfl : i = 0 := by omega
    rw [HLL.out, HM.out, Nat.mul_one, Nat.add_zero]
    have := (Array.getElem?_eq_some_iff.1 HO.out).1
    simp [this]
  · exact ((((Tch.refl w [r, b]).set_ (p := ⟨b, m, none⟩) (by simp) _).drew).drew).set_ (p := ⟨r, 2, none⟩) (by simp) _
set_option maxRecDepth 100000 in
set_option maxHeartbeats 1000000 in
theorem popI_none (r b N : Nat) (all : List (List Value)) (out : Nat) (hf : out = all.length) (hs : all.length ≤ 900000) (w : World) (h : RgI w r b N all out) :
    Calls Try.prog 33 #[.pointer (some ⟨r, 0, none⟩)] w fun e w' => e = .returned (.tuple #[.int .i64 0, .bool false]) ∧ RgI w' r b N all out ∧ Tch w w' [r, b] := by
  have HR := Lib.hid h
  have HN0 := lenI_any r b N all out hs w h
  rw [show (all.length : Int) - (out : Int) = 0 by omega] at HN0
  have HN1 := Lib.hid HN0
  clear HN0 hf hs h
  go_enter Try.func33, Try.ntmps33
  go_wp2_with (go_at_call 35; (with_reducible refine Calls.mono HN1.out ?_); rintro e w' ⟨rfl, rfl⟩)
  exact bodyPost_ret (v := .tuple #[.int .i64 0, .bool false]) (by simp [results, Try.results33, go_sem]) rfl ⟨rfl, HR.out, Tch.refl _ _⟩
set_option maxRecDepth 100000 in
set_option maxHeartbeats 1000000 in
theorem popI_ok (r b N : Nat) (all : List (List Value)) (out : Nat) (z : Int) (he : all[out]? = some [.int .i64 z]) (hs : all.length ≤ 900000) (w : World) (h : RgI w r b N all out) :
    Calls Try.prog 33 #[.pointer (some ⟨r, 0, none⟩)] w fun e w' => e = .returned (.tuple #[.int .i64 z, .bool true]) ∧ RgI w' r b N all (out + 1) ∧ Tch w w' [r, b] := by
  have hf : out < all.length := (List.getElem?_eq_some_iff.1 he).1
  have HR := Lib.hid h
  obtain ⟨cur, h1, h2, h3, h4, k, rfl, hk⟩ := h
  have HE := Lib.hid h3
  have HB := Lib.hid h1
  have HB2 := Lib.hid h2
  have hp := two_pow16 hk
  have hle := h3.le
  have hrm := h3.room
  have hsz := h3.size
  have c0 := (h1.cell 0).trans (show _ = some (Value.slice (some ⟨b, 0, none⟩) (2 ^ k) (2 ^ k)) by rfl)
  have c1 := (h1.cell 1).trans (show _ = some (Value.int .u64 (out : Int)) by rfl)
  have c2 := (h1.cell 2).trans (show _ = some (Value.int .u64 (all.length : Int)) by rfl)
  have HC := Lib.hid (And.intro c0 (And.intro c1 c2))
  have HPl := Lib.hid (fun x hx W hW => slotI_any r b (2 ^ k) all out x hx W hW)
  have HLn := Lib.hid (fun W hW => lenI_any r b (2 ^ k) all out hs W hW)
  have HRm := Lib.hid (fun W hW => roomI_e r b (2 ^ k) all out hs W hW)
  obtain ⟨N, hN⟩ : ∃ N : Nat, 2 ^ k = N := ⟨_, rfl⟩
  rw [hN] at c0 HC HB HE HR HPl HLn HRm hp hrm hsz
  try rw [hN]
  obtain ⟨L, hL⟩ : ∃ L : Nat, all.length = L := ⟨_, rfl⟩
  rw [hL] at c2 HC HB hs hle hrm HLn HRm
  have HLL := Lib.hid hL
  rw [hL] at hf
  have HN1 := Lib.hid (HLn.out w HR.out)
  obtain ⟨rm, hr⟩ : ∃ rm : Nat, (L : Int) - (out : Int) = (rm : Int) := ⟨L - out, by omega⟩
  rw [hr] at HN1
  have q1 : ((rm : Int) == (0 : Int)) = false := by simp; omega
  have q2 : ¬ rm = 0 := by omega
  have q3 : ¬ (rm : Int) = 0 := by omega
  have j3 : IntKind.u64.wrap ((out : Int) + 1) = (out : Int) + 1 := by rw [IntKind.wrap_u64]; omega
  have hm := Nat.mod_lt out (y := N) hp.1
  have HP := Lib.hid (HPl.out out (by omega) w HR.out)
  have HA1 := Lib.hid (aload_any r 1 (out : Int) w c1)
  have o1 := (h2.cell (out % N)).trans ((by simpa using HE.out.at_ out _ (Nat.le_refl _) he 0 (by decide)) : cur[out % N]? = some (.int .i64 z))
  have o2 := h2.frozen (out % N)
  obtain ⟨m, hM⟩ : ∃ m : Nat, out % N = m := ⟨_, rfl⟩
  rw [hM] at hm HP o1 o2
  have HM := Lib.hid hM
  have HF := Lib.hid hf
  have HNe := Lib.hid h4
  have HW1 : Hid (Blk (w.setCell ⟨b, m, none⟩ (.int .i64 0)).drew r 81 #[.slice (some ⟨b, 0, none⟩) N N, .int .u64 (out : Int), .int .u64 (L : Int)]) := Lib.hid (HB.out.far h4 _)
  have HW2 : Hid (Blk (w.setCell ⟨b, m, none⟩ (.int .i64 0)).drew b 3 (cur.setIfInBounds m (.int .i64 0))) := Lib.hid (HB2.out.set_ m _)
  have HS := Lib.hid (astore_any r 1 (.int .u64 (out : Int)) ((out : Int) + 1) ((w.setCell ⟨b, m, none⟩ (.int .i64 0)).drew) ((HW1.out.cell 1).trans rfl) (HW1.out.frozen 1))
  clear h1 h2 h3 h4 hk hL hf hN hp hle hrm hsz hs hM hm he hr
  go_enter Try.func33, Try.ntmps33
  go_wp2_with (first | (go_at_call 35; (with_reducible refine Calls.mono HN1.out ?_); rintro e w' ⟨rfl, rfl⟩) | (go_at_call 39; (with_reducible refine Calls.mono HA1.out ?_); rintro e w' ⟨rfl, rfl⟩) | (go_at_call 49; (with_reducible refine Calls.mono HP.out ?_); rintro e w' ⟨rfl, rfl⟩) | (go_at_call 41; (with_reducible refine Calls.mono HS.out ?_); rintro e w' ⟨rfl, rfl⟩))
  refine bodyPost_ret (v := .tuple #[.int .i64 z, .bool true]) (by simp [results, Try.results33, go_sem]) rfl ⟨rfl, ⟨cur.setIfInBounds m (.int .i64 0), ?_, HW2.out.far HNe.out.symm _, HE.out.pop (by rw [HLL.out]; exact HF.out) ?_, HNe.out, HR.out.pow⟩, ?_⟩
  · have := HW1.out.set_ 1 (.int .u64 ((out : Int) + 1))
    rw [HLL.out]
    exact this
  · rw [HM.out]
    have := (offP.refl cur 1 m).set_ (k := 0) (by decide) (.int .i64 0)
    rwa [Nat.mul_one, Nat.add_zero] at this
  · exact (((Tch.refl w [r, b]).set_ (p := ⟨b, m, none⟩) (by simp) _).drew).set_ (p := ⟨r, 1, none⟩) (by simp) _
set_option maxRecDepth 100000 in
set_option maxHeartbeats 1000000 in
theorem peekI_bad (r b N : Nat) (all : List (List Value)) (out : Nat) (i : Int) (hi : i < 0 ∨ (all.length : Int) - (out : Int) ≤ i) (hs : all.length ≤ 900000) (w : World) (h : RgI w r b N all out) :
    Calls Try.prog 36 #[.pointer (some ⟨r, 0, none⟩), .int .i64 i] w fun e w' => e = .returned (.tuple #[.int .i64 0, .bool false]) ∧ Tch w w' [] := by
  have HN := Lib.hid (lenI_any r b N all out hs w h)
  obtain ⟨L, hL⟩ : ∃ L : Nat, all.length = L := ⟨_, rfl⟩
  rw [hL] at HN hi
  clear hL hs h
  by_cases h0 : i < 0
  · clear hi
    go_enter Try.func36, Try.ntmps36
    go_wp2
    exact bodyPost_ret (v := .tuple #[.int .i64 0, .bool false]) (by simp [results, Try.results36, go_sem]) rfl ⟨rfl, Tch.refl _ _⟩
  · have h1 : (L : Int) - (out : Int) ≤ i := by omega
    clear hi
    go_enter Try.func36, Try.ntmps36
    go_wp2_with (go_at_call 35; (with_reducible refine Calls.mono HN.out ?_); rintro e w' ⟨rfl, rfl⟩)
    exact bodyPost_ret (v := .tuple #[.int .i64 0, .bool false]) (by simp [results, Try.results36, go_sem]) rfl ⟨rfl, Tch.refl _ _⟩
set_option maxRecDepth 100000 in
set_option maxHeartbeats 1000000 in
theorem peekI_ok (r b N : Nat) (all : List (List Value)) (out : Nat) (j : Nat) (z : Int) (he : all[out + j]? = some [.int .i64 z]) (hs : all.length ≤ 900000) (w : World) (h : RgI w r b N all out) :
    Calls Try.prog 36 #[.pointer (some ⟨r, 0, none⟩), .int .i64 (j : Int)] w fun e w' => e = .returned (.tuple #[.int .i64 z, .bool true]) ∧ Tch w w' [] := by
  have hf : out + j < all.length := (List.getElem?_eq_some_iff.1 he).1
  have HR := Lib.hid h
  obtain ⟨cur, h1, h2, h3, h4, k, rfl, hk⟩ := h
  have HE := Lib.hid h3
  have HB := Lib.hid h1
  have HB2 := Lib.hid h2
  have hp := two_pow16 hk
  have hle := h3.le
  have hrm := h3.room
  have hsz := h3.size
  have c0 := (h1.cell 0).trans (show _ = some (Value.slice (some ⟨b, 0, none⟩) (2 ^ k) (2 ^ k)) by rfl)
  have c1 := (h1.cell 1).trans (show _ = some (Value.int .u64 (out : Int)) by rfl)
  have c2 := (h1.cell 2).trans (show _ = some (Value.int .u64 (all.length : Int)) by rfl)
  have HC := Lib.hid (And.intro c0 (And.intro c1 c2))
  have HPl := Lib.hid (fun x hx W hW => slotI_any r b (2 ^ k) all out x hx W hW)
  have HLn := Lib.hid (fun W hW => lenI_any r b (2 ^ k) all out hs W hW)
  have HRm := Lib.hid (fun W hW => roomI_e r b (2 ^ k) all out hs W hW)
  obtain ⟨N, hN⟩ : ∃ N : Nat, 2 ^ k = N := ⟨_, rfl⟩
  rw [hN] at c0 HC HB HE HR HPl HLn HRm hp hrm hsz
  try rw [hN]
  obtain ⟨L, hL⟩ : ∃ L : Nat, all.length = L := ⟨_, rfl⟩
  rw [hL] at c2 HC HB hs hle hrm HLn HRm
  have HLL := Lib.hid hL
  rw [hL] at hf
  have HN := Lib.hid (HLn.out w HR.out)
  have hm := Nat.mod_lt (out + j) (y := N) hp.1
  have HP := HPl.out (out + j) (by omega) w HR.out
  have o1 := (h2.cell ((out + j) % N)).trans ((by simpa using HE.out.at_ (out + j) _ (by omega) he 0 (by decide)) : cur[(out + j) % N]? = some (.int .i64 z))
  obtain ⟨m, hM⟩ : ∃ m : Nat, (out + j) % N = m := ⟨_, rfl⟩
  rw [hM] at hm HP o1
  rw [show ((out + j : Nat) : Int) = (out : Int) + (j : Int) from Int.natCast_add _ _] at HP
  have HQ := Lib.hid HP
  have i0 : ¬ (j : Int) < 0 := by omega
  have i1 : ¬ (L : Int) - (out : Int) ≤ (j : Int) := by omega
  have j1 : IntKind.u64.wrap (j : Int) = (j : Int) := by rw [IntKind.wrap_u64]; omega
  have j2 : IntKind.u64.wrap ((out : Int) + (j : Int)) = (out : Int) + (j : Int) := by rw [IntKind.wrap_u64]; omega
  have HA3 := Lib.hid (aload_any r 1 (out : Int) w c1)
  clear h1 h2 h3 h4 hk hL hf hN hp hle hrm hsz hs hM hm he HP
  go_enter Try.func36, Try.ntmps36
  go_wp2_with (first | (go_at_call 35; (with_reducible refine Calls.mono HN.out ?_); rintro e w' ⟨rfl, rfl⟩) | (go_at_call 39; (with_reducible refine Calls.mono HA3.out ?_); rintro e w' ⟨rfl, rfl⟩) | (go_at_call 49; (with_reducible refine Calls.mono HQ.out ?_); rintro e w' ⟨rfl, rfl⟩))
  exact bodyPost_ret (v := .tuple #[.int .i64 z, .bool true]) (by simp [results, Try.results36, go_sem]) rfl ⟨rfl, (Tch.refl _ _).drew⟩
theorem pushedI_any (r b N : Nat) (all : List (List Value)) (out : Nat) (w : World) (h : RgI w r b N all out) :
    Calls Try.prog 37 #[.pointer (some ⟨r, 0, none⟩)] w fun e w' => e = .returned (.int .u64 (all.length : Int)) ∧ Tch w w' [] := by
  refine (pushedI_e r b N all out w h).mono ?_
  rintro e w' ⟨h1, rfl⟩
  exact ⟨h1, Tch.refl _ _⟩
theorem poppedI_any (r b N : Nat) (all : List (List Value)) (out : Nat) (w : World) (h : RgI w r b N all out) :
    Calls Try.prog 38 #[.pointer (some ⟨r, 0, none⟩)] w fun e w' => e = .returned (.int .u64 (out : Int)) ∧ Tch w w' [] := by
  refine (poppedI_e r b N all out w h).mono ?_
  rintro e w' ⟨h1, rfl⟩
  exact ⟨h1, Tch.refl _ _⟩
theorem roomI_any (r b N : Nat) (all : List (List Value)) (out : Nat) (hs : all.length ≤ 900000) (w : World) (h : RgI w r b N all out) :
    Calls Try.prog 34 #[.pointer (some ⟨r, 0, none⟩)] w fun e w' => e = .returned (.int .i64 ((N : Int) - ((all.length : Int) - (out : Int)))) ∧ Tch w w' [] := by
  refine (roomI_e r b N all out hs w h).mono ?_
  rintro e w' ⟨h1, rfl⟩
  exact ⟨h1, (Tch.refl _ _).drew⟩
end Go.Proofs.Ytogbchahfkphoaa
