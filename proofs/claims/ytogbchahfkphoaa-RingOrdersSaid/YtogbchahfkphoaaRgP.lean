/-
  The program's ring of elements of type crosswaylaw12.Step (layer 12).
-/
import Derived.Test.YtogbchahfkphoaaRgA
import Derived.Test.YtogbchahfkphoaaSta
import Derived.Laws.MakeOwn
namespace Go.Proofs.Ytogbchahfkphoaa
open Go.RowKit
set_option linter.unusedVariables false

/-- A ring with room for N elements. -/
def RgP (w : World) (r b N : Nat) (all : List (List Value)) (out : Nat) : Prop := ∃ cur, Blk w r 72 #[.slice (some ⟨b, 0, none⟩) N N, .int .u64 (out : Int), .int .u64 (all.length : Int)] ∧ Blk w b 29 cur ∧ RgC cur 3 N all out ∧ r ≠ b ∧ ∃ k, N = 2 ^ k ∧ k ≤ 16
section
variable {w w' : World} {r b N out : Nat} {all : List (List Value)}
theorem RgP.lt (h : RgP w r b N all out) : r < w.heap.size ∧ b < w.heap.size := by
  obtain ⟨cur, h1, h2, -⟩ := h
  exact ⟨h1.lt, h2.lt⟩
theorem RgP.le (h : RgP w r b N all out) : out ≤ all.length ∧ all.length ≤ out + N ∧ 0 < N ∧ N ≤ 65536 := by
  obtain ⟨cur, h1, h2, h3, h4, k, rfl, hk⟩ := h
  exact ⟨h3.le, h3.room, h3.pos, (two_pow16 hk).2⟩
theorem RgP.pow (h : RgP w r b N all out) : ∃ k, N = 2 ^ k ∧ k ≤ 16 := by
  obtain ⟨cur, h1, h2, h3, h4, h5⟩ := h
  exact h5
theorem RgP.tch {S : List Nat} (h : RgP w r b N all out) (ht : Tch w w' S) (h1 : r ∉ S) (h2 : b ∉ S) : RgP w' r b N all out := by
  obtain ⟨cur, h3, h4, h5⟩ := h
  exact ⟨cur, ht.blk h3 h1, ht.blk h4 h2, h5⟩
theorem RgP.below (h : RgP w r b N all out) (hb : Below w.heap.size w w') : RgP w' r b N all out := h.tch (Tch.of_below [] hb) (by simp) (by simp)
end
set_option maxHeartbeats 1000000 in
theorem newP_bad (O : Int) (h : O < 0 ∨ 16 < O) (w : World) : Calls Try.prog 22 #[.int .i64 O] w fun e w' => e = .returned (.pointer none) ∧ w = w' := by
  by_cases h0 : O < 0
  · clear h
    go_enter Try.func22, Try.ntmps22
    go_wp2
    go_ret
    exact ⟨rfl, rfl⟩
  · have h2 : 16 < O := by omega
    clear h
    go_enter Try.func22, Try.ntmps22
    go_wp2
    go_ret
    exact ⟨rfl, rfl⟩
theorem infoP : (Try.prog.info? 29).map (fun i => (i.zero, i.size, i.bytes)) = some (some (.agg #[.int .i64 0, .int .i64 0, .string ⟨#[]⟩]), 3, 32) := by kernel_rfl
theorem sizeP : (Try.prog.info? 29).map (·.size) = some 3 := by kernel_rfl
theorem run_makeN {P : Program} (t e : TypeId) (z : Value) (size bytes : Nat) (ht : P.underlying t = some (.slice e)) (hinfo : (P.info? e).map (fun i => (i.zero, i.size, i.bytes)) = some (some z, size, bytes))
    (kl kc : IntKind) (n : Nat) (hbytes : bytes * n ≤ 281474976710656) (h63 : n ≤ 9223372036854775807) (w : World) :
    (Instr.makeSlice t (.int kl (n : Int)) (.int kc (n : Int))).run P w = .ok (.slice (some ⟨w.heap.size, 0, none⟩) n n) (w.alloc (.cells (madeCells z.cells (n * size)) e)) := by
  obtain ⟨i, hi, hzz⟩ := Option.map_eq_some_iff.1 hinfo
  simp only [Prod.mk.injEq] at hzz
  obtain ⟨hz, hs, hb⟩ := hzz
  have hb' : (i.bytes : Int) * (n : Int) ≤ 281474976710656 := by
    have h : ((i.bytes * n : Nat) : Int) ≤ 281474976710656 := by rw [hb]; omega
    rwa [Int.natCast_mul] at h
  have hr := run_make (P := P) w t e i z ht hi hz kl kc n n (by omega) (Int.le_refl _) hb' (by omega)
  simp only [Int.toNat_natCast, hs] at hr
  exact hr
set_option maxHeartbeats 1000000 in
theorem newP_ok (k : Nat) (hk : k ≤ 16) (w : World) : Calls Try.prog 22 #[.int .i64 (k : Int)] w fun e w' => ∃ r b, e = .returned (.pointer (some ⟨r, 0, none⟩)) ∧ RgP w' r b (2 ^ k) [] 0 ∧ Below w.heap.size w w' ∧ w.heap.size ≤ r ∧ w.heap.size ≤ b := by
  have h0 : ¬ (k : Int) < 0 := by omega
  have h1 : ¬ (16 : Int) < k := by omega
  have hp := two_pow16 hk
  have j1 : IntKind.i64.wrap ((2 : Int) ^ k) = ((2 ^ k : Nat) : Int) := by
    have e : ((2 : Int) ^ k) = ((2 ^ k : Nat) : Int) := by simp
    rw [e, IntKind.wrap_i64]; omega
  have HK : Hid (∃ k', 2 ^ k = 2 ^ k' ∧ k' ≤ 16) := Lib.hid ⟨k, rfl, hk⟩
  obtain ⟨N, hN⟩ : ∃ N : Nat, 2 ^ k = N := ⟨_, rfl⟩
  rw [hN] at hp j1 HK ⊢
  have hmk := run_makeN (P := Try.prog) 22 29 (.agg #[.int .i64 0, .int .i64 0, .string ⟨#[]⟩]) 3 32 Try.underlying22 infoP .i64 .i64 N (by omega) (by omega) w
  obtain ⟨cur, hcur⟩ : ∃ cur, madeCells (Value.agg #[.int .i64 0, .int .i64 0, .string ⟨#[]⟩]).cells (N * 3) = cur := ⟨_, rfl⟩
  have HCS : Hid (cur.size = N * 3) := Lib.hid (by rw [← hcur]; simp [madeCells])
  rw [hcur] at hmk
  have HP := Lib.hid hp
  clear hN hp hk hcur
  go_enter Try.func22, Try.ntmps22
  go_wp2
  go_ret
  refine ⟨w.heap.size + 1, rfl, w.heap.size, ⟨cur, ?_, (Blk.new _ _ _).alloc _, RgC.new HCS.out HP.out.1, by omega, HK.out⟩, ((Below.refl _ _).alloc (Nat.le_refl _) _).alloc (by simp) _, by omega, Nat.le_refl _⟩
  have := Blk.new (w.alloc (.cells cur 29)) 72 #[.slice (some ⟨w.heap.size, 0, none⟩) N N, .int .u64 (0 : Int), .int .u64 (0 : Int)]
  rwa [World.size_alloc] at this
theorem remP {N x : Nat} (hN : 0 < N) : Int.tmod (x : Int) (N : Int) = ((x % N : Nat) : Int) := by
  rw [Int.tmod_eq_emod_of_nonneg (by omega)]; rfl
set_option maxRecDepth 100000 in
set_option maxHeartbeats 1000000 in
theorem pushedP_e (r b N : Nat) (all : List (List Value)) (out : Nat) (w : World) (h : RgP w r b N all out) :
    Calls Try.prog 44 #[.pointer (some ⟨r, 0, none⟩)] w fun e w' => e = .returned (.int .u64 (all.length : Int)) ∧ w = w' := by
  obtain ⟨cur, h1, -⟩ := h
  have c2 := (h1.cell 2).trans (show _ = some (Value.int .u64 (all.length : Int)) by rfl)
  obtain ⟨L, hL⟩ : ∃ L : Int, (all.length : Int) = L := ⟨_, rfl⟩
  rw [hL] at c2 ⊢
  clear h1 hL
  go_enter Try.func44, Try.ntmps44
  go_wp2_with (go_at_call 39; (with_reducible refine Calls.mono (aload_any r 2 _ _ c2) ?_); rintro e w' ⟨rfl, rfl⟩)
  go_ret
  exact ⟨rfl, rfl⟩
set_option maxRecDepth 100000 in
set_option maxHeartbeats 1000000 in
theorem poppedP_e (r b N : Nat) (all : List (List Value)) (out : Nat) (w : World) (h : RgP w r b N all out) :
    Calls Try.prog 43 #[.pointer (some ⟨r, 0, none⟩)] w fun e w' => e = .returned (.int .u64 (out : Int)) ∧ w = w' := by
  obtain ⟨cur, h1, -⟩ := h
  have c1 := (h1.cell 1).trans (show _ = some (Value.int .u64 (out : Int)) by rfl)
  obtain ⟨L, hL⟩ : ∃ L : Int, (out : Int) = L := ⟨_, rfl⟩
  rw [hL] at c1 ⊢
  clear h1 hL
  go_enter Try.func43, Try.ntmps43
  go_wp2_with (go_at_call 39; (with_reducible refine Calls.mono (aload_any r 1 _ _ c1) ?_); rintro e w' ⟨rfl, rfl⟩)
  go_ret
  exact ⟨rfl, rfl⟩
set_option maxRecDepth 100000 in
set_option maxHeartbeats 1000000 in
theorem lenP_any (r b N : Nat) (all : List (List Value)) (out : Nat) (hs : all.length ≤ 900000) (w : World) (h : RgP w r b N all out) :
    Calls Try.prog 26 #[.pointer (some ⟨r, 0, none⟩)] w fun e w' => e = .returned (.int .i64 ((all.length : Int) - (out : Int))) ∧ w = w' := by
  have HA1 := Lib.hid (poppedP_e r b N all out w h)
  have HA2 := Lib.hid (pushedP_e r b N all out w h)
  have hle := h.le
  obtain ⟨L, hL⟩ : ∃ L : Nat, all.length = L := ⟨_, rfl⟩
  rw [hL] at HA2 hs hle ⊢
  have j1 : IntKind.u64.wrap ((L : Int) - (out : Int)) = (L : Int) - (out : Int) := by rw [IntKind.wrap_u64]; omega
  have j2 : IntKind.i64.wrap ((L : Int) - (out : Int)) = (L : Int) - (out : Int) := by rw [IntKind.wrap_i64]; omega
  clear hL hle hs h
  go_enter Try.func26, Try.ntmps26
  go_wp2_with (first | (go_at_call 43; (with_reducible refine Calls.mono HA1.out ?_); rintro e w' ⟨rfl, rfl⟩) | (go_at_call 44; (with_reducible refine Calls.mono HA2.out ?_); rintro e w' ⟨rfl, rfl⟩))
  go_ret
  exact ⟨rfl, rfl⟩
set_option maxRecDepth 100000 in
set_option maxHeartbeats 1000000 in
theorem roomP_e (r b N : Nat) (all : List (List Value)) (out : Nat) (hs : all.length ≤ 900000) (w : World) (h : RgP w r b N all out) :
    Calls Try.prog 23 #[.pointer (some ⟨r, 0, none⟩)] w fun e w' => e = .returned (.int .i64 ((N : Int) - ((all.length : Int) - (out : Int)))) ∧ w.drew = w' := by
  have HN := Lib.hid (lenP_any r b N all out hs w.drew (h.tch (Tch.refl w []).drew (by simp) (by simp)))
  have hle := h.le
  obtain ⟨cur, h1, -⟩ := h
  have c0 := (h1.cell 0).trans (show _ = some (Value.slice (some ⟨b, 0, none⟩) N N) by rfl)
  have HC := Lib.hid c0
  obtain ⟨L, hL⟩ : ∃ L : Nat, all.length = L := ⟨_, rfl⟩
  rw [hL] at HN hs hle ⊢
  have j2 : IntKind.i64.wrap ((N : Int) - ((L : Int) - (out : Int))) = (N : Int) - ((L : Int) - (out : Int)) := by rw [IntKind.wrap_i64]; omega
  clear hL hle hs h1
  go_enter Try.func23, Try.ntmps23
  go_wp2
  refine wp_region_held_drew (S := (fun W => W.cell? ⟨r, 0, none⟩ = some (.slice (some ⟨b, 0, none⟩) N N))) (by kernel_rfl) ?_ (fun hHeld => ?_)
  · (exact HC.out)
  refine wpAnyH_take (i := 0) (oi := { dst := some 5, op := Go.Op.move (Go.Operand.tmp 0), type := 42, pos := "ring.go:79", after := #[], guard := none }) (v := ?_) rfl (by kernel_rfl) (by kernel_rfl) (by kernel_rfl) (fun _ _ _ h => h) (Or.inl ⟨by rfl, ?_⟩) (by assumption) ?_
  rotate_left
  · intro w hSw
    (try dsimp only at hSw)
    go_simp
    try (with_reducible rfl)
  try simp only [Act.put, List.setIfInBounds_toArray, List.set_cons_zero, List.set_cons_succ]
  refine wpAnyH_take (i := 1) (oi := { dst := some 6, op := Go.Op.nilCheck (Go.Operand.tmp 5), type := 0, pos := "ring.go:79", after := #[{ on := 0, ground := Go.Ground.data }], guard := none }) (v := ?_) rfl (by kernel_rfl) (by kernel_rfl) (by kernel_rfl) (fun _ _ _ h => h) (Or.inl ⟨by rfl, ?_⟩) (by assumption) ?_
  rotate_left
  · intro w hSw
    (try dsimp only at hSw)
    go_simp
    try (with_reducible rfl)
  try simp only [Act.put, List.setIfInBounds_toArray, List.set_cons_zero, List.set_cons_succ]
  refine wpAnyH_take (i := 2) (oi := { dst := some 7, op := Go.Op.fieldAddr 72 (Go.Operand.tmp 6) 0, type := 0, pos := "ring.go:79", after := #[{ on := 1, ground := Go.Ground.data }], guard := none }) (v := ?_) rfl (by kernel_rfl) (by kernel_rfl) (by kernel_rfl) (fun _ _ _ h => h) (Or.inl ⟨by rfl, ?_⟩) (by assumption) ?_
  rotate_left
  · intro w hSw
    (try dsimp only at hSw)
    go_simp
    try (with_reducible rfl)
  try simp only [Act.put, List.setIfInBounds_toArray, List.set_cons_zero, List.set_cons_succ]
  refine wpAnyH_take (i := 3) (oi := { dst := some 8, op := Go.Op.load 22 (Go.Operand.tmp 7), type := 22, pos := "ring.go:79", after := #[{ on := 2, ground := Go.Ground.data }], guard := none }) (v := ?_) rfl (by kernel_rfl) (by kernel_rfl) (by kernel_rfl) (fun _ _ _ h => h) (Or.inl ⟨by rfl, ?_⟩) (by assumption) ?_
  rotate_left
  · intro w hSw
    (try dsimp only at hSw)
    go_simp
    try (with_reducible rfl)
  try simp only [Act.put, List.setIfInBounds_toArray, List.set_cons_zero, List.set_cons_succ]
  refine wpAnyH_take (i := 4) (oi := { dst := some 9, op := Go.Op.call { callee := Go.Callee.builtin Go.Builtin.len, args := #[Go.Operand.tmp 8], argTypes := #[22] }, type := 3, pos := "ring.go:79", after := #[{ on := 3, ground := Go.Ground.data }], guard := none }) (v := ?_) rfl (by kernel_rfl) (by kernel_rfl) (by kernel_rfl) (fun _ _ _ h => h) (Or.inl ⟨by rfl, ?_⟩) (by assumption) ?_
  rotate_left
  · intro w hSw
    (try dsimp only at hSw)
    go_simp
    try (with_reducible rfl)
  try simp only [Act.put, List.setIfInBounds_toArray, List.set_cons_zero, List.set_cons_succ]
  refine wpAnyH_take (i := 5) (oi := { dst := some 10, op := Go.Op.move (Go.Operand.tmp 0), type := 42, pos := "ring.go:79", after := #[], guard := none }) (v := ?_) rfl (by kernel_rfl) (by kernel_rfl) (by kernel_rfl) (fun _ _ _ h => h) (Or.inl ⟨by rfl, ?_⟩) (by assumption) ?_
  rotate_left
  · intro w hSw
    (try dsimp only at hSw)
    go_simp
    try (with_reducible rfl)
  try simp only [Act.put, List.setIfInBounds_toArray, List.set_cons_zero, List.set_cons_succ]
  refine wpAnyH_ready (rs := [6]) (by kernel_rfl) (by simp) ?_
  refine AllReadyH.cons (o := { dst := some 11, op := Go.Op.call { callee := Go.Callee.value (Go.Operand.func 26), args := #[Go.Operand.tmp 10], argTypes := #[42] }, type := 3, pos := "ring.go:79", after := #[{ on := 5, ground := Go.Ground.data }], guard := none }) rfl (fun K hK => ?_) AllReadyH.nil
  go_simp
  (go_at_call 26; (with_reducible refine Calls.mono HN.out ?_); rintro e w' ⟨rfl, rfl⟩)
  go_wp2_with fail
  refine hK.out _ _ ?_ (fun hHeld => ?_)
  · (exact HC.out)
  clear hK K
  try simp only [Act.put, List.setIfInBounds_toArray, List.set_cons_zero, List.set_cons_succ]
  refine wpAnyH_take (i := 7) (oi := { dst := some 12, op := Go.Op.binOp Go.BinOp.sub 3 (Go.Operand.tmp 9) (Go.Operand.tmp 11) 3, type := 3, pos := "ring.go:79", after := #[{ on := 4, ground := Go.Ground.data }, { on := 6, ground := Go.Ground.data }], guard := none }) (v := ?_) rfl (by kernel_rfl) (by kernel_rfl) (by kernel_rfl) (fun _ _ _ h => h) (Or.inl ⟨by rfl, ?_⟩) (by assumption) ?_
  rotate_left
  · intro w hSw
    (try dsimp only at hSw)
    go_simp
    try (with_reducible rfl)
  try simp only [Act.put, List.setIfInBounds_toArray, List.set_cons_zero, List.set_cons_succ]
  refine wpAnyH_take (i := 8) (oi := { dst := some 2, op := Go.Op.assign (Go.Operand.tmp 12), type := 3, pos := "ring.go:79", after := #[{ on := 7, ground := Go.Ground.data }, { on := 6, ground := Go.Ground.chain }, { on := 0, ground := Go.Ground.phase }, { on := 1, ground := Go.Ground.phase }, { on := 2, ground := Go.Ground.phase }, { on := 3, ground := Go.Ground.phase }, { on := 4, ground := Go.Ground.phase }, { on := 5, ground := Go.Ground.phase }, { on := 6, ground := Go.Ground.phase }, { on := 7, ground := Go.Ground.phase }], guard := none }) (v := ?_) rfl (by kernel_rfl) (by kernel_rfl) (by kernel_rfl) (fun _ _ _ h => h) (Or.inl ⟨by rfl, ?_⟩) (by assumption) ?_
  rotate_left
  · intro w hSw
    (try dsimp only at hSw)
    go_simp
    try (with_reducible rfl)
  try simp only [Act.put, List.setIfInBounds_toArray, List.set_cons_zero, List.set_cons_succ]
  refine wpAnyH_done (by kernel_rfl) ?_ _
  go_wp2
  go_ret
  exact ⟨rfl, rfl⟩
set_option maxRecDepth 100000 in
set_option maxHeartbeats 1000000 in
theorem slotP_any (r b N : Nat) (all : List (List Value)) (out : Nat) (x : Nat) (hx : x ≤ 1000000) (w : World) (h : RgP w r b N all out) :
    Calls Try.prog 42 #[.pointer (some ⟨r, 0, none⟩), .int .u64 (x : Int)] w fun e w' => e = .returned (.pointer (some ⟨b, (x % N) * 3, none⟩)) ∧ w.drew = w' := by
  have hle := h.le
  obtain ⟨cur, h1, -⟩ := h
  have c0 := (h1.cell 0).trans (show _ = some (Value.slice (some ⟨b, 0, none⟩) N N) by rfl)
  have HC := Lib.hid c0
  have hl := remP (x := x) hle.2.2.1
  have hm := Nat.mod_lt x (y := N) hle.2.2.1
  have q1 : ¬ N = 0 := by omega
  have q2 : ¬ (N : Int) = 0 := by omega
  have j1 : IntKind.u64.wrap (N : Int) = (N : Int) := by rw [IntKind.wrap_u64]; omega
  obtain ⟨m, hM⟩ : ∃ m : Nat, x % N = m := ⟨_, rfl⟩
  rw [hM] at hl hm ⊢
  have j2 : IntKind.u64.wrap (m : Int) = (m : Int) := by rw [IntKind.wrap_u64]; omega
  have j3 : IntKind.i64.wrap (m : Int) = (m : Int) := by rw [IntKind.wrap_i64]; omega
  have m0 : (0 : Int) ≤ (m : Int) := by omega
  have mN : (m : Int) < (N : Int) := by omega
  clear hle hx hM hm h1
  go_enter Try.func42, Try.ntmps42
  go_wp2
  refine wp_region_held_drew (S := (fun W => W.cell? ⟨r, 0, none⟩ = some (.slice (some ⟨b, 0, none⟩) N N))) (by kernel_rfl) ?_ (fun hHeld => ?_)
  · (exact HC.out)
  refine wpAnyH_take (i := 0) (oi := { dst := some 5, op := Go.Op.move (Go.Operand.tmp 0), type := 42, pos := "ring.go:100", after := #[], guard := none }) (v := ?_) rfl (by kernel_rfl) (by kernel_rfl) (by kernel_rfl) (fun _ _ _ h => h) (Or.inl ⟨by rfl, ?_⟩) (by assumption) ?_
  rotate_left
  · intro w hSw
    (try dsimp only at hSw)
    go_simp
    try (with_reducible rfl)
  try simp only [Act.put, List.setIfInBounds_toArray, List.set_cons_zero, List.set_cons_succ]
  refine wpAnyH_take (i := 1) (oi := { dst := some 6, op := Go.Op.nilCheck (Go.Operand.tmp 5), type := 0, pos := "ring.go:100", after := #[{ on := 0, ground := Go.Ground.data }], guard := none }) (v := ?_) rfl (by kernel_rfl) (by kernel_rfl) (by kernel_rfl) (fun _ _ _ h => h) (Or.inl ⟨by rfl, ?_⟩) (by assumption) ?_
  rotate_left
  · intro w hSw
    (try dsimp only at hSw)
    go_simp
    try (with_reducible rfl)
  try simp only [Act.put, List.setIfInBounds_toArray, List.set_cons_zero, List.set_cons_succ]
  refine wpAnyH_take (i := 2) (oi := { dst := some 7, op := Go.Op.fieldAddr 72 (Go.Operand.tmp 6) 0, type := 0, pos := "ring.go:100", after := #[{ on := 1, ground := Go.Ground.data }], guard := none }) (v := ?_) rfl (by kernel_rfl) (by kernel_rfl) (by kernel_rfl) (fun _ _ _ h => h) (Or.inl ⟨by rfl, ?_⟩) (by assumption) ?_
  rotate_left
  · intro w hSw
    (try dsimp only at hSw)
    go_simp
    try (with_reducible rfl)
  try simp only [Act.put, List.setIfInBounds_toArray, List.set_cons_zero, List.set_cons_succ]
  refine wpAnyH_take (i := 3) (oi := { dst := some 8, op := Go.Op.load 22 (Go.Operand.tmp 7), type := 22, pos := "ring.go:100", after := #[{ on := 2, ground := Go.Ground.data }], guard := none }) (v := ?_) rfl (by kernel_rfl) (by kernel_rfl) (by kernel_rfl) (fun _ _ _ h => h) (Or.inl ⟨by rfl, ?_⟩) (by assumption) ?_
  rotate_left
  · intro w hSw
    (try dsimp only at hSw)
    go_simp
    try (with_reducible rfl)
  try simp only [Act.put, List.setIfInBounds_toArray, List.set_cons_zero, List.set_cons_succ]
  refine wpAnyH_take (i := 4) (oi := { dst := some 9, op := Go.Op.move (Go.Operand.tmp 1), type := 39, pos := "ring.go:100", after := #[], guard := none }) (v := ?_) rfl (by kernel_rfl) (by kernel_rfl) (by kernel_rfl) (fun _ _ _ h => h) (Or.inl ⟨by rfl, ?_⟩) (by assumption) ?_
  rotate_left
  · intro w hSw
    (try dsimp only at hSw)
    go_simp
    try (with_reducible rfl)
  try simp only [Act.put, List.setIfInBounds_toArray, List.set_cons_zero, List.set_cons_succ]
  refine wpAnyH_take (i := 5) (oi := { dst := some 10, op := Go.Op.move (Go.Operand.tmp 0), type := 42, pos := "ring.go:100", after := #[], guard := none }) (v := ?_) rfl (by kernel_rfl) (by kernel_rfl) (by kernel_rfl) (fun _ _ _ h => h) (Or.inl ⟨by rfl, ?_⟩) (by assumption) ?_
  rotate_left
  · intro w hSw
    (try dsimp only at hSw)
    go_simp
    try (with_reducible rfl)
  try simp only [Act.put, List.setIfInBounds_toArray, List.set_cons_zero, List.set_cons_succ]
  refine wpAnyH_take (i := 6) (oi := { dst := some 11, op := Go.Op.nilCheck (Go.Operand.tmp 10), type := 0, pos := "ring.go:100", after := #[{ on := 5, ground := Go.Ground.data }], guard := none }) (v := ?_) rfl (by kernel_rfl) (by kernel_rfl) (by kernel_rfl) (fun _ _ _ h => h) (Or.inl ⟨by rfl, ?_⟩) (by assumption) ?_
  rotate_left
  · intro w hSw
    (try dsimp only at hSw)
    go_simp
    try (with_reducible rfl)
  try simp only [Act.put, List.setIfInBounds_toArray, List.set_cons_zero, List.set_cons_succ]
  refine wpAnyH_take (i := 7) (oi := { dst := some 12, op := Go.Op.fieldAddr 72 (Go.Operand.tmp 11) 0, type := 0, pos := "ring.go:100", after := #[{ on := 6, ground := Go.Ground.data }], guard := none }) (v := ?_) rfl (by kernel_rfl) (by kernel_rfl) (by kernel_rfl) (fun _ _ _ h => h) (Or.inl ⟨by rfl, ?_⟩) (by assumption) ?_
  rotate_left
  · intro w hSw
    (try dsimp only at hSw)
    go_simp
    try (with_reducible rfl)
  try simp only [Act.put, List.setIfInBounds_toArray, List.set_cons_zero, List.set_cons_succ]
  refine wpAnyH_take (i := 8) (oi := { dst := some 13, op := Go.Op.load 22 (Go.Operand.tmp 12), type := 22, pos := "ring.go:100", after := #[{ on := 7, ground := Go.Ground.data }], guard := none }) (v := ?_) rfl (by kernel_rfl) (by kernel_rfl) (by kernel_rfl) (fun _ _ _ h => h) (Or.inl ⟨by rfl, ?_⟩) (by assumption) ?_
  rotate_left
  · intro w hSw
    (try dsimp only at hSw)
    go_simp
    try (with_reducible rfl)
  try simp only [Act.put, List.setIfInBounds_toArray, List.set_cons_zero, List.set_cons_succ]
  refine wpAnyH_take (i := 9) (oi := { dst := some 14, op := Go.Op.call { callee := Go.Callee.builtin Go.Builtin.len, args := #[Go.Operand.tmp 13], argTypes := #[22] }, type := 3, pos := "ring.go:100", after := #[{ on := 8, ground := Go.Ground.data }], guard := none }) (v := ?_) rfl (by kernel_rfl) (by kernel_rfl) (by kernel_rfl) (fun _ _ _ h => h) (Or.inl ⟨by rfl, ?_⟩) (by assumption) ?_
  rotate_left
  · intro w hSw
    (try dsimp only at hSw)
    go_simp
    try (with_reducible rfl)
  try simp only [Act.put, List.setIfInBounds_toArray, List.set_cons_zero, List.set_cons_succ]
  refine wpAnyH_take (i := 10) (oi := { dst := some 15, op := Go.Op.convert 3 39 (Go.Operand.tmp 14), type := 39, pos := "ring.go:100", after := #[{ on := 9, ground := Go.Ground.data }], guard := none }) (v := ?_) rfl (by kernel_rfl) (by kernel_rfl) (by kernel_rfl) (fun _ _ _ h => h) (Or.inl ⟨by rfl, ?_⟩) (by assumption) ?_
  rotate_left
  · intro w hSw
    (try dsimp only at hSw)
    go_simp
    try (with_reducible rfl)
  try simp only [Act.put, List.setIfInBounds_toArray, List.set_cons_zero, List.set_cons_succ]
  refine wpAnyH_take (i := 11) (oi := { dst := some 16, op := Go.Op.binOp Go.BinOp.rem 39 (Go.Operand.tmp 9) (Go.Operand.tmp 15) 39, type := 39, pos := "ring.go:100", after := #[{ on := 4, ground := Go.Ground.data }, { on := 10, ground := Go.Ground.data }], guard := none }) (v := ?_) rfl (by kernel_rfl) (by kernel_rfl) (by kernel_rfl) (fun _ _ _ h => h) (Or.inl ⟨by rfl, ?_⟩) (by assumption) ?_
  rotate_left
  · intro w hSw
    (try dsimp only at hSw)
    go_simp
    try (with_reducible rfl)
  try simp only [Act.put, List.setIfInBounds_toArray, List.set_cons_zero, List.set_cons_succ]
  refine wpAnyH_take (i := 12) (oi := { dst := some 17, op := Go.Op.indexAddr 22 (Go.Operand.tmp 8) (Go.Operand.tmp 16), type := 0, pos := "ring.go:100", after := #[{ on := 3, ground := Go.Ground.data }, { on := 11, ground := Go.Ground.data }], guard := none }) (v := ?_) rfl (by kernel_rfl) (by kernel_rfl) (by kernel_rfl) (fun _ _ _ h => h) (Or.inl ⟨by rfl, ?_⟩) (by assumption) ?_
  rotate_left
  · intro w hSw
    (try dsimp only at hSw)
    go_simp
    try (with_reducible rfl)
  try simp only [Act.put, List.setIfInBounds_toArray, List.set_cons_zero, List.set_cons_succ]
  refine wpAnyH_take (i := 13) (oi := { dst := some 4, op := Go.Op.assign (Go.Operand.tmp 17), type := 73, pos := "ring.go:100", after := #[{ on := 12, ground := Go.Ground.data }, { on := 0, ground := Go.Ground.phase }, { on := 1, ground := Go.Ground.phase }, { on := 2, ground := Go.Ground.phase }, { on := 3, ground := Go.Ground.phase }, { on := 4, ground := Go.Ground.phase }, { on := 5, ground := Go.Ground.phase }, { on := 6, ground := Go.Ground.phase }, { on := 7, ground := Go.Ground.phase }, { on := 8, ground := Go.Ground.phase }, { on := 9, ground := Go.Ground.phase }, { on := 10, ground := Go.Ground.phase }, { on := 11, ground := Go.Ground.phase }, { on := 12, ground := Go.Ground.phase }], guard := none }) (v := ?_) rfl (by kernel_rfl) (by kernel_rfl) (by kernel_rfl) (fun _ _ _ h => h) (Or.inl ⟨by rfl, ?_⟩) (by assumption) ?_
  rotate_left
  · intro w hSw
    (try dsimp only at hSw)
    go_simp
    try (with_reducible rfl)
  try simp only [Act.put, List.setIfInBounds_toArray, List.set_cons_zero, List.set_cons_succ]
  refine wpAnyH_done (by kernel_rfl) ?_ _
  go_wp2
  go_ret
  exact ⟨rfl, rfl⟩
theorem pushedP_any (r b N : Nat) (all : List (List Value)) (out : Nat) (w : World) (h : RgP w r b N all out) :
    Calls Try.prog 44 #[.pointer (some ⟨r, 0, none⟩)] w fun e w' => e = .returned (.int .u64 (all.length : Int)) ∧ Tch w w' [] := by
  refine (pushedP_e r b N all out w h).mono ?_
  rintro e w' ⟨h1, rfl⟩
  exact ⟨h1, Tch.refl _ _⟩
theorem poppedP_any (r b N : Nat) (all : List (List Value)) (out : Nat) (w : World) (h : RgP w r b N all out) :
    Calls Try.prog 43 #[.pointer (some ⟨r, 0, none⟩)] w fun e w' => e = .returned (.int .u64 (out : Int)) ∧ Tch w w' [] := by
  refine (poppedP_e r b N all out w h).mono ?_
  rintro e w' ⟨h1, rfl⟩
  exact ⟨h1, Tch.refl _ _⟩
theorem roomP_any (r b N : Nat) (all : List (List Value)) (out : Nat) (hs : all.length ≤ 900000) (w : World) (h : RgP w r b N all out) :
    Calls Try.prog 23 #[.pointer (some ⟨r, 0, none⟩)] w fun e w' => e = .returned (.int .i64 ((N : Int) - ((all.length : Int) - (out : Int)))) ∧ Tch w w' [] := by
  refine (roomP_e r b N all out hs w h).mono ?_
  rintro e w' ⟨h1, rfl⟩
  exact ⟨h1, (Tch.refl _ _).drew⟩
set_option maxRecDepth 100000 in
set_option maxHeartbeats 1000000 in
theorem pushP_full (r b N : Nat) (all : List (List Value)) (out : Nat) (p q : Int) (s : ByteArray) (hf : all.length = out + N) (hs : all.length ≤ 900000) (w : World) (h : RgP w r b N all out) :
    Calls Try.prog 24 #[.pointer (some ⟨r, 0, none⟩), .agg #[.int .i64 p, .int .i64 q, .string s]] w fun e w' => e = .returned (.bool false) ∧ RgP w' r b N all out ∧ Tch w w' [r, b] := by
  obtain ⟨W1, hW1⟩ : ∃ W1, w.alloc (.cells #[.int .i64 p, .int .i64 q, .string s] 29) = W1 := ⟨_, rfl⟩
  obtain ⟨xb, hxb⟩ : ∃ xb, w.heap.size = xb := ⟨_, rfl⟩
  have HX : Hid (Blk W1 xb 29 #[.int .i64 p, .int .i64 q, .string s]) := Lib.hid (hW1 ▸ hxb ▸ Blk.new _ _ _)
  have HBW : Hid (Below w.heap.size w W1) := Lib.hid (hW1 ▸ (Below.refl _ _).alloc (Nat.le_refl _) _)
  have HXn : Hid (xb ≠ r ∧ xb ≠ b) := Lib.hid (by have := h.lt; omega)
  have h1w := h.below HBW.out
  have HW1 := Lib.hid hW1
  have HXb := Lib.hid hxb
  have x0 := (HX.out.cell 0).trans (show _ = some (Value.int .i64 p) by rfl)
  have x1 := (HX.out.cell 1).trans (show _ = some (Value.int .i64 q) by rfl)
  have x2 := (HX.out.cell 2).trans (show _ = some (Value.string s) by rfl)
  have HXC := Lib.hid (And.intro x0 (And.intro x1 x2))
  clear hW1 hxb h
  have HR := Lib.hid h1w
  have HN0 := roomP_e r b N all out hs W1 h1w
  rw [show (N : Int) - ((all.length : Int) - (out : Int)) = 0 by omega] at HN0
  have HN1 := Lib.hid HN0
  clear HN0 hf hs h1w
  go_enter Try.func24, Try.ntmps24
  go_wp2_with fail
  rw [HW1.out, HXb.out]
  refine Calls.mono HN1.out ?_
  rintro e w' ⟨rfl, rfl⟩
  go_wp2
  go_ret
  exact ⟨rfl, HR.out.tch (Tch.refl W1 []).drew (by simp) (by simp), (Tch.of_below [r, b] HBW.out).drew⟩
theorem offP_sta {w w' : World} {g m : Nat} {t : TypeId} {old cs cur : Array Value} (h1 : cur.size = old.size) (h2 : ∀ p, (p < m * 3 ∨ m * 3 + cs.size ≤ p) → cur[p]? = old[p]?) (h3 : cs.size = 3) : offP old cur 3 m :=
  ⟨h1, fun p hp => h2 p (by have a0 := hp 0 (by decide); have a1 := hp 1 (by decide); have a2 := hp 2 (by decide); omega)⟩
theorem e3_at {cs : Array Value} {u v x : Value} (h : cs = #[u, v, x]) (k : Nat) : cs[k]? = [u, v, x][k]? := by subst h; simp
set_option maxRecDepth 100000 in
set_option maxHeartbeats 1000000 in
theorem pushP_ok (r b N : Nat) (all : List (List Value)) (out : Nat) (p q : Int) (s : ByteArray) (hf : all.length < out + N) (hs : all.length ≤ 900000) (w : World) (h : RgP w r b N all out) :
    Calls Try.prog 24 #[.pointer (some ⟨r, 0, none⟩), .agg #[.int .i64 p, .int .i64 q, .string s]] w fun e w' => e = .returned (.bool true) ∧ RgP w' r b N (all ++ [[.int .i64 p, .int .i64 q, .string s]]) out ∧ Tch w w' [r, b] := by
  obtain ⟨W1, hW1⟩ : ∃ W1, w.alloc (.cells #[.int .i64 p, .int .i64 q, .string s] 29) = W1 := ⟨_, rfl⟩
  obtain ⟨xb, hxb⟩ : ∃ xb, w.heap.size = xb := ⟨_, rfl⟩
  have HX : Hid (Blk W1 xb 29 #[.int .i64 p, .int .i64 q, .string s]) := Lib.hid (hW1 ▸ hxb ▸ Blk.new _ _ _)
  have HBW : Hid (Below w.heap.size w W1) := Lib.hid (hW1 ▸ (Below.refl _ _).alloc (Nat.le_refl _) _)
  have HXn : Hid (xb ≠ r ∧ xb ≠ b) := Lib.hid (by have := h.lt; omega)
  have h1w := h.below HBW.out
  have HW1 := Lib.hid hW1
  have HXb := Lib.hid hxb
  have x0 := (HX.out.cell 0).trans (show _ = some (Value.int .i64 p) by rfl)
  have x1 := (HX.out.cell 1).trans (show _ = some (Value.int .i64 q) by rfl)
  have x2 := (HX.out.cell 2).trans (show _ = some (Value.string s) by rfl)
  have HXC := Lib.hid (And.intro x0 (And.intro x1 x2))
  clear hW1 hxb h
  have HR := Lib.hid h1w
  obtain ⟨cur, h1, h2, h3, h4, k, rfl, hk⟩ := h1w
  have HE := Lib.hid h3
  have HB := Lib.hid h1
  have HB2 := Lib.hid h2
  have hp := two_pow16 hk
  have hle := h3.le
  have hrm := h3.room
  have hsz := h3.size
  have c0 := (h1.cell 0).trans (show _ = some (Value.slice (some ⟨b, 0, none⟩) (2 ^ k) (2 ^ k)) by rfl)
  have c1 := (h1.cell 1).trans (show _ = some (Value.int .u64 (out : Int)) by rfl)
  have c2 := (h1.cell 2).trans (show _ = some (Value.int .u64 (all.length : Int)) by rfl)
  have HPl := Lib.hid (fun x hx W hW => slotP_any r b (2 ^ k) all out x hx W hW)
  have HLn := Lib.hid (fun W hW => lenP_any r b (2 ^ k) all out hs W hW)
  have HRm := Lib.hid (fun W hW => roomP_e r b (2 ^ k) all out hs W hW)
  obtain ⟨N, hN⟩ : ∃ N : Nat, 2 ^ k = N := ⟨_, rfl⟩
  rw [hN] at c0 HB HE HR HPl HLn HRm hp hrm hsz
  try rw [hN]
  obtain ⟨L, hL⟩ : ∃ L : Nat, all.length = L := ⟨_, rfl⟩
  rw [hL] at c2 HB hs hle hrm HLn HRm
  have HLL := Lib.hid hL
  rw [hL, hN] at hf
  have HN1 := Lib.hid (HRm.out W1 HR.out)
  have j3 : IntKind.u64.wrap ((L : Int) + 1) = (L : Int) + 1 := by rw [IntKind.wrap_u64]; omega
  obtain ⟨rm, hr⟩ : ∃ rm : Nat, (N : Int) - ((L : Int) - (out : Int)) = (rm : Int) := ⟨N + out - L, by omega⟩
  rw [hr] at HN1
  have q1 : ((rm : Int) == (0 : Int)) = false := by simp; omega
  have q2 : ¬ rm = 0 := by omega
  have q3 : ¬ (rm : Int) = 0 := by omega
  have hm := Nat.mod_lt L (y := N) hp.1
  have HP := Lib.hid (HPl.out L (by omega) W1.drew.drew (HR.out.tch (Tch.refl W1 []).drew.drew (by simp) (by simp)))
  have HA2 := Lib.hid (aload_any r 2 (L : Int) W1.drew c2)
  obtain ⟨m, hM⟩ : ∃ m : Nat, L % N = m := ⟨_, rfl⟩
  rw [hM] at hm HP
  have HM := Lib.hid hM
  have HSz : Hid (m * 3 + 3 ≤ cur.size) := Lib.hid (by omega)
  have HF := Lib.hid hf
  have HNe := Lib.hid h4
  have HBd : Hid (Blk W1.drew.drew.drew b 29 cur) := HB2
  clear h1 h2 h3 h4 hk hL hf hN hp hle hrm hsz hs hM hm hr
  go_enter Try.func24, Try.ntmps24
  go_wp2_with fail
  rw [HW1.out, HXb.out]
  refine Calls.mono HN1.out ?_
  rintro e w' ⟨rfl, rfl⟩
  go_wp2_with (go_at_call 39; (with_reducible refine Calls.mono HA2.out ?_); rintro e w' ⟨rfl, rfl⟩)
  go_wp2
  refine wp_region_held_drew (S := (fun W => W.cell? ⟨xb, 0, none⟩ = some (.int .i64 p) ∧ W.cell? ⟨xb, 1, none⟩ = some (.int .i64 q) ∧ W.cell? ⟨xb, 2, none⟩ = some (.string s))) (by kernel_rfl) ?_ (fun hHeld => ?_)
  · (exact HXC.out)
  refine wpAnyH_take (i := 0) (oi := { dst := some 13, op := Go.Op.move (Go.Operand.tmp 0), type := 42, pos := "ring.go:35", after := #[], guard := none }) (v := ?_) rfl (by kernel_rfl) (by kernel_rfl) (by kernel_rfl) (fun _ _ _ h => h) (Or.inl ⟨by rfl, ?_⟩) (by assumption) ?_
  rotate_left
  · intro w hSw
    (try dsimp only at hSw)
    go_simp
    try (with_reducible rfl)
  try simp only [Act.put, List.setIfInBounds_toArray, List.set_cons_zero, List.set_cons_succ]
  refine wpAnyH_take (i := 1) (oi := { dst := some 14, op := Go.Op.move (Go.Operand.tmp 5), type := 39, pos := "ring.go:35", after := #[], guard := none }) (v := ?_) rfl (by kernel_rfl) (by kernel_rfl) (by kernel_rfl) (fun _ _ _ h => h) (Or.inl ⟨by rfl, ?_⟩) (by assumption) ?_
  rotate_left
  · intro w hSw
    (try dsimp only at hSw)
    go_simp
    try (with_reducible rfl)
  try simp only [Act.put, List.setIfInBounds_toArray, List.set_cons_zero, List.set_cons_succ]
  refine wpAnyH_take (i := 3) (oi := { dst := some 16, op := Go.Op.load 29 (Go.Operand.tmp 3), type := 29, pos := "ring.go:35", after := #[], guard := none }) (v := ?_) rfl (by kernel_rfl) (by kernel_rfl) (by kernel_rfl) (fun _ _ _ h => h) (Or.inl ⟨by rfl, ?_⟩) (by assumption) ?_
  rotate_left
  · intro w hSw
    (try dsimp only at hSw)
    go_simp
    try (with_reducible rfl)
  try simp only [Act.put, List.setIfInBounds_toArray, List.set_cons_zero, List.set_cons_succ]
  refine wpAnyH_ready (rs := [2]) (by kernel_rfl) (by simp) ?_
  refine AllReadyH.cons (o := { dst := some 15, op := Go.Op.call { callee := Go.Callee.value (Go.Operand.func 42), args := #[Go.Operand.tmp 13, Go.Operand.tmp 14], argTypes := #[42, 39] }, type := 73, pos := "ring.go:35", after := #[{ on := 0, ground := Go.Ground.data }, { on := 1, ground := Go.Ground.data }], guard := none }) rfl (fun K hK => ?_) AllReadyH.nil
  go_simp
  (go_at_call 42; (with_reducible refine Calls.mono HP.out ?_); rintro e w' ⟨rfl, rfl⟩)
  go_wp2_with fail
  refine hK.out _ _ ?_ (fun hHeld => ?_)
  · (exact HXC.out)
  clear hK K
  try simp only [Act.put, List.setIfInBounds_toArray, List.set_cons_zero, List.set_cons_succ]
  refine wpAnyH_take (i := 4) (oi := { dst := some 17, op := Go.Op.nilCheck (Go.Operand.tmp 15), type := 0, pos := "ring.go:35", after := #[{ on := 2, ground := Go.Ground.data }, { on := 0, ground := Go.Ground.phase }, { on := 1, ground := Go.Ground.phase }, { on := 2, ground := Go.Ground.phase }, { on := 3, ground := Go.Ground.phase }], guard := none }) (v := ?_) rfl (by kernel_rfl) (by kernel_rfl) (by kernel_rfl) (fun _ _ _ h => h) (Or.inl ⟨by rfl, ?_⟩) (by assumption) ?_
  rotate_left
  · intro w hSw
    (try dsimp only at hSw)
    go_simp
    try (with_reducible rfl)
  try simp only [Act.put, List.setIfInBounds_toArray, List.set_cons_zero, List.set_cons_succ]
  refine wpAnyH_ready (rs := [5]) (by kernel_rfl) (by simp) ?_
  refine AllReadyH.cons (o := { dst := none, op := Go.Op.store 29 (Go.Operand.tmp 17) (Go.Operand.tmp 16), type := 0, pos := "ring.go:35", after := #[{ on := 4, ground := Go.Ground.data }, { on := 3, ground := Go.Ground.data }, { on := 2, ground := Go.Ground.chain }, { on := 0, ground := Go.Ground.phase }, { on := 1, ground := Go.Ground.phase }, { on := 2, ground := Go.Ground.phase }, { on := 3, ground := Go.Ground.phase }], guard := none }) rfl (fun K hK => ?_) AllReadyH.nil
  rw [if_pos (by rfl)]
  refine wpo_sta 29 (.tmp 17) (.tmp 16) rfl b (m * 3) #[.int .i64 p, .int .i64 q, .string s] rfl rfl 29 cur HBd.out 3 sizeP rfl HSz.out (by simp [Value.oneCell']) (fun w4 hs4 => ?_)
  have HS4 := Lib.hid hs4
  have HW4 := Lib.hid (hs4.tch.blk (w := W1.drew.drew.drew) (show Blk W1.drew.drew.drew r _ _ from HB.out) (by simpa using HNe.out))
  have HXk := Lib.hid (hs4.tch.blk (w := W1.drew.drew.drew) (show Blk W1.drew.drew.drew xb _ _ from HX.out) (by simpa using HXn.out.2))
  have HSt := Lib.hid (astore_any r 2 (.int .u64 (L : Int)) ((L : Int) + 1) w4 ((HW4.out.cell 2).trans rfl) (HW4.out.frozen 2))
  clear hs4
  refine hK.out _ _ ?_ (fun hHeld => ?_)
  · (exact And.intro ((HXk.out.cell 0).trans rfl) (And.intro ((HXk.out.cell 1).trans rfl) ((HXk.out.cell 2).trans rfl)))
  clear hK K
  refine wpAnyH_done (by kernel_rfl) ?_ _
  go_wp2_with (go_at_call 41; (with_reducible refine Calls.mono HSt.out ?_); rintro e w' ⟨rfl, rfl⟩)
  go_ret
  obtain ⟨⟨cur', k1, k2, k3, k4⟩, hT4⟩ := HS4.out
  refine ⟨rfl, ⟨cur', ?_, k1.far HNe.out.symm _, HE.out.push (by rw [HLL.out]; exact HF.out) rfl ?_ ?_, HNe.out, HR.out.pow⟩, ?_⟩
  · have := HW4.out.set_ 2 (.int .u64 ((L : Int) + 1))
    rw [List.length_append, HLL.out]
    exact this
  · rw [HLL.out, HM.out]
    exact offP_sta (w := w) (w' := w) (g := 0) (t := 29) k2 k3 rfl
  · intro i hi
    rw [HLL.out, HM.out, k4 i hi]
    exact e3_at rfl i
  · exact ((((Tch.of_below [r, b] HBW.out).drew).drew).drew.trans (hT4.mono (by simp))).set_ (p := ⟨r, 2, none⟩) (by simp) _
set_option maxRecDepth 100000 in
set_option maxHeartbeats 1000000 in
theorem popP_none (r b N : Nat) (all : List (List Value)) (out : Nat) (hf : out = all.length) (hs : all.length ≤ 900000) (w : World) (h : RgP w r b N all out) :
    Calls Try.prog 25 #[.pointer (some ⟨r, 0, none⟩)] w fun e w' => e = .returned (.tuple #[.agg #[.int .i64 0, .int .i64 0, .string ⟨#[]⟩], .bool false]) ∧ RgP w' r b N all out ∧ Tch w w' [r, b] := by
  obtain ⟨W1, hW1⟩ : ∃ W1, (w.alloc (.cells #[.int .i64 0, .int .i64 0, .string ⟨#[]⟩] 29)).alloc (.cells #[.int .i64 0, .int .i64 0, .string ⟨#[]⟩] 29) = W1 := ⟨_, rfl⟩
  obtain ⟨xb, hxb⟩ : ∃ xb, w.heap.size = xb := ⟨_, rfl⟩
  have HX : Hid (Blk W1 xb 29 #[.int .i64 0, .int .i64 0, .string ⟨#[]⟩]) := Lib.hid (hW1 ▸ hxb ▸ (Blk.new w 29 #[.int .i64 0, .int .i64 0, .string ⟨#[]⟩]).alloc _)
  have HY : Hid (Blk W1 (xb + 1) 29 #[.int .i64 0, .int .i64 0, .string ⟨#[]⟩]) := Lib.hid (by
    have := Blk.new (w.alloc (.cells #[.int .i64 0, .int .i64 0, .string ⟨#[]⟩] 29)) 29 #[.int .i64 0, .int .i64 0, .string ⟨#[]⟩]
    rw [World.size_alloc, hW1, hxb] at this
    exact this)
  have HBW : Hid (Below w.heap.size w W1) := Lib.hid (hW1 ▸ ((Below.refl _ w).alloc (Nat.le_refl _) _).alloc (by simp) _)
  have HXn : Hid (r < xb ∧ b < xb) := Lib.hid (by have := h.lt; omega)
  have hWs : W1.heap.size = xb + 2 := by rw [← hW1, World.size_alloc, World.size_alloc, hxb]
  have HWs := Lib.hid hWs
  have h1w := h.below HBW.out
  have HW1 := Lib.hid hW1
  have HXb := Lib.hid hxb
  have x0 := (HX.out.cell 0).trans (show _ = some (Value.int .i64 0) by rfl)
  have x1 := (HX.out.cell 1).trans (show _ = some (Value.int .i64 0) by rfl)
  have x2 := (HX.out.cell 2).trans (show _ = some (Value.string ⟨#[]⟩) by rfl)
  have y0 := (HY.out.cell 0).trans (show _ = some (Value.int .i64 0) by rfl)
  have y1 := (HY.out.cell 1).trans (show _ = some (Value.int .i64 0) by rfl)
  have y2 := (HY.out.cell 2).trans (show _ = some (Value.string ⟨#[]⟩) by rfl)
  have HXC := Lib.hid (And.intro x0 (And.intro x1 x2))
  clear hW1 hxb h hWs
  have HR := Lib.hid h1w
  have HN0 := lenP_any r b N all out hs W1 h1w
  rw [show (all.length : Int) - (out : Int) = 0 by omega] at HN0
  have HN1 := Lib.hid HN0
  clear HN0 hf hs h1w
  go_enter Try.func25, Try.ntmps25
  go_wp2_with fail
  rw [HW1.out, HXb.out]
  refine Calls.mono HN1.out ?_
  rintro e w' ⟨rfl, rfl⟩
  go_wp2_with (refine wpList_sta rfl 29 (.tmp 2) (.tmp 11) rfl xb 0 #[.int .i64 0, .int .i64 0, .string ⟨#[]⟩] rfl rfl 29 #[.int .i64 0, .int .i64 0, .string ⟨#[]⟩] HX.out 3 sizeP rfl (by decide) (by simp [Value.oneCell']) ?_; intro w4 hs4; have HS4 := Lib.hid hs4; clear hs4)
  obtain ⟨⟨cur', k1, k2, k3, k4⟩, hT4⟩ := HS4.out
  have z0 := (k1.cell 0).trans ((k4 0 (by decide)).trans rfl)
  have z1 := (k1.cell 1).trans ((k4 1 (by decide)).trans rfl)
  have z2 := (k1.cell 2).trans ((k4 2 (by decide)).trans rfl)
  have HXn' := HXn.out
  exact bodyPost_ret (v := .tuple #[.agg #[.int .i64 0, .int .i64 0, .string ⟨#[]⟩], .bool false]) (by simp [results, Try.results25, go_sem, z0, z1, z2]) rfl ⟨rfl, HR.out.tch hT4 (by simp; omega) (by simp; omega), (by
    have h0 := (Tch.of_below [r, b] HBW.out)
    exact ⟨hT4.os.trans h0.os, hT4.tape.trans h0.tape, hT4.output.trans h0.output, Nat.le_trans h0.size hT4.size, fun i hi hn => (hT4.block i (Nat.lt_of_lt_of_le hi h0.size) (by have := HXb.out; simp; omega)).trans (h0.block i hi hn)⟩)⟩
set_option maxRecDepth 100000 in
set_option maxHeartbeats 1000000 in
theorem popP_ok (r b N : Nat) (all : List (List Value)) (out : Nat) (p q : Int) (s : ByteArray) (he : all[out]? = some [.int .i64 p, .int .i64 q, .string s]) (hs : all.length ≤ 900000) (w : World) (h : RgP w r b N all out) :
    Calls Try.prog 25 #[.pointer (some ⟨r, 0, none⟩)] w fun e w' => e = .returned (.tuple #[.agg #[.int .i64 p, .int .i64 q, .string s], .bool true]) ∧ RgP w' r b N all (out + 1) ∧ Tch w w' [r, b] := by
  have hf : out < all.length := (List.getElem?_eq_some_iff.1 he).1
  obtain ⟨W1, hW1⟩ : ∃ W1, (w.alloc (.cells #[.int .i64 0, .int .i64 0, .string ⟨#[]⟩] 29)).alloc (.cells #[.int .i64 0, .int .i64 0, .string ⟨#[]⟩] 29) = W1 := ⟨_, rfl⟩
  obtain ⟨xb, hxb⟩ : ∃ xb, w.heap.size = xb := ⟨_, rfl⟩
  have HX : Hid (Blk W1 xb 29 #[.int .i64 0, .int .i64 0, .string ⟨#[]⟩]) := Lib.hid (hW1 ▸ hxb ▸ (Blk.new w 29 #[.int .i64 0, .int .i64 0, .string ⟨#[]⟩]).alloc _)
  have HY : Hid (Blk W1 (xb + 1) 29 #[.int .i64 0, .int .i64 0, .string ⟨#[]⟩]) := Lib.hid (by
    have := Blk.new (w.alloc (.cells #[.int .i64 0, .int .i64 0, .string ⟨#[]⟩] 29)) 29 #[.int .i64 0, .int .i64 0, .string ⟨#[]⟩]
    rw [World.size_alloc, hW1, hxb] at this
    exact this)
  have HBW : Hid (Below w.heap.size w W1) := Lib.hid (hW1 ▸ ((Below.refl _ w).alloc (Nat.le_refl _) _).alloc (by simp) _)
  have HXn : Hid (r < xb ∧ b < xb) := Lib.hid (by have := h.lt; omega)
  have hWs : W1.heap.size = xb + 2 := by rw [← hW1, World.size_alloc, World.size_alloc, hxb]
  have HWs := Lib.hid hWs
  have h1w := h.below HBW.out
  have HW1 := Lib.hid hW1
  have HXb := Lib.hid hxb
  have x0 := (HX.out.cell 0).trans (show _ = some (Value.int .i64 0) by rfl)
  have x1 := (HX.out.cell 1).trans (show _ = some (Value.int .i64 0) by rfl)
  have x2 := (HX.out.cell 2).trans (show _ = some (Value.string ⟨#[]⟩) by rfl)
  have y0 := (HY.out.cell 0).trans (show _ = some (Value.int .i64 0) by rfl)
  have y1 := (HY.out.cell 1).trans (show _ = some (Value.int .i64 0) by rfl)
  have y2 := (HY.out.cell 2).trans (show _ = some (Value.string ⟨#[]⟩) by rfl)
  have HXC := Lib.hid (And.intro x0 (And.intro x1 x2))
  clear hW1 hxb h hWs
  have HR := Lib.hid h1w
  obtain ⟨cur, h1, h2, h3, h4, k, rfl, hk⟩ := h1w
  have HE := Lib.hid h3
  have HB := Lib.hid h1
  have HB2 := Lib.hid h2
  have hp := two_pow16 hk
  have hle := h3.le
  have hrm := h3.room
  have hsz := h3.size
  have c0 := (h1.cell 0).trans (show _ = some (Value.slice (some ⟨b, 0, none⟩) (2 ^ k) (2 ^ k)) by rfl)
  have c1 := (h1.cell 1).trans (show _ = some (Value.int .u64 (out : Int)) by rfl)
  have c2 := (h1.cell 2).trans (show _ = some (Value.int .u64 (all.length : Int)) by rfl)
  have HPl := Lib.hid (fun x hx W hW => slotP_any r b (2 ^ k) all out x hx W hW)
  have HLn := Lib.hid (fun W hW => lenP_any r b (2 ^ k) all out hs W hW)
  have HRm := Lib.hid (fun W hW => roomP_e r b (2 ^ k) all out hs W hW)
  obtain ⟨N, hN⟩ : ∃ N : Nat, 2 ^ k = N := ⟨_, rfl⟩
  rw [hN] at c0 HB HE HR HPl HLn HRm hp hrm hsz
  try rw [hN]
  obtain ⟨L, hL⟩ : ∃ L : Nat, all.length = L := ⟨_, rfl⟩
  rw [hL] at c2 HB hs hle hrm HLn HRm
  have HLL := Lib.hid hL
  rw [hL] at hf
  have HN1 := Lib.hid (HLn.out W1 HR.out)
  obtain ⟨rm, hr⟩ : ∃ rm : Nat, (L : Int) - (out : Int) = (rm : Int) := ⟨L - out, by omega⟩
  rw [hr] at HN1
  have q1 : ((rm : Int) == (0 : Int)) = false := by simp; omega
  have q2 : ¬ rm = 0 := by omega
  have q3 : ¬ (rm : Int) = 0 := by omega
  have j3 : IntKind.u64.wrap ((out : Int) + 1) = (out : Int) + 1 := by rw [IntKind.wrap_u64]; omega
  have hm := Nat.mod_lt out (y := N) hp.1
  have HP := Lib.hid (HPl.out out (by omega) W1 HR.out)
  have HA1 := Lib.hid (aload_any r 1 (out : Int) W1 c1)
  have hat := HE.out.at_ out _ (Nat.le_refl _) he
  obtain ⟨W3, hW3⟩ : ∃ W3, W1.drew = W3 := ⟨_, rfl⟩
  have hB3 : Blk W3 b 29 cur := hW3 ▸ (show Blk W1.drew b 29 cur from h2)
  have hX3 : Blk W3 xb 29 #[.int .i64 0, .int .i64 0, .string ⟨#[]⟩] := hW3 ▸ (show Blk W1.drew xb 29 #[.int .i64 0, .int .i64 0, .string ⟨#[]⟩] from HX.out)
  have hY3 : Blk W3 (xb + 1) 29 #[.int .i64 0, .int .i64 0, .string ⟨#[]⟩] := hW3 ▸ (show Blk W1.drew (xb + 1) 29 #[.int .i64 0, .int .i64 0, .string ⟨#[]⟩] from HY.out)
  have hR3 : Blk W3 r 72 #[.slice (some ⟨b, 0, none⟩) N N, .int .u64 (out : Int), .int .u64 (L : Int)] := hW3 ▸ (show Blk W1.drew r _ _ from HB.out)
  have hs3 : W3.heap.size = W1.heap.size := hW3 ▸ rfl
  have hT3 : Tch w W3 [r, b] := hW3 ▸ (Tch.of_below [r, b] HBW.out).drew
  rw [hW3] at HP
  have o0 := (hB3.cell ((out % N) * 3 + 0)).trans (hat 0 (by decide))
  have o1 := (hB3.cell ((out % N) * 3 + 1)).trans (hat 1 (by decide))
  have o2 := (hB3.cell ((out % N) * 3 + 2)).trans (hat 2 (by decide))
  obtain ⟨m, hM⟩ : ∃ m : Nat, out % N = m := ⟨_, rfl⟩
  rw [hM] at hm HP o0 o1 o2
  have o0 : W3.cell? ⟨b, m * 3, none⟩ = some (.int .i64 p) := o0
  have o1 : W3.cell? ⟨b, m * 3 + 1, none⟩ = some (.int .i64 q) := o1
  have o2 : W3.cell? ⟨b, m * 3 + 2, none⟩ = some (.string s) := o2
  have HM := Lib.hid hM
  have HSz : Hid (m * 3 + 3 ≤ cur.size) := Lib.hid (by omega)
  have HF := Lib.hid hf
  have HNe := Lib.hid h4
  obtain ⟨x7, hx7⟩ : ∃ x7, W3.heap.size = x7 := ⟨_, rfl⟩
  have HX7 : Hid (W3.heap.size = x7 ∧ x7 = xb + 2) := Lib.hid ⟨hx7, by rw [← hx7, hs3]; exact HWs.out⟩
  have HE9 : Hid (Blk (W3.alloc (.cells #[.int .i64 p, .int .i64 q, .string s] 29)) x7 29 #[.int .i64 p, .int .i64 q, .string s]) := Lib.hid (hx7 ▸ Blk.new _ _ _)
  have HX9 : Hid (Blk (W3.alloc (.cells #[.int .i64 p, .int .i64 q, .string s] 29)) xb 29 #[.int .i64 0, .int .i64 0, .string ⟨#[]⟩]) := Lib.hid (hX3.alloc _)
  have HY9 : Hid (Blk (W3.alloc (.cells #[.int .i64 p, .int .i64 q, .string s] 29)) (xb + 1) 29 #[.int .i64 0, .int .i64 0, .string ⟨#[]⟩]) := Lib.hid (hY3.alloc _)
  have HB9 : Hid (Blk (W3.alloc (.cells #[.int .i64 p, .int .i64 q, .string s] 29)) r 72 #[.slice (some ⟨b, 0, none⟩) N N, .int .u64 (out : Int), .int .u64 (L : Int)]) := Lib.hid (hR3.alloc _)
  have HBd : Hid (Blk (W3.alloc (.cells #[.int .i64 p, .int .i64 q, .string s] 29)) b 29 cur) := Lib.hid (hB3.alloc _)
  have HT2 : Hid (Tch w (W3.alloc (.cells #[.int .i64 p, .int .i64 q, .string s] 29)) [r, b]) := Lib.hid (hT3.alloc _)
  have u0 := (HY9.out.cell 0).trans (show _ = some (Value.int .i64 0) by rfl)
  have u1 := (HY9.out.cell 1).trans (show _ = some (Value.int .i64 0) by rfl)
  have u2 := (HY9.out.cell 2).trans (show _ = some (Value.string ⟨#[]⟩) by rfl)
  clear h1 h2 h3 h4 hk hL hf hN hp hle hrm hsz hs hM hm he hat hW3 hx7 hr hB3 hX3 hY3 hR3 hs3 hT3
  go_enter Try.func25, Try.ntmps25
  go_wp2_with fail
  rw [HW1.out, HXb.out]
  refine Calls.mono HN1.out ?_
  rintro e w' ⟨rfl, rfl⟩
  go_wp2_with (first | (go_at_call 39; (with_reducible refine Calls.mono HA1.out ?_); rintro e w' ⟨rfl, rfl⟩) | (go_at_call 42; (with_reducible refine Calls.mono HP.out ?_); rintro e w' ⟨rfl, rfl⟩) | (rw [HX7.out.1]; (refine wpList_sta rfl 29 (.tmp 24) (.tmp 23) rfl b (m * 3) #[.int .i64 0, .int .i64 0, .string ⟨#[]⟩] rfl rfl 29 cur HBd.out 3 sizeP rfl HSz.out (by simp [Value.oneCell']) ?_; intro w4 hs4; have HS4 := Lib.hid hs4; have HW4 := Lib.hid (hs4.tch.blk HB9.out (by simpa using HNe.out)); have HSt := Lib.hid (astore_any r 1 (.int .u64 (out : Int)) ((out : Int) + 1) w4 ((HW4.out.cell 1).trans rfl) (HW4.out.frozen 1)); have HX5 : Hid (Blk (w4.setCell ⟨r, 1, none⟩ (.int .u64 ((out : Int) + 1))) xb 29 #[.int .i64 0, .int .i64 0, .string ⟨#[]⟩]) := Lib.hid ((hs4.tch.blk HX9.out (by have := HXn.out.2; simp; omega)).far (p := ⟨r, 1, none⟩) (by have := HXn.out.1; show xb ≠ r; omega) _); have HE5 : Hid (Blk (w4.setCell ⟨r, 1, none⟩ (.int .u64 ((out : Int) + 1))) x7 29 #[.int .i64 p, .int .i64 q, .string s]) := Lib.hid ((hs4.tch.blk HE9.out (by have := HXn.out.2; have := HX7.out.2; simp; omega)).far (p := ⟨r, 1, none⟩) (by have := HXn.out.1; have := HX7.out.2; show x7 ≠ r; omega) _); have v0 := (HE5.out.cell 0).trans (show _ = some (Value.int .i64 p) by rfl); have v1 := (HE5.out.cell 1).trans (show _ = some (Value.int .i64 q) by rfl); have v2 := (HE5.out.cell 2).trans (show _ = some (Value.string s) by rfl); clear hs4)) | (refine wpList_sta rfl 29 (.tmp 24) (.tmp 23) rfl b (m * 3) #[.int .i64 0, .int .i64 0, .string ⟨#[]⟩] rfl rfl 29 cur HBd.out 3 sizeP rfl HSz.out (by simp [Value.oneCell']) ?_; intro w4 hs4; have HS4 := Lib.hid hs4; have HW4 := Lib.hid (hs4.tch.blk HB9.out (by simpa using HNe.out)); have HSt := Lib.hid (astore_any r 1 (.int .u64 (out : Int)) ((out : Int) + 1) w4 ((HW4.out.cell 1).trans rfl) (HW4.out.frozen 1)); have HX5 : Hid (Blk (w4.setCell ⟨r, 1, none⟩ (.int .u64 ((out : Int) + 1))) xb 29 #[.int .i64 0, .int .i64 0, .string ⟨#[]⟩]) := Lib.hid ((hs4.tch.blk HX9.out (by have := HXn.out.2; simp; omega)).far (p := ⟨r, 1, none⟩) (by have := HXn.out.1; show xb ≠ r; omega) _); have HE5 : Hid (Blk (w4.setCell ⟨r, 1, none⟩ (.int .u64 ((out : Int) + 1))) x7 29 #[.int .i64 p, .int .i64 q, .string s]) := Lib.hid ((hs4.tch.blk HE9.out (by have := HXn.out.2; have := HX7.out.2; simp; omega)).far (p := ⟨r, 1, none⟩) (by have := HXn.out.1; have := HX7.out.2; show x7 ≠ r; omega) _); have v0 := (HE5.out.cell 0).trans (show _ = some (Value.int .i64 p) by rfl); have v1 := (HE5.out.cell 1).trans (show _ = some (Value.int .i64 q) by rfl); have v2 := (HE5.out.cell 2).trans (show _ = some (Value.string s) by rfl); clear hs4) | (go_at_call 41; (with_reducible refine Calls.mono HSt.out ?_); rintro e w' ⟨rfl, rfl⟩) | (refine wpList_sta rfl 29 (.tmp 2) (.tmp 31) rfl xb 0 #[.int .i64 p, .int .i64 q, .string s] rfl rfl 29 #[.int .i64 0, .int .i64 0, .string ⟨#[]⟩] HX5.out 3 sizeP rfl (by decide) (by simp [Value.oneCell']) ?_; intro w6 hs6; have HS6 := Lib.hid hs6; clear hs6))
  obtain ⟨⟨cur6, g1, g2, g3, g4⟩, hT6⟩ := HS6.out
  have z0 := (g1.cell 0).trans ((g4 0 (by simp)).trans rfl)
  have z1 := (g1.cell 1).trans ((g4 1 (by simp)).trans rfl)
  have z2 := (g1.cell 2).trans ((g4 2 (by simp)).trans rfl)
  obtain ⟨⟨cur', k1, k2, k3, k4⟩, hT4⟩ := HS4.out
  have HXn' := HXn.out
  have hT5 : Tch w (w4.setCell ⟨r, 1, none⟩ (.int .u64 ((out : Int) + 1))) [r, b] := ((HT2.out).trans (hT4.mono (by simp))).set_ (p := ⟨r, 1, none⟩) (by simp) _
  refine bodyPost_ret (v := .tuple #[.agg #[.int .i64 p, .int .i64 q, .string s], .bool true]) (by simp [results, Try.results25, go_sem, z0, z1, z2]) rfl ⟨rfl, ⟨cur', ?_, ?_, HE.out.pop (by rw [HLL.out]; exact HF.out) ?_, HNe.out, HR.out.pow⟩, ?_⟩
  · have := HW4.out.set_ 1 (.int .u64 ((out : Int) + 1))
    rw [HLL.out]
    exact hT6.blk this (by simp; omega)
  · exact hT6.blk (k1.far (p := ⟨r, 1, none⟩) HNe.out.symm _) (by simp; omega)
  · rw [HM.out]
    exact offP_sta (w := w) (w' := w) (g := 0) (t := 29) k2 k3 rfl
  · exact ⟨hT6.os.trans hT5.os, hT6.tape.trans hT5.tape, hT6.output.trans hT5.output, Nat.le_trans hT5.size hT6.size, fun i hi hn => (hT6.block i (Nat.lt_of_lt_of_le hi hT5.size) (by have := HXb.out; simp; omega)).trans (hT5.block i hi hn)⟩
end Go.Proofs.Ytogbchahfkphoaa
