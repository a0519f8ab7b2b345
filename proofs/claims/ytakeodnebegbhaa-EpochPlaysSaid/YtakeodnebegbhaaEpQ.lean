/-
  The program's epoch (layer 13): what it holds, and its inner calls.
-/
import Derived.Test.YtakeodnebegbhaaEpR
namespace Go.Proofs.Ytakeodnebegbhaa
open Go.RowKit
set_option linter.unusedVariables false

/-- The program's epoch: its lock's state M, the versions L from the publication lo on, since when each reader is in. -/
def EpQ (M : Int) (w : World) (r gL gS cL cS : Nat) (L : List Int) (lo : Nat) (ins : List Int) : Prop :=
  Blk w r 56 #[.int .i32 M, .int .u32 0, .slice (some ⟨gL, 0, none⟩) L.length cL, .int .i64 (lo : Int), .slice (some ⟨gS, 0, none⟩) ins.length cS] ∧
  w.ownsRow 0 3 1 (.slice (some ⟨gL, 0, none⟩) L.length cL) L.length (ints L) ∧ w.ownsRow 0 3 1 (.slice (some ⟨gS, 0, none⟩) ins.length cS) ins.length (ints ins) ∧ (r ≠ gL ∧ r ≠ gS ∧ gL ≠ gS)
section
variable {M : Int} {w w' : World} {r gL gS cL cS lo : Nat} {S : List Nat} {L ins : List Int}
theorem EpQ.lt (h : EpQ M w r gL gS cL cS L lo ins) : r < w.heap.size ∧ gL < w.heap.size ∧ gS < w.heap.size := ⟨h.1.lt, own_lt h.2.1 rfl, own_lt h.2.2.1 rfl⟩
theorem EpQ.tch (h : EpQ M w r gL gS cL cS L lo ins) (ht : Tch w w' S) (h1 : r ∉ S) (h2 : gL ∉ S) (h3 : gS ∉ S) : EpQ M w' r gL gS cL cS L lo ins :=
  ⟨ht.blk h.1 h1, ht.own h.2.1 (nown (w := w) h2), ht.own h.2.2.1 (nown (w := w) h3), h.2.2.2⟩
theorem EpQ.drew (h : EpQ M w r gL gS cL cS L lo ins) : EpQ M w.drew r gL gS cL cS L lo ins := h.tch (Tch.refl w []).drew (by simp) (by simp) (by simp)
theorem EpQ.c0 (h : EpQ M w r gL gS cL cS L lo ins) : w.cell? ⟨r, 0, none⟩ = some (.int .i32 M) := (h.1.cell 0).trans rfl
theorem EpQ.c2 (h : EpQ M w r gL gS cL cS L lo ins) : w.cell? ⟨r, 2, none⟩ = some (.slice (some ⟨gL, 0, none⟩) L.length cL) := (h.1.cell 2).trans rfl
theorem EpQ.c3 (h : EpQ M w r gL gS cL cS L lo ins) : w.cell? ⟨r, 3, none⟩ = some (.int .i64 (lo : Int)) := (h.1.cell 3).trans rfl
theorem EpQ.c4 (h : EpQ M w r gL gS cL cS L lo ins) : w.cell? ⟨r, 4, none⟩ = some (.slice (some ⟨gS, 0, none⟩) ins.length cS) := (h.1.cell 4).trans rfl
theorem EpQ.lock (h : EpQ M w r gL gS cL cS L lo ins) (M' : Int) : EpQ M' (w.setCell ⟨r, 0, none⟩ (.int .i32 M')) r gL gS cL cS L lo ins := by
  have hT : Tch w (w.setCell ⟨r, 0, none⟩ (.int .i32 M')) [r] := (Tch.refl w [r]).set_ (p := ⟨r, 0, none⟩) (by simp) _
  exact ⟨h.1.set_ 0 _, hT.own h.2.1 (nown (w := w) (nin1 h.2.2.2.1.symm)), hT.own h.2.2.1 (nown (w := w) (nin1 h.2.2.2.2.1.symm)), h.2.2.2⟩
theorem tch_cell (w : World) (r i : Nat) (u : Value) : Tch w (w.setCell ⟨r, i, none⟩ u) [r] := (Tch.refl w [r]).set_ (p := ⟨r, i, none⟩) (by simp) _
theorem own_le {n c : Nat} {xs : List Value} {g : Nat} (h : w.ownsRow 0 3 1 (.slice (some ⟨g, 0, none⟩) n c) n xs) : n ≤ c := by
  obtain ⟨A, c', e, hc, -⟩ := own_sl h
  injection e with e1 e2 e3
  omega
end
set_option maxRecDepth 100000 in
set_option maxHeartbeats 1000000 in
theorem pisr_any (M : Int) (r gL gS cL cS : Nat) (L : List Int) (lo : Nat) (ins : List Int) (x : Int) (w : World) (h : EpQ M w r gL gS cL cS L lo ins) :
    Calls Try.prog 29 #[.pointer (some ⟨r, 0, none⟩), .int .i64 x] w fun e w' => e = .returned (.bool (decide (1 ≤ x ∧ x ≤ (ins.length : Int)))) ∧ w = w' := by
  have c4 := h.c4
  obtain ⟨R, hR⟩ : ∃ R, ins.length = R := ⟨_, rfl⟩
  rw [hR] at c4 ⊢
  clear h hR
  by_cases h1 : 1 ≤ x
  · by_cases h2 : x ≤ (R : Int)
    · rw [decide_eq_true ⟨h1, h2⟩]
      go_enter Try.func29, Try.ntmps29
      go_wp2
      go_ret
      exact ⟨rfl, rfl⟩
    · rw [decide_eq_false (by omega : ¬ (1 ≤ x ∧ x ≤ (R : Int)))]
      have h3 : decide (x ≤ (R : Int)) = false := decide_eq_false h2
      go_enter Try.func29, Try.ntmps29
      go_wp2
      go_ret
      exact ⟨rfl, rfl⟩
  · rw [decide_eq_false (by omega : ¬ (1 ≤ x ∧ x ≤ (R : Int)))]
    have h3 : decide (1 ≤ x) = false := decide_eq_false h1
    go_enter Try.func29, Try.ntmps29
    go_wp2
    go_ret
    exact ⟨rfl, rfl⟩
set_option maxRecDepth 100000 in
set_option maxHeartbeats 1000000 in
theorem pnewest (M : Int) (r gL gS cL cS : Nat) (L : List Int) (lo : Nat) (ins : List Int) (n : Nat) (hn : lo + L.length = n + 1) (hb : n ≤ 1000000) (w : World) (h : EpQ M w r gL gS cL cS L lo ins) :
    Calls Try.prog 30 #[.pointer (some ⟨r, 0, none⟩)] w fun e w' => e = .returned (.int .i64 (n : Int)) ∧ w.drew = w' := by
  have c2 := h.c2
  have c3 := h.c3
  obtain ⟨K, hK⟩ : ∃ K, L.length = K := ⟨_, rfl⟩
  rw [hK] at c2 hn
  have HC := Lib.hid (And.intro c2 c3)
  have j1 : IntKind.i64.wrap ((lo : Int) + (K : Int)) = (lo : Int) + (K : Int) := by rw [IntKind.wrap_i64]; omega
  have j2 : IntKind.i64.wrap ((lo : Int) + (K : Int) - 1) = (n : Int) := by rw [IntKind.wrap_i64]; omega
  clear h hK hn c2 c3 hb
  go_enter Try.func30, Try.ntmps30
  go_wp2
  refine wp_region_held_drew (S := (fun W => W.cell? ⟨r, 2, none⟩ = some (.slice (some ⟨gL, 0, none⟩) K cL) ∧ W.cell? ⟨r, 3, none⟩ = some (.int .i64 (lo : Int)))) (by kernel_rfl) ?_ (fun hHeld => ?_)
  · (exact HC.out)
  refine wpAnyH_take (i := 0) (oi := { dst := some 3, op := Go.Op.move (Go.Operand.tmp 0), type := 24, pos := "epoch.go:96", after := #[], guard := none }) (v := ?_) rfl (by kernel_rfl) (by kernel_rfl) (by kernel_rfl) (fun _ _ _ h => h) (Or.inl ⟨by rfl, ?_⟩) (by assumption) ?_
  rotate_left
  · intro w hSw
    (try dsimp only at hSw)
    go_simp
    try (with_reducible rfl)
  try simp only [Act.put, List.setIfInBounds_toArray, List.set_cons_zero, List.set_cons_succ]
  refine wpAnyH_take (i := 1) (oi := { dst := some 4, op := Go.Op.nilCheck (Go.Operand.tmp 3), type := 0, pos := "epoch.go:96", after := #[{ on := 0, ground := Go.Ground.data }], guard := none }) (v := ?_) rfl (by kernel_rfl) (by kernel_rfl) (by kernel_rfl) (fun _ _ _ h => h) (Or.inl ⟨by rfl, ?_⟩) (by assumption) ?_
  rotate_left
  · intro w hSw
    (try dsimp only at hSw)
    go_simp
    try (with_reducible rfl)
  try simp only [Act.put, List.setIfInBounds_toArray, List.set_cons_zero, List.set_cons_succ]
  refine wpAnyH_take (i := 2) (oi := { dst := some 5, op := Go.Op.fieldAddr 56 (Go.Operand.tmp 4) 2, type := 0, pos := "epoch.go:96", after := #[{ on := 1, ground := Go.Ground.data }], guard := none }) (v := ?_) rfl (by kernel_rfl) (by kernel_rfl) (by kernel_rfl) (fun _ _ _ h => h) (Or.inl ⟨by rfl, ?_⟩) (by assumption) ?_
  rotate_left
  · intro w hSw
    (try dsimp only at hSw)
    go_simp
    try (with_reducible rfl)
  try simp only [Act.put, List.setIfInBounds_toArray, List.set_cons_zero, List.set_cons_succ]
  refine wpAnyH_take (i := 3) (oi := { dst := some 6, op := Go.Op.load 3 (Go.Operand.tmp 5), type := 3, pos := "epoch.go:96", after := #[{ on := 2, ground := Go.Ground.data }], guard := none }) (v := ?_) rfl (by kernel_rfl) (by kernel_rfl) (by kernel_rfl) (fun _ _ _ h => h) (Or.inl ⟨by rfl, ?_⟩) (by assumption) ?_
  rotate_left
  · intro w hSw
    (try dsimp only at hSw)
    go_simp
    try (with_reducible rfl)
  try simp only [Act.put, List.setIfInBounds_toArray, List.set_cons_zero, List.set_cons_succ]
  refine wpAnyH_take (i := 4) (oi := { dst := some 7, op := Go.Op.move (Go.Operand.tmp 0), type := 24, pos := "epoch.go:96", after := #[], guard := none }) (v := ?_) rfl (by kernel_rfl) (by kernel_rfl) (by kernel_rfl) (fun _ _ _ h => h) (Or.inl ⟨by rfl, ?_⟩) (by assumption) ?_
  rotate_left
  · intro w hSw
    (try dsimp only at hSw)
    go_simp
    try (with_reducible rfl)
  try simp only [Act.put, List.setIfInBounds_toArray, List.set_cons_zero, List.set_cons_succ]
  refine wpAnyH_take (i := 5) (oi := { dst := some 8, op := Go.Op.nilCheck (Go.Operand.tmp 7), type := 0, pos := "epoch.go:96", after := #[{ on := 4, ground := Go.Ground.data }], guard := none }) (v := ?_) rfl (by kernel_rfl) (by kernel_rfl) (by kernel_rfl) (fun _ _ _ h => h) (Or.inl ⟨by rfl, ?_⟩) (by assumption) ?_
  rotate_left
  · intro w hSw
    (try dsimp only at hSw)
    go_simp
    try (with_reducible rfl)
  try simp only [Act.put, List.setIfInBounds_toArray, List.set_cons_zero, List.set_cons_succ]
  refine wpAnyH_take (i := 6) (oi := { dst := some 9, op := Go.Op.fieldAddr 56 (Go.Operand.tmp 8) 1, type := 0, pos := "epoch.go:96", after := #[{ on := 5, ground := Go.Ground.data }], guard := none }) (v := ?_) rfl (by kernel_rfl) (by kernel_rfl) (by kernel_rfl) (fun _ _ _ h => h) (Or.inl ⟨by rfl, ?_⟩) (by assumption) ?_
  rotate_left
  · intro w hSw
    (try dsimp only at hSw)
    go_simp
    try (with_reducible rfl)
  try simp only [Act.put, List.setIfInBounds_toArray, List.set_cons_zero, List.set_cons_succ]
  refine wpAnyH_take (i := 7) (oi := { dst := some 10, op := Go.Op.load 33 (Go.Operand.tmp 9), type := 33, pos := "epoch.go:96", after := #[{ on := 6, ground := Go.Ground.data }], guard := none }) (v := ?_) rfl (by kernel_rfl) (by kernel_rfl) (by kernel_rfl) (fun _ _ _ h => h) (Or.inl ⟨by rfl, ?_⟩) (by assumption) ?_
  rotate_left
  · intro w hSw
    (try dsimp only at hSw)
    go_simp
    try (with_reducible rfl)
  try simp only [Act.put, List.setIfInBounds_toArray, List.set_cons_zero, List.set_cons_succ]
  refine wpAnyH_take (i := 8) (oi := { dst := some 11, op := Go.Op.call { callee := Go.Callee.builtin Go.Builtin.len, args := #[Go.Operand.tmp 10], argTypes := #[33] }, type := 3, pos := "epoch.go:96", after := #[{ on := 7, ground := Go.Ground.data }], guard := none }) (v := ?_) rfl (by kernel_rfl) (by kernel_rfl) (by kernel_rfl) (fun _ _ _ h => h) (Or.inl ⟨by rfl, ?_⟩) (by assumption) ?_
  rotate_left
  · intro w hSw
    (try dsimp only at hSw)
    go_simp
    try (with_reducible rfl)
  try simp only [Act.put, List.setIfInBounds_toArray, List.set_cons_zero, List.set_cons_succ]
  refine wpAnyH_take (i := 9) (oi := { dst := some 12, op := Go.Op.binOp Go.BinOp.add 3 (Go.Operand.tmp 6) (Go.Operand.tmp 11) 3, type := 3, pos := "epoch.go:96", after := #[{ on := 3, ground := Go.Ground.data }, { on := 8, ground := Go.Ground.data }], guard := none }) (v := ?_) rfl (by kernel_rfl) (by kernel_rfl) (by kernel_rfl) (fun _ _ _ h => h) (Or.inl ⟨by rfl, ?_⟩) (by assumption) ?_
  rotate_left
  · intro w hSw
    (try dsimp only at hSw)
    go_simp
    try (with_reducible rfl)
  try simp only [Act.put, List.setIfInBounds_toArray, List.set_cons_zero, List.set_cons_succ]
  refine wpAnyH_take (i := 10) (oi := { dst := some 13, op := Go.Op.binOp Go.BinOp.sub 3 (Go.Operand.tmp 12) (Go.Operand.const (Go.Value.int Go.IntKind.i64 1)) 3, type := 3, pos := "epoch.go:96", after := #[{ on := 9, ground := Go.Ground.data }], guard := none }) (v := ?_) rfl (by kernel_rfl) (by kernel_rfl) (by kernel_rfl) (fun _ _ _ h => h) (Or.inl ⟨by rfl, ?_⟩) (by assumption) ?_
  rotate_left
  · intro w hSw
    (try dsimp only at hSw)
    go_simp
    try (with_reducible rfl)
  try simp only [Act.put, List.setIfInBounds_toArray, List.set_cons_zero, List.set_cons_succ]
  refine wpAnyH_take (i := 11) (oi := { dst := some 2, op := Go.Op.assign (Go.Operand.tmp 13), type := 3, pos := "epoch.go:96", after := #[{ on := 10, ground := Go.Ground.data }, { on := 0, ground := Go.Ground.phase }, { on := 1, ground := Go.Ground.phase }, { on := 2, ground := Go.Ground.phase }, { on := 3, ground := Go.Ground.phase }, { on := 4, ground := Go.Ground.phase }, { on := 5, ground := Go.Ground.phase }, { on := 6, ground := Go.Ground.phase }, { on := 7, ground := Go.Ground.phase }, { on := 8, ground := Go.Ground.phase }, { on := 9, ground := Go.Ground.phase }, { on := 10, ground := Go.Ground.phase }], guard := none }) (v := ?_) rfl (by kernel_rfl) (by kernel_rfl) (by kernel_rfl) (fun _ _ _ h => h) (Or.inl ⟨by rfl, ?_⟩) (by assumption) ?_
  rotate_left
  · intro w hSw
    (try dsimp only at hSw)
    go_simp
    try (with_reducible rfl)
  try simp only [Act.put, List.setIfInBounds_toArray, List.set_cons_zero, List.set_cons_succ]
  refine wpAnyH_done (by kernel_rfl) ?_ _
  go_wp2
  go_ret
  exact ⟨rfl, rfl⟩
set_option maxRecDepth 100000 in
set_option maxHeartbeats 1000000 in
theorem pversion (M : Int) (r gL gS cL cS : Nat) (L : List Int) (lo : Nat) (ins : List Int) (n i : Nat) (v : Int) (hn : n = lo + i) (hi : L[i]? = some v) (hb : n ≤ 1000000) (w : World) (h : EpQ M w r gL gS cL cS L lo ins) :
    Calls Try.prog 31 #[.pointer (some ⟨r, 0, none⟩), .int .i64 (n : Int)] w fun e w' => e = .returned (.int .i64 v) ∧ w.drew = w' := by
  have c2 := h.c2
  have c3 := h.c3
  have c5 := own_cell h.2.1 (ints_at hi)
  have hil := (List.getElem?_eq_some_iff.1 hi).1
  obtain ⟨K, hK⟩ : ∃ K, L.length = K := ⟨_, rfl⟩
  rw [hK] at c2 hil
  have HC := Lib.hid (And.intro c2 (And.intro c3 c5))
  have j1 : IntKind.i64.wrap ((n : Int) - (lo : Int)) = (i : Int) := by rw [IntKind.wrap_i64]; omega
  have i0 : (0 : Int) ≤ (i : Int) := by omega
  have i1 : (i : Int) < (K : Int) := by omega
  clear h hK hn c2 c3 hb c5 hil hi
  go_enter Try.func31, Try.ntmps31
  go_wp2
  refine wp_region_held_drew (S := (fun W => W.cell? ⟨r, 2, none⟩ = some (.slice (some ⟨gL, 0, none⟩) K cL) ∧ W.cell? ⟨r, 3, none⟩ = some (.int .i64 (lo : Int)) ∧ W.cell? ⟨gL, i, none⟩ = some (.int .i64 v))) (by kernel_rfl) ?_ (fun hHeld => ?_)
  · (exact HC.out)
  refine wpAnyH_take (i := 0) (oi := { dst := some 5, op := Go.Op.move (Go.Operand.tmp 0), type := 24, pos := "epoch.go:99", after := #[], guard := none }) (v := ?_) rfl (by kernel_rfl) (by kernel_rfl) (by kernel_rfl) (fun _ _ _ h => h) (Or.inl ⟨by rfl, ?_⟩) (by assumption) ?_
  rotate_left
  · intro w hSw
    (try dsimp only at hSw)
    go_simp
    try (with_reducible rfl)
  try simp only [Act.put, List.setIfInBounds_toArray, List.set_cons_zero, List.set_cons_succ]
  refine wpAnyH_take (i := 1) (oi := { dst := some 6, op := Go.Op.nilCheck (Go.Operand.tmp 5), type := 0, pos := "epoch.go:99", after := #[{ on := 0, ground := Go.Ground.data }], guard := none }) (v := ?_) rfl (by kernel_rfl) (by kernel_rfl) (by kernel_rfl) (fun _ _ _ h => h) (Or.inl ⟨by rfl, ?_⟩) (by assumption) ?_
  rotate_left
  · intro w hSw
    (try dsimp only at hSw)
    go_simp
    try (with_reducible rfl)
  try simp only [Act.put, List.setIfInBounds_toArray, List.set_cons_zero, List.set_cons_succ]
  refine wpAnyH_take (i := 2) (oi := { dst := some 7, op := Go.Op.fieldAddr 56 (Go.Operand.tmp 6) 1, type := 0, pos := "epoch.go:99", after := #[{ on := 1, ground := Go.Ground.data }], guard := none }) (v := ?_) rfl (by kernel_rfl) (by kernel_rfl) (by kernel_rfl) (fun _ _ _ h => h) (Or.inl ⟨by rfl, ?_⟩) (by assumption) ?_
  rotate_left
  · intro w hSw
    (try dsimp only at hSw)
    go_simp
    try (with_reducible rfl)
  try simp only [Act.put, List.setIfInBounds_toArray, List.set_cons_zero, List.set_cons_succ]
  refine wpAnyH_take (i := 3) (oi := { dst := some 8, op := Go.Op.load 33 (Go.Operand.tmp 7), type := 33, pos := "epoch.go:99", after := #[{ on := 2, ground := Go.Ground.data }], guard := none }) (v := ?_) rfl (by kernel_rfl) (by kernel_rfl) (by kernel_rfl) (fun _ _ _ h => h) (Or.inl ⟨by rfl, ?_⟩) (by assumption) ?_
  rotate_left
  · intro w hSw
    (try dsimp only at hSw)
    go_simp
    try (with_reducible rfl)
  try simp only [Act.put, List.setIfInBounds_toArray, List.set_cons_zero, List.set_cons_succ]
  refine wpAnyH_take (i := 4) (oi := { dst := some 9, op := Go.Op.move (Go.Operand.tmp 1), type := 3, pos := "epoch.go:99", after := #[], guard := none }) (v := ?_) rfl (by kernel_rfl) (by kernel_rfl) (by kernel_rfl) (fun _ _ _ h => h) (Or.inl ⟨by rfl, ?_⟩) (by assumption) ?_
  rotate_left
  · intro w hSw
    (try dsimp only at hSw)
    go_simp
    try (with_reducible rfl)
  try simp only [Act.put, List.setIfInBounds_toArray, List.set_cons_zero, List.set_cons_succ]
  refine wpAnyH_take (i := 5) (oi := { dst := some 10, op := Go.Op.move (Go.Operand.tmp 0), type := 24, pos := "epoch.go:99", after := #[], guard := none }) (v := ?_) rfl (by kernel_rfl) (by kernel_rfl) (by kernel_rfl) (fun _ _ _ h => h) (Or.inl ⟨by rfl, ?_⟩) (by assumption) ?_
  rotate_left
  · intro w hSw
    (try dsimp only at hSw)
    go_simp
    try (with_reducible rfl)
  try simp only [Act.put, List.setIfInBounds_toArray, List.set_cons_zero, List.set_cons_succ]
  refine wpAnyH_take (i := 6) (oi := { dst := some 11, op := Go.Op.nilCheck (Go.Operand.tmp 10), type := 0, pos := "epoch.go:99", after := #[{ on := 5, ground := Go.Ground.data }], guard := none }) (v := ?_) rfl (by kernel_rfl) (by kernel_rfl) (by kernel_rfl) (fun _ _ _ h => h) (Or.inl ⟨by rfl, ?_⟩) (by assumption) ?_
  rotate_left
  · intro w hSw
    (try dsimp only at hSw)
    go_simp
    try (with_reducible rfl)
  try simp only [Act.put, List.setIfInBounds_toArray, List.set_cons_zero, List.set_cons_succ]
  refine wpAnyH_take (i := 7) (oi := { dst := some 12, op := Go.Op.fieldAddr 56 (Go.Operand.tmp 11) 2, type := 0, pos := "epoch.go:99", after := #[{ on := 6, ground := Go.Ground.data }], guard := none }) (v := ?_) rfl (by kernel_rfl) (by kernel_rfl) (by kernel_rfl) (fun _ _ _ h => h) (Or.inl ⟨by rfl, ?_⟩) (by assumption) ?_
  rotate_left
  · intro w hSw
    (try dsimp only at hSw)
    go_simp
    try (with_reducible rfl)
  try simp only [Act.put, List.setIfInBounds_toArray, List.set_cons_zero, List.set_cons_succ]
  refine wpAnyH_take (i := 8) (oi := { dst := some 13, op := Go.Op.load 3 (Go.Operand.tmp 12), type := 3, pos := "epoch.go:99", after := #[{ on := 7, ground := Go.Ground.data }], guard := none }) (v := ?_) rfl (by kernel_rfl) (by kernel_rfl) (by kernel_rfl) (fun _ _ _ h => h) (Or.inl ⟨by rfl, ?_⟩) (by assumption) ?_
  rotate_left
  · intro w hSw
    (try dsimp only at hSw)
    go_simp
    try (with_reducible rfl)
  try simp only [Act.put, List.setIfInBounds_toArray, List.set_cons_zero, List.set_cons_succ]
  refine wpAnyH_take (i := 9) (oi := { dst := some 14, op := Go.Op.binOp Go.BinOp.sub 3 (Go.Operand.tmp 9) (Go.Operand.tmp 13) 3, type := 3, pos := "epoch.go:99", after := #[{ on := 4, ground := Go.Ground.data }, { on := 8, ground := Go.Ground.data }], guard := none }) (v := ?_) rfl (by kernel_rfl) (by kernel_rfl) (by kernel_rfl) (fun _ _ _ h => h) (Or.inl ⟨by rfl, ?_⟩) (by assumption) ?_
  rotate_left
  · intro w hSw
    (try dsimp only at hSw)
    go_simp
    try (with_reducible rfl)
  try simp only [Act.put, List.setIfInBounds_toArray, List.set_cons_zero, List.set_cons_succ]
  refine wpAnyH_take (i := 10) (oi := { dst := some 15, op := Go.Op.indexAddr 33 (Go.Operand.tmp 8) (Go.Operand.tmp 14), type := 0, pos := "epoch.go:99", after := #[{ on := 3, ground := Go.Ground.data }, { on := 9, ground := Go.Ground.data }], guard := none }) (v := ?_) rfl (by kernel_rfl) (by kernel_rfl) (by kernel_rfl) (fun _ _ _ h => h) (Or.inl ⟨by rfl, ?_⟩) (by assumption) ?_
  rotate_left
  · intro w hSw
    (try dsimp only at hSw)
    go_simp
    try (with_reducible rfl)
  try simp only [Act.put, List.setIfInBounds_toArray, List.set_cons_zero, List.set_cons_succ]
  refine wpAnyH_take (i := 11) (oi := { dst := some 16, op := Go.Op.load 3 (Go.Operand.tmp 15), type := 3, pos := "epoch.go:99", after := #[{ on := 10, ground := Go.Ground.data }], guard := none }) (v := ?_) rfl (by kernel_rfl) (by kernel_rfl) (by kernel_rfl) (fun _ _ _ h => h) (Or.inl ⟨by rfl, ?_⟩) (by assumption) ?_
  rotate_left
  · intro w hSw
    (try dsimp only at hSw)
    go_simp
    try (with_reducible rfl)
  try simp only [Act.put, List.setIfInBounds_toArray, List.set_cons_zero, List.set_cons_succ]
  refine wpAnyH_take (i := 12) (oi := { dst := some 4, op := Go.Op.assign (Go.Operand.tmp 16), type := 3, pos := "epoch.go:99", after := #[{ on := 11, ground := Go.Ground.data }, { on := 0, ground := Go.Ground.phase }, { on := 1, ground := Go.Ground.phase }, { on := 2, ground := Go.Ground.phase }, { on := 3, ground := Go.Ground.phase }, { on := 4, ground := Go.Ground.phase }, { on := 5, ground := Go.Ground.phase }, { on := 6, ground := Go.Ground.phase }, { on := 7, ground := Go.Ground.phase }, { on := 8, ground := Go.Ground.phase }, { on := 9, ground := Go.Ground.phase }, { on := 10, ground := Go.Ground.phase }, { on := 11, ground := Go.Ground.phase }], guard := none }) (v := ?_) rfl (by kernel_rfl) (by kernel_rfl) (by kernel_rfl) (fun _ _ _ h => h) (Or.inl ⟨by rfl, ?_⟩) (by assumption) ?_
  rotate_left
  · intro w hSw
    (try dsimp only at hSw)
    go_simp
    try (with_reducible rfl)
  try simp only [Act.put, List.setIfInBounds_toArray, List.set_cons_zero, List.set_cons_succ]
  refine wpAnyH_done (by kernel_rfl) ?_ _
  go_wp2
  go_ret
  exact ⟨rfl, rfl⟩
set_option maxRecDepth 100000 in
set_option maxHeartbeats 1000000 in
theorem pisin (M : Int) (r gL gS cL cS : Nat) (L : List Int) (lo : Nat) (ins : List Int) (hf : ins.length ≤ 16) (hin : ∀ x ∈ ins, -1 ≤ x) (x : Int) (w : World) (h : EpQ M w r gL gS cL cS L lo ins) :
    Calls Try.prog 32 #[.pointer (some ⟨r, 0, none⟩), .int .i64 x] w fun e w' => e = .returned (.bool (inE ins x)) ∧ w = w' := by
  have HR := Lib.hid (pisr_any M r gL gS cL cS L lo ins x w h)
  have c4 := h.c4
  rcases reader_cases ins x with h0 | ⟨i, y, hxi, hil, hy⟩
  · rw [(inE_bad h0).1]
    rw [decide_eq_false (by omega : ¬ (1 ≤ x ∧ x ≤ (ins.length : Int)))] at HR
    obtain ⟨R, hR⟩ : ∃ R, ins.length = R := ⟨_, rfl⟩
    rw [hR] at c4
    clear h hR h0 hin hf
    go_enter Try.func32, Try.ntmps32
    go_wp2_with (go_at_call 29; refine HR.out.mono ?_; rintro e w' ⟨rfl, rfl⟩)
    go_ret
    exact ⟨rfl, rfl⟩
  · have hi := (inE_at hy).1
    rw [← hxi] at hi
    rw [hi]
    have hym := hin y (List.mem_of_getElem? hy)
    rw [decide_eq_true (by omega : (1 ≤ x ∧ x ≤ (ins.length : Int)))] at HR
    have c5 := own_cell h.2.2.1 (ints_at hy)
    have j1 : IntKind.i64.wrap (x - 1) = (i : Int) := by rw [IntKind.wrap_i64]; omega
    obtain ⟨R, hR⟩ : ∃ R, ins.length = R := ⟨_, rfl⟩
    rw [hR] at c4 hil
    have i0 : (0 : Int) ≤ (i : Int) := by omega
    have i1 : (i : Int) < (R : Int) := by omega
    have hb : (y != -1) = decide (0 ≤ y) := by
      by_cases h0 : 0 ≤ y
      · rw [decide_eq_true h0]; simp; omega
      · rw [decide_eq_false h0]; simp; omega
    obtain ⟨b, hbb⟩ : ∃ b, decide (0 ≤ y) = b := ⟨_, rfl⟩
    rw [hbb] at hb ⊢
    clear h hR hin hi hym hxi hil hy hbb hf
    go_enter Try.func32, Try.ntmps32
    go_wp2_with (go_at_call 29; refine HR.out.mono ?_; rintro e w' ⟨rfl, rfl⟩)
    go_ret
    exact ⟨rfl, rfl⟩
theorem loE_more (l : List Int) (y : Int) (n : Nat) : loE (l ++ [y]) n = if 0 ≤ y then min (loE l n) y.toNat else loE l n := by
  induction l with
  | nil => unfold loE; simp [loE, Nat.min_comm]
  | cons x l ih =>
    rw [List.cons_append]
    unfold loE
    rw [ih]
    split <;> split <;> omega
set_option maxRecDepth 100000 in
set_option maxHeartbeats 2000000 in
theorem poldest (M : Int) (r gL gS cL cS : Nat) (L : List Int) (lo : Nat) (ins : List Int) (hf : ins.length ≤ 16) (hin : ∀ x ∈ ins, -1 ≤ x) (n : Nat) (hn : lo + L.length = n + 1) (hb : n ≤ 1000000) (w : World) (h : EpQ M w r gL gS cL cS L lo ins) :
    Calls Try.prog 37 #[.pointer (some ⟨r, 0, none⟩)] w fun e w' => e = .returned (.int .i64 (loE ins n : Int)) ∧ w.drew = w' := by
  have HN := Lib.hid (pnewest M r gL gS cL cS L lo ins n hn hb w h)
  have c4 := h.drew.c4
  have HQ := Lib.hid h.drew
  obtain ⟨R, hR⟩ : ∃ R, ins.length = R := ⟨_, rfl⟩
  have HR := Lib.hid hR
  have HI := Lib.hid hin
  rw [hR] at c4 hf
  obtain ⟨wd, hwd⟩ : ∃ wd, w.drew = wd := ⟨_, rfl⟩
  rw [hwd] at HN c4 HQ ⊢
  have HW := Lib.hid hwd
  clear h hR hn hb hin hwd
  go_enter Try.func37, Try.ntmps37
  go_wp2_with (go_at_call 30; refine HN.out.mono ?_; rintro e w' ⟨rfl, rfl⟩)
  go_loop [3, 13] (fun nv iv => ∃ (i m : Nat), nv = .int .i64 (m : Int) ∧ iv = .int .i64 (i : Int) ∧ i ≤ R ∧ Hid (loE (ins.take i) n = m)) (fun _ iv => R - (intOf iv).toNat)
  case atStart => exact ⟨0, n, rfl, rfl, Nat.zero_le _, Lib.hid (by simp [loE])⟩
  case round =>
    obtain ⟨i, m, rfl, rfl, hi, hm⟩ := hrel
    have j1 : IntKind.i64.wrap ((i : Int) + 1) = (i : Int) + 1 := by rw [IntKind.wrap_i64]; omega
    by_cases hlt : i < R
    · have i1 : (i : Int) < (R : Int) := by omega
      have i0 : (0 : Int) ≤ (i : Int) := by omega
      obtain ⟨y, hy⟩ : ∃ y, ins[i]? = some y := ⟨_, List.getElem?_eq_getElem (by have := HR.out; omega)⟩
      have c5 := own_cell HQ.out.2.2.1 (ints_at hy)
      have hym := HI.out y (List.mem_of_getElem? hy)
      have HT : Hid (ins.take (i + 1) = ins.take i ++ [y]) := Lib.hid (by rw [List.take_add_one, hy]; rfl)
      clear hy
      by_cases hy0 : 0 ≤ y
      · obtain ⟨y, rfl⟩ : ∃ z : Nat, y = (z : Int) := ⟨y.toNat, by omega⟩
        have hb : (((y : Nat) : Int) != -1) = true := by simp
        obtain ⟨k, hk⟩ : ∃ k, min m y = k := ⟨_, rfl⟩
        have HMN : Hid ((if y < m then (y : Int) else (m : Int)) = (k : Int)) := Lib.hid (by rw [← hk]; split <;> omega)
        have HK := Lib.hid hk
        clear hy0 hym hk
        go_wp2
        go_round
        case rel => exact ⟨i + 1, k, by rw [HMN.out], by go_num, hlt, Lib.hid (by rw [HT.out, loE_more, if_pos (by omega), hm.out, Int.toNat_natCast]; exact HK.out)⟩
        case measure => simp [intOf]; omega
      · have hb : (y != -1) = false := by simp; omega
        have HY := Lib.hid hy0
        clear hy0 hym
        go_wp2
        go_round
        case rel => exact ⟨i + 1, m, by rfl, by go_num, hlt, Lib.hid (by rw [HT.out, loE_more, if_neg HY.out]; exact hm.out)⟩
        case measure => simp [intOf]; omega
    · obtain rfl : i = R := by omega
      have i1 : ¬ (i : Int) < (i : Int) := by omega
      have hm' : loE ins n = m := by have := hm.out; rwa [List.take_of_length_le (Nat.le_of_eq HR.out)] at this
      have HM := Lib.hid hm'
      clear hm' hm hlt hi
      go_wp2
      go_ret
      exact ⟨by rw [HM.out]; rfl, rfl⟩
end Go.Proofs.Ytakeodnebegbhaa
