/-
  The document's own epoch (layer 13).
-/
import Derived.Test.YtakeodnebegbhaaOwn
import Derived.Test.YtakeodnebegbhaaEpN
namespace Go.Proofs.Ytakeodnebegbhaa
open Go.RowKit
set_option linter.unusedVariables false

/-- The document's epoch: all that was published, which were given back (those below lo), since when each reader is in; d, and the blocks of its three rows. -/
def EpD0 (w : World) (d gA gG gI : Nat) (all : List Int) (lo : Nat) (ins : List Int) : Prop := ∃ cA cG cI,
  Blk w d 59 #[.slice (some ⟨gA, 0, none⟩) all.length cA, .slice (some ⟨gG, 0, none⟩) all.length cG, .slice (some ⟨gI, 0, none⟩) ins.length cI] ∧
  w.ownsRow 0 3 1 (.slice (some ⟨gA, 0, none⟩) all.length cA) all.length (ints all) ∧ w.ownsRow 0 4 1 (.slice (some ⟨gG, 0, none⟩) all.length cG) all.length (gvE all.length lo) ∧
  w.ownsRow 0 3 1 (.slice (some ⟨gI, 0, none⟩) ins.length cI) ins.length (ints ins) ∧ (d ≠ gA ∧ d ≠ gG ∧ d ≠ gI ∧ gA ≠ gG ∧ gA ≠ gI ∧ gG ≠ gI) ∧ InvE all ins
section
variable {w w' : World} {d gA gG gI lo : Nat} {all ins : List Int}
theorem EpD0.lt (h : EpD0 w d gA gG gI all lo ins) : d < w.heap.size ∧ gA < w.heap.size ∧ gG < w.heap.size ∧ gI < w.heap.size := by
  obtain ⟨cA, cG, cI, h1, h2, h3, h4, -⟩ := h
  exact ⟨h1.lt, own_lt h2 rfl, own_lt h3 rfl, own_lt h4 rfl⟩
theorem EpD0.inv (h : EpD0 w d gA gG gI all lo ins) : InvE all ins := by
  obtain ⟨cA, cG, cI, h1, h2, h3, h4, h5, h6⟩ := h
  exact h6
theorem EpD0.tch {S : List Nat} (h : EpD0 w d gA gG gI all lo ins) (ht : Tch w w' S) (h1 : d ∉ S) (h2 : gA ∉ S) (h3 : gG ∉ S) (h4 : gI ∉ S) : EpD0 w' d gA gG gI all lo ins := by
  obtain ⟨cA, cG, cI, k1, k2, k3, k4, k5⟩ := h
  have e : ∀ {g : Nat} {n c : Nat}, g ∉ S → ∀ k, (Value.slice (some ⟨g, 0, none⟩) n c).ownBlock = some k → k ∉ S := fun hg k hk => by simp [Value.ownBlock] at hk; subst hk; exact hg
  exact ⟨cA, cG, cI, ht.blk k1 h1, ht.own k2 (e h2), ht.own k3 (e h3), ht.own k4 (e h4), k5⟩
end
theorem infoInt : (Try.prog.info? 3).map (fun i => (i.zero, i.size, i.bytes)) = some (some (.int .i64 0), 1, 8) := by kernel_rfl
theorem infoBool : (Try.prog.info? 4).map (fun i => (i.zero, i.size, i.bytes)) = some (some (.bool false), 1, 1) := by kernel_rfl
set_option maxHeartbeats 1000000 in
theorem rnew_bad (O f : Int) (h : O < 1 ∨ 16 < O) (w : World) : Calls Try.prog 10 #[.int .i64 O, .int .i64 f] w fun e w' => e = .returned (.tuple #[.pointer none, .int .i64 1]) ∧ w = w' := by
  by_cases h0 : O < 1
  · clear h
    go_enter Try.func10, Try.ntmps10
    go_wp2
    exact bodyPost_ret (v := .tuple #[.pointer none, .int .i64 1]) (by simp [results, Try.results10, go_sem]) rfl ⟨rfl, rfl⟩
  · have h2 : 16 < O := by omega
    clear h
    go_enter Try.func10, Try.ntmps10
    go_wp2
    exact bodyPost_ret (v := .tuple #[.pointer none, .int .i64 1]) (by simp [results, Try.results10, go_sem]) rfl ⟨rfl, rfl⟩
set_option maxRecDepth 100000 in
set_option maxHeartbeats 1000000 in
theorem rsee_bad1 (d gA gG gI : Nat) (all : List Int) (lo : Nat) (ins : List Int) (r : Int) (hr : r < 1) (w : World) (h : EpD0 w d gA gG gI all lo ins) :
    Calls Try.prog 23 #[.pointer (some ⟨d, 0, none⟩), .int .i64 r] w fun e w' => e = .returned (.tuple #[.int .i64 0, .bool false]) ∧ w = w' := by
  obtain ⟨cA, cG, cI, k1, k2, k3, k4, k5, k6⟩ := h
  have c0 := (k1.cell 0).trans (show _ = some (Value.slice (some ⟨gA, 0, none⟩) all.length cA) by rfl)
  have c2 := (k1.cell 2).trans (show _ = some (Value.slice (some ⟨gI, 0, none⟩) ins.length cI) by rfl)
  obtain ⟨R, hR⟩ : ∃ R, ins.length = R := ⟨_, rfl⟩
  rw [hR] at c2
  clear k1 k2 k3 k4 k5 k6 hR c0
  go_enter Try.func23, Try.ntmps23
  go_wp2
  exact bodyPost_ret (v := .tuple #[.int .i64 0, .bool false]) (by simp [results, Try.results23, go_sem]) rfl ⟨rfl, rfl⟩
set_option maxRecDepth 100000 in
set_option maxHeartbeats 1000000 in
theorem rsee_bad2 (d gA gG gI : Nat) (all : List Int) (lo : Nat) (ins : List Int) (r : Int) (h1 : ¬ r < 1) (hr : (ins.length : Int) < r) (w : World) (h : EpD0 w d gA gG gI all lo ins) :
    Calls Try.prog 23 #[.pointer (some ⟨d, 0, none⟩), .int .i64 r] w fun e w' => e = .returned (.tuple #[.int .i64 0, .bool false]) ∧ w = w' := by
  obtain ⟨cA, cG, cI, k1, k2, k3, k4, k5, k6⟩ := h
  have c0 := (k1.cell 0).trans (show _ = some (Value.slice (some ⟨gA, 0, none⟩) all.length cA) by rfl)
  have c2 := (k1.cell 2).trans (show _ = some (Value.slice (some ⟨gI, 0, none⟩) ins.length cI) by rfl)
  obtain ⟨R, hR⟩ : ∃ R, ins.length = R := ⟨_, rfl⟩
  rw [hR] at c2 hr
  clear k1 k2 k3 k4 k5 k6 hR c0
  go_enter Try.func23, Try.ntmps23
  go_wp2
  exact bodyPost_ret (v := .tuple #[.int .i64 0, .bool false]) (by simp [results, Try.results23, go_sem]) rfl ⟨rfl, rfl⟩
set_option maxRecDepth 100000 in
set_option maxHeartbeats 1000000 in
theorem rsee_bad3 (d gA gG gI : Nat) (all : List Int) (lo : Nat) (ins : List Int) (r : Int) (i : Nat) (x : Int) (hri : r = (i : Int) + 1) (hi : ins[i]? = some x) (hx : x < 0) (w : World) (h : EpD0 w d gA gG gI all lo ins) :
    Calls Try.prog 23 #[.pointer (some ⟨d, 0, none⟩), .int .i64 r] w fun e w' => e = .returned (.tuple #[.int .i64 0, .bool false]) ∧ w = w' := by
  obtain ⟨cA, cG, cI, k1, k2, k3, k4, k5, k6⟩ := h
  have c0 := (k1.cell 0).trans (show _ = some (Value.slice (some ⟨gA, 0, none⟩) all.length cA) by rfl)
  have c2 := (k1.cell 2).trans (show _ = some (Value.slice (some ⟨gI, 0, none⟩) ins.length cI) by rfl)
  have c3 := own_cell k4 (ints_at hi)
  have hl := (List.getElem?_eq_some_iff.1 hi).1
  have hf := k6.few.2
  obtain ⟨R, hR⟩ : ∃ R, ins.length = R := ⟨_, rfl⟩
  rw [hR] at c2 hl hf
  have r1 : ¬ r < 1 := by omega
  have r2 : ¬ (R : Int) < r := by omega
  have j1 : IntKind.i64.wrap (r - 1) = (i : Int) := by rw [IntKind.wrap_i64]; omega
  have i0 : (0 : Int) ≤ (i : Int) := by omega
  have i1 : (i : Int) < (R : Int) := by omega
  clear k1 k2 k3 k4 k5 k6 hR c0 hl hf hi hri
  go_enter Try.func23, Try.ntmps23
  go_wp2
  exact bodyPost_ret (v := .tuple #[.int .i64 0, .bool false]) (by simp [results, Try.results23, go_sem]) rfl ⟨rfl, rfl⟩
set_option maxRecDepth 100000 in
set_option maxHeartbeats 1000000 in
theorem rent_bad1 (d gA gG gI : Nat) (all : List Int) (lo : Nat) (ins : List Int) (r : Int) (hr : r < 1) (w : World) (h : EpD0 w d gA gG gI all lo ins) :
    Calls Try.prog 15 #[.pointer (some ⟨d, 0, none⟩), .int .i64 r] w fun e w' => e = .returned (.tuple #[.int .i64 0, .int .i64 120]) ∧ w = w' := by
  obtain ⟨cA, cG, cI, k1, k2, k3, k4, k5, k6⟩ := h
  have c0 := (k1.cell 0).trans (show _ = some (Value.slice (some ⟨gA, 0, none⟩) all.length cA) by rfl)
  have c2 := (k1.cell 2).trans (show _ = some (Value.slice (some ⟨gI, 0, none⟩) ins.length cI) by rfl)
  obtain ⟨R, hR⟩ : ∃ R, ins.length = R := ⟨_, rfl⟩
  rw [hR] at c2
  clear k1 k2 k3 k4 k5 k6 hR c0
  go_enter Try.func15, Try.ntmps15
  go_wp2
  exact bodyPost_ret (v := .tuple #[.int .i64 0, .int .i64 120]) (by simp [results, Try.results15, go_sem]) rfl ⟨rfl, rfl⟩
set_option maxRecDepth 100000 in
set_option maxHeartbeats 1000000 in
theorem rent_bad2 (d gA gG gI : Nat) (all : List Int) (lo : Nat) (ins : List Int) (r : Int) (h1 : ¬ r < 1) (hr : (ins.length : Int) < r) (w : World) (h : EpD0 w d gA gG gI all lo ins) :
    Calls Try.prog 15 #[.pointer (some ⟨d, 0, none⟩), .int .i64 r] w fun e w' => e = .returned (.tuple #[.int .i64 0, .int .i64 120]) ∧ w = w' := by
  obtain ⟨cA, cG, cI, k1, k2, k3, k4, k5, k6⟩ := h
  have c0 := (k1.cell 0).trans (show _ = some (Value.slice (some ⟨gA, 0, none⟩) all.length cA) by rfl)
  have c2 := (k1.cell 2).trans (show _ = some (Value.slice (some ⟨gI, 0, none⟩) ins.length cI) by rfl)
  obtain ⟨R, hR⟩ : ∃ R, ins.length = R := ⟨_, rfl⟩
  rw [hR] at c2 hr
  clear k1 k2 k3 k4 k5 k6 hR c0
  go_enter Try.func15, Try.ntmps15
  go_wp2
  exact bodyPost_ret (v := .tuple #[.int .i64 0, .int .i64 120]) (by simp [results, Try.results15, go_sem]) rfl ⟨rfl, rfl⟩
set_option maxRecDepth 100000 in
set_option maxHeartbeats 1000000 in
theorem rent_bad3 (d gA gG gI : Nat) (all : List Int) (lo : Nat) (ins : List Int) (r : Int) (i : Nat) (x : Int) (hri : r = (i : Int) + 1) (hi : ins[i]? = some x) (hx : ¬ x < 0) (w : World) (h : EpD0 w d gA gG gI all lo ins) :
    Calls Try.prog 15 #[.pointer (some ⟨d, 0, none⟩), .int .i64 r] w fun e w' => e = .returned (.tuple #[.int .i64 0, .int .i64 120]) ∧ w = w' := by
  obtain ⟨cA, cG, cI, k1, k2, k3, k4, k5, k6⟩ := h
  have c0 := (k1.cell 0).trans (show _ = some (Value.slice (some ⟨gA, 0, none⟩) all.length cA) by rfl)
  have c2 := (k1.cell 2).trans (show _ = some (Value.slice (some ⟨gI, 0, none⟩) ins.length cI) by rfl)
  have c3 := own_cell k4 (ints_at hi)
  have hl := (List.getElem?_eq_some_iff.1 hi).1
  have hf := k6.few.2
  obtain ⟨R, hR⟩ : ∃ R, ins.length = R := ⟨_, rfl⟩
  rw [hR] at c2 hl hf
  have r1 : ¬ r < 1 := by omega
  have r2 : ¬ (R : Int) < r := by omega
  have j1 : IntKind.i64.wrap (r - 1) = (i : Int) := by rw [IntKind.wrap_i64]; omega
  have i0 : (0 : Int) ≤ (i : Int) := by omega
  have i1 : (i : Int) < (R : Int) := by omega
  clear k1 k2 k3 k4 k5 k6 hR c0 hl hf hi hri
  go_enter Try.func15, Try.ntmps15
  go_wp2
  exact bodyPost_ret (v := .tuple #[.int .i64 0, .int .i64 120]) (by simp [results, Try.results15, go_sem]) rfl ⟨rfl, rfl⟩
set_option maxRecDepth 100000 in
set_option maxHeartbeats 1000000 in
theorem rlev_bad1 (d gA gG gI : Nat) (all : List Int) (lo : Nat) (ins : List Int) (r : Int) (hr : r < 1) (w : World) (h : EpD0 w d gA gG gI all lo ins) :
    Calls Try.prog 17 #[.pointer (some ⟨d, 0, none⟩), .int .i64 r] w fun e w' => e = .returned (.tuple #[.slice none 0 0, .int .i64 120]) ∧ w = w' := by
  obtain ⟨cA, cG, cI, k1, k2, k3, k4, k5, k6⟩ := h
  have c0 := (k1.cell 0).trans (show _ = some (Value.slice (some ⟨gA, 0, none⟩) all.length cA) by rfl)
  have c2 := (k1.cell 2).trans (show _ = some (Value.slice (some ⟨gI, 0, none⟩) ins.length cI) by rfl)
  obtain ⟨R, hR⟩ : ∃ R, ins.length = R := ⟨_, rfl⟩
  rw [hR] at c2
  clear k1 k2 k3 k4 k5 k6 hR c0
  go_enter Try.func17, Try.ntmps17
  go_wp2
  exact bodyPost_ret (v := .tuple #[.slice none 0 0, .int .i64 120]) (by simp [results, Try.results17, go_sem]) rfl ⟨rfl, rfl⟩
set_option maxRecDepth 100000 in
set_option maxHeartbeats 1000000 in
theorem rlev_bad2 (d gA gG gI : Nat) (all : List Int) (lo : Nat) (ins : List Int) (r : Int) (h1 : ¬ r < 1) (hr : (ins.length : Int) < r) (w : World) (h : EpD0 w d gA gG gI all lo ins) :
    Calls Try.prog 17 #[.pointer (some ⟨d, 0, none⟩), .int .i64 r] w fun e w' => e = .returned (.tuple #[.slice none 0 0, .int .i64 120]) ∧ w = w' := by
  obtain ⟨cA, cG, cI, k1, k2, k3, k4, k5, k6⟩ := h
  have c0 := (k1.cell 0).trans (show _ = some (Value.slice (some ⟨gA, 0, none⟩) all.length cA) by rfl)
  have c2 := (k1.cell 2).trans (show _ = some (Value.slice (some ⟨gI, 0, none⟩) ins.length cI) by rfl)
  obtain ⟨R, hR⟩ : ∃ R, ins.length = R := ⟨_, rfl⟩
  rw [hR] at c2 hr
  clear k1 k2 k3 k4 k5 k6 hR c0
  go_enter Try.func17, Try.ntmps17
  go_wp2
  exact bodyPost_ret (v := .tuple #[.slice none 0 0, .int .i64 120]) (by simp [results, Try.results17, go_sem]) rfl ⟨rfl, rfl⟩
set_option maxRecDepth 100000 in
set_option maxHeartbeats 1000000 in
theorem rlev_bad3 (d gA gG gI : Nat) (all : List Int) (lo : Nat) (ins : List Int) (r : Int) (i : Nat) (x : Int) (hri : r = (i : Int) + 1) (hi : ins[i]? = some x) (hx : x < 0) (w : World) (h : EpD0 w d gA gG gI all lo ins) :
    Calls Try.prog 17 #[.pointer (some ⟨d, 0, none⟩), .int .i64 r] w fun e w' => e = .returned (.tuple #[.slice none 0 0, .int .i64 120]) ∧ w = w' := by
  obtain ⟨cA, cG, cI, k1, k2, k3, k4, k5, k6⟩ := h
  have c0 := (k1.cell 0).trans (show _ = some (Value.slice (some ⟨gA, 0, none⟩) all.length cA) by rfl)
  have c2 := (k1.cell 2).trans (show _ = some (Value.slice (some ⟨gI, 0, none⟩) ins.length cI) by rfl)
  have c3 := own_cell k4 (ints_at hi)
  have hl := (List.getElem?_eq_some_iff.1 hi).1
  have hf := k6.few.2
  obtain ⟨R, hR⟩ : ∃ R, ins.length = R := ⟨_, rfl⟩
  rw [hR] at c2 hl hf
  have r1 : ¬ r < 1 := by omega
  have r2 : ¬ (R : Int) < r := by omega
  have j1 : IntKind.i64.wrap (r - 1) = (i : Int) := by rw [IntKind.wrap_i64]; omega
  have i0 : (0 : Int) ≤ (i : Int) := by omega
  have i1 : (i : Int) < (R : Int) := by omega
  clear k1 k2 k3 k4 k5 k6 hR c0 hl hf hi hri
  go_enter Try.func17, Try.ntmps17
  go_wp2
  exact bodyPost_ret (v := .tuple #[.slice none 0 0, .int .i64 120]) (by simp [results, Try.results17, go_sem]) rfl ⟨rfl, rfl⟩
set_option maxRecDepth 100000 in
set_option maxHeartbeats 2000000 in
theorem rcur_any (d gA gG gI : Nat) (all : List Int) (lo : Nat) (ins : List Int) (hl : all.length ≤ 100000) (w : World) (h : EpD0 w d gA gG gI all lo ins) :
    Calls Try.prog 20 #[.pointer (some ⟨d, 0, none⟩)] w fun e w' => e = .returned (.int .i64 (curE all)) ∧ w.drew = w' := by
  obtain ⟨cA, cG, cI, k1, k2, k3, k4, k5, k6⟩ := h
  obtain ⟨n, hn⟩ : ∃ n, all.length = n + 1 := ⟨all.length - 1, by have := k6.one; omega⟩
  have c0 := (k1.cell 0).trans (show _ = some (Value.slice (some ⟨gA, 0, none⟩) all.length cA) by rfl)
  have c3 := own_cell k2 (ints_at (i := n) (z := curE all) (by unfold curE; rw [List.getD_eq_getElem?_getD, show all.length - 1 = n by omega, List.getElem?_eq_getElem (by omega)]; rfl))
  rw [hn] at c0 hl
  obtain ⟨L, hL⟩ : ∃ L, n + 1 = L := ⟨_, rfl⟩
  rw [hL] at c0
  have HC := Lib.hid (And.intro c0 c3)
  have j1 : IntKind.i64.wrap ((L : Int) - 1) = (n : Int) := by rw [IntKind.wrap_i64]; omega
  have n0 : (0 : Int) ≤ (n : Int) := by omega
  have n1 : (n : Int) < (L : Int) := by omega
  obtain ⟨v, hv⟩ : ∃ v, curE all = v := ⟨_, rfl⟩
  rw [hv] at HC c3 ⊢
  clear k1 k2 k3 k4 k5 k6 hn hl hL hv
  go_enter Try.func20, Try.ntmps20
  go_wp2
  refine wp_region_held_drew (S := (fun W => W.cell? ⟨d, 0, none⟩ = some (.slice (some ⟨gA, 0, none⟩) L cA) ∧ W.cell? ⟨gA, n, none⟩ = some (.int .i64 v))) (by kernel_rfl) ?_ (fun hHeld => ?_)
  · (exact HC.out)
  refine wpAnyH_take (i := 0) (oi := { dst := some 3, op := Go.Op.move (Go.Operand.tmp 0), type := 28, pos := "ref.go:67", after := #[], guard := none }) (v := ?_) rfl (by kernel_rfl) (by kernel_rfl) (by kernel_rfl) (fun _ _ _ h => h) (Or.inl ⟨by rfl, ?_⟩) (by assumption) ?_
  rotate_left
  · intro w hSw
    (try dsimp only at hSw)
    go_simp
    try (with_reducible rfl)
  try simp only [Act.put, List.setIfInBounds_toArray, List.set_cons_zero, List.set_cons_succ]
  refine wpAnyH_take (i := 1) (oi := { dst := some 4, op := Go.Op.nilCheck (Go.Operand.tmp 3), type := 0, pos := "ref.go:67", after := #[{ on := 0, ground := Go.Ground.data }], guard := none }) (v := ?_) rfl (by kernel_rfl) (by kernel_rfl) (by kernel_rfl) (fun _ _ _ h => h) (Or.inl ⟨by rfl, ?_⟩) (by assumption) ?_
  rotate_left
  · intro w hSw
    (try dsimp only at hSw)
    go_simp
    try (with_reducible rfl)
  try simp only [Act.put, List.setIfInBounds_toArray, List.set_cons_zero, List.set_cons_succ]
  refine wpAnyH_take (i := 2) (oi := { dst := some 5, op := Go.Op.fieldAddr 59 (Go.Operand.tmp 4) 0, type := 0, pos := "ref.go:67", after := #[{ on := 1, ground := Go.Ground.data }], guard := none }) (v := ?_) rfl (by kernel_rfl) (by kernel_rfl) (by kernel_rfl) (fun _ _ _ h => h) (Or.inl ⟨by rfl, ?_⟩) (by assumption) ?_
  rotate_left
  · intro w hSw
    (try dsimp only at hSw)
    go_simp
    try (with_reducible rfl)
  try simp only [Act.put, List.setIfInBounds_toArray, List.set_cons_zero, List.set_cons_succ]
  refine wpAnyH_take (i := 3) (oi := { dst := some 6, op := Go.Op.load 33 (Go.Operand.tmp 5), type := 33, pos := "ref.go:67", after := #[{ on := 2, ground := Go.Ground.data }], guard := none }) (v := ?_) rfl (by kernel_rfl) (by kernel_rfl) (by kernel_rfl) (fun _ _ _ h => h) (Or.inl ⟨by rfl, ?_⟩) (by assumption) ?_
  rotate_left
  · intro w hSw
    (try dsimp only at hSw)
    go_simp
    try (with_reducible rfl)
  try simp only [Act.put, List.setIfInBounds_toArray, List.set_cons_zero, List.set_cons_succ]
  refine wpAnyH_take (i := 4) (oi := { dst := some 7, op := Go.Op.move (Go.Operand.tmp 0), type := 28, pos := "ref.go:67", after := #[], guard := none }) (v := ?_) rfl (by kernel_rfl) (by kernel_rfl) (by kernel_rfl) (fun _ _ _ h => h) (Or.inl ⟨by rfl, ?_⟩) (by assumption) ?_
  rotate_left
  · intro w hSw
    (try dsimp only at hSw)
    go_simp
    try (with_reducible rfl)
  try simp only [Act.put, List.setIfInBounds_toArray, List.set_cons_zero, List.set_cons_succ]
  refine wpAnyH_take (i := 5) (oi := { dst := some 8, op := Go.Op.nilCheck (Go.Operand.tmp 7), type := 0, pos := "ref.go:67", after := #[{ on := 4, ground := Go.Ground.data }], guard := none }) (v := ?_) rfl (by kernel_rfl) (by kernel_rfl) (by kernel_rfl) (fun _ _ _ h => h) (Or.inl ⟨by rfl, ?_⟩) (by assumption) ?_
  rotate_left
  · intro w hSw
    (try dsimp only at hSw)
    go_simp
    try (with_reducible rfl)
  try simp only [Act.put, List.setIfInBounds_toArray, List.set_cons_zero, List.set_cons_succ]
  refine wpAnyH_take (i := 6) (oi := { dst := some 9, op := Go.Op.fieldAddr 59 (Go.Operand.tmp 8) 0, type := 0, pos := "ref.go:67", after := #[{ on := 5, ground := Go.Ground.data }], guard := none }) (v := ?_) rfl (by kernel_rfl) (by kernel_rfl) (by kernel_rfl) (fun _ _ _ h => h) (Or.inl ⟨by rfl, ?_⟩) (by assumption) ?_
  rotate_left
  · intro w hSw
    (try dsimp only at hSw)
    go_simp
    try (with_reducible rfl)
  try simp only [Act.put, List.setIfInBounds_toArray, List.set_cons_zero, List.set_cons_succ]
  refine wpAnyH_take (i := 7) (oi := { dst := some 10, op := Go.Op.load 33 (Go.Operand.tmp 9), type := 33, pos := "ref.go:67", after := #[{ on := 6, ground := Go.Ground.data }], guard := none }) (v := ?_) rfl (by kernel_rfl) (by kernel_rfl) (by kernel_rfl) (fun _ _ _ h => h) (Or.inl ⟨by rfl, ?_⟩) (by assumption) ?_
  rotate_left
  · intro w hSw
    (try dsimp only at hSw)
    go_simp
    try (with_reducible rfl)
  try simp only [Act.put, List.setIfInBounds_toArray, List.set_cons_zero, List.set_cons_succ]
  refine wpAnyH_take (i := 8) (oi := { dst := some 11, op := Go.Op.call { callee := Go.Callee.builtin Go.Builtin.len, args := #[Go.Operand.tmp 10], argTypes := #[33] }, type := 3, pos := "ref.go:67", after := #[{ on := 7, ground := Go.Ground.data }], guard := none }) (v := ?_) rfl (by kernel_rfl) (by kernel_rfl) (by kernel_rfl) (fun _ _ _ h => h) (Or.inl ⟨by rfl, ?_⟩) (by assumption) ?_
  rotate_left
  · intro w hSw
    (try dsimp only at hSw)
    go_simp
    try (with_reducible rfl)
  try simp only [Act.put, List.setIfInBounds_toArray, List.set_cons_zero, List.set_cons_succ]
  refine wpAnyH_take (i := 9) (oi := { dst := some 12, op := Go.Op.binOp Go.BinOp.sub 3 (Go.Operand.tmp 11) (Go.Operand.const (Go.Value.int Go.IntKind.i64 1)) 3, type := 3, pos := "ref.go:67", after := #[{ on := 8, ground := Go.Ground.data }], guard := none }) (v := ?_) rfl (by kernel_rfl) (by kernel_rfl) (by kernel_rfl) (fun _ _ _ h => h) (Or.inl ⟨by rfl, ?_⟩) (by assumption) ?_
  rotate_left
  · intro w hSw
    (try dsimp only at hSw)
    go_simp
    try (with_reducible rfl)
  try simp only [Act.put, List.setIfInBounds_toArray, List.set_cons_zero, List.set_cons_succ]
  refine wpAnyH_take (i := 10) (oi := { dst := some 13, op := Go.Op.indexAddr 33 (Go.Operand.tmp 6) (Go.Operand.tmp 12), type := 0, pos := "ref.go:67", after := #[{ on := 3, ground := Go.Ground.data }, { on := 9, ground := Go.Ground.data }], guard := none }) (v := ?_) rfl (by kernel_rfl) (by kernel_rfl) (by kernel_rfl) (fun _ _ _ h => h) (Or.inl ⟨by rfl, ?_⟩) (by assumption) ?_
  rotate_left
  · intro w hSw
    (try dsimp only at hSw)
    go_simp
    try (with_reducible rfl)
  try simp only [Act.put, List.setIfInBounds_toArray, List.set_cons_zero, List.set_cons_succ]
  refine wpAnyH_take (i := 11) (oi := { dst := some 14, op := Go.Op.load 3 (Go.Operand.tmp 13), type := 3, pos := "ref.go:67", after := #[{ on := 10, ground := Go.Ground.data }], guard := none }) (v := ?_) rfl (by kernel_rfl) (by kernel_rfl) (by kernel_rfl) (fun _ _ _ h => h) (Or.inl ⟨by rfl, ?_⟩) (by assumption) ?_
  rotate_left
  · intro w hSw
    (try dsimp only at hSw)
    go_simp
    try (with_reducible rfl)
  try simp only [Act.put, List.setIfInBounds_toArray, List.set_cons_zero, List.set_cons_succ]
  refine wpAnyH_take (i := 12) (oi := { dst := some 2, op := Go.Op.assign (Go.Operand.tmp 14), type := 3, pos := "ref.go:67", after := #[{ on := 11, ground := Go.Ground.data }, { on := 0, ground := Go.Ground.phase }, { on := 1, ground := Go.Ground.phase }, { on := 2, ground := Go.Ground.phase }, { on := 3, ground := Go.Ground.phase }, { on := 4, ground := Go.Ground.phase }, { on := 5, ground := Go.Ground.phase }, { on := 6, ground := Go.Ground.phase }, { on := 7, ground := Go.Ground.phase }, { on := 8, ground := Go.Ground.phase }, { on := 9, ground := Go.Ground.phase }, { on := 10, ground := Go.Ground.phase }, { on := 11, ground := Go.Ground.phase }], guard := none }) (v := ?_) rfl (by kernel_rfl) (by kernel_rfl) (by kernel_rfl) (fun _ _ _ h => h) (Or.inl ⟨by rfl, ?_⟩) (by assumption) ?_
  rotate_left
  · intro w hSw
    (try dsimp only at hSw)
    go_simp
    try (with_reducible rfl)
  try simp only [Act.put, List.setIfInBounds_toArray, List.set_cons_zero, List.set_cons_succ]
  refine wpAnyH_done (by kernel_rfl) ?_ _
  go_wp2
  go_ret
  exact ⟨rfl, rfl⟩
set_option maxRecDepth 100000 in
set_option maxHeartbeats 1000000 in
theorem rsee_ok (d gA gG gI : Nat) (all : List Int) (lo : Nat) (ins : List Int) (hl : all.length ≤ 100000) (r : Int) (i x : Nat) (hri : r = (i : Int) + 1) (hi : ins[i]? = some (x : Int)) (v : Int) (hv : all[x]? = some v) (w : World) (h : EpD0 w d gA gG gI all lo ins) :
    Calls Try.prog 23 #[.pointer (some ⟨d, 0, none⟩), .int .i64 r] w fun e w' => e = .returned (.tuple #[.int .i64 v, .bool true]) ∧ w.drew = w' := by
  obtain ⟨cA, cG, cI, k1, k2, k3, k4, k5, k6⟩ := h
  have c0 := (k1.cell 0).trans (show _ = some (Value.slice (some ⟨gA, 0, none⟩) all.length cA) by rfl)
  have c2 := (k1.cell 2).trans (show _ = some (Value.slice (some ⟨gI, 0, none⟩) ins.length cI) by rfl)
  have c3 := own_cell k4 (ints_at hi)
  have c4 := own_cell k2 (ints_at hv)
  have hil := (List.getElem?_eq_some_iff.1 hi).1
  have hvl := (List.getElem?_eq_some_iff.1 hv).1
  have hf := k6.few.2
  obtain ⟨R, hR⟩ : ∃ R, ins.length = R := ⟨_, rfl⟩
  obtain ⟨L, hL⟩ : ∃ L, all.length = L := ⟨_, rfl⟩
  rw [hR] at c2 hil hf
  rw [hL] at c0 hvl hl
  have r1 : ¬ r < 1 := by omega
  have r2 : ¬ (R : Int) < r := by omega
  have r3 : ¬ (x : Int) < 0 := by omega
  have j1 : IntKind.i64.wrap (r - 1) = (i : Int) := by rw [IntKind.wrap_i64]; omega
  have i0 : (0 : Int) ≤ (i : Int) := by omega
  have i1 : (i : Int) < (R : Int) := by omega
  have x0 : (0 : Int) ≤ (x : Int) := by omega
  have x1 : (x : Int) < (L : Int) := by omega
  have HC := Lib.hid (And.intro c0 (And.intro c2 (And.intro c3 c4)))
  clear k1 k2 k3 k4 k5 k6 hR hL hil hf hvl hi hv hl hri
  go_enter Try.func23, Try.ntmps23
  go_wp2
  refine wp_region_held_drew (S := (fun W => W.cell? ⟨d, 0, none⟩ = some (.slice (some ⟨gA, 0, none⟩) L cA) ∧ W.cell? ⟨d, 2, none⟩ = some (.slice (some ⟨gI, 0, none⟩) R cI) ∧ W.cell? ⟨gI, i, none⟩ = some (.int .i64 (x : Int)) ∧ W.cell? ⟨gA, x, none⟩ = some (.int .i64 v))) (by kernel_rfl) ?_ (fun hHeld => ?_)
  · (exact HC.out)
  refine wpAnyH_take (i := 0) (oi := { dst := some 28, op := Go.Op.move (Go.Operand.tmp 0), type := 28, pos := "ref.go:74", after := #[], guard := none }) (v := ?_) rfl (by kernel_rfl) (by kernel_rfl) (by kernel_rfl) (fun _ _ _ h => h) (Or.inl ⟨by rfl, ?_⟩) (by assumption) ?_
  rotate_left
  · intro w hSw
    (try dsimp only at hSw)
    go_simp
    try (with_reducible rfl)
  try simp only [Act.put, List.setIfInBounds_toArray, List.set_cons_zero, List.set_cons_succ]
  refine wpAnyH_take (i := 1) (oi := { dst := some 29, op := Go.Op.nilCheck (Go.Operand.tmp 28), type := 0, pos := "ref.go:74", after := #[{ on := 0, ground := Go.Ground.data }], guard := none }) (v := ?_) rfl (by kernel_rfl) (by kernel_rfl) (by kernel_rfl) (fun _ _ _ h => h) (Or.inl ⟨by rfl, ?_⟩) (by assumption) ?_
  rotate_left
  · intro w hSw
    (try dsimp only at hSw)
    go_simp
    try (with_reducible rfl)
  try simp only [Act.put, List.setIfInBounds_toArray, List.set_cons_zero, List.set_cons_succ]
  refine wpAnyH_take (i := 2) (oi := { dst := some 30, op := Go.Op.fieldAddr 59 (Go.Operand.tmp 29) 0, type := 0, pos := "ref.go:74", after := #[{ on := 1, ground := Go.Ground.data }], guard := none }) (v := ?_) rfl (by kernel_rfl) (by kernel_rfl) (by kernel_rfl) (fun _ _ _ h => h) (Or.inl ⟨by rfl, ?_⟩) (by assumption) ?_
  rotate_left
  · intro w hSw
    (try dsimp only at hSw)
    go_simp
    try (with_reducible rfl)
  try simp only [Act.put, List.setIfInBounds_toArray, List.set_cons_zero, List.set_cons_succ]
  refine wpAnyH_take (i := 3) (oi := { dst := some 31, op := Go.Op.load 33 (Go.Operand.tmp 30), type := 33, pos := "ref.go:74", after := #[{ on := 2, ground := Go.Ground.data }], guard := none }) (v := ?_) rfl (by kernel_rfl) (by kernel_rfl) (by kernel_rfl) (fun _ _ _ h => h) (Or.inl ⟨by rfl, ?_⟩) (by assumption) ?_
  rotate_left
  · intro w hSw
    (try dsimp only at hSw)
    go_simp
    try (with_reducible rfl)
  try simp only [Act.put, List.setIfInBounds_toArray, List.set_cons_zero, List.set_cons_succ]
  refine wpAnyH_take (i := 4) (oi := { dst := some 32, op := Go.Op.move (Go.Operand.tmp 0), type := 28, pos := "ref.go:74", after := #[], guard := none }) (v := ?_) rfl (by kernel_rfl) (by kernel_rfl) (by kernel_rfl) (fun _ _ _ h => h) (Or.inl ⟨by rfl, ?_⟩) (by assumption) ?_
  rotate_left
  · intro w hSw
    (try dsimp only at hSw)
    go_simp
    try (with_reducible rfl)
  try simp only [Act.put, List.setIfInBounds_toArray, List.set_cons_zero, List.set_cons_succ]
  refine wpAnyH_take (i := 5) (oi := { dst := some 33, op := Go.Op.nilCheck (Go.Operand.tmp 32), type := 0, pos := "ref.go:74", after := #[{ on := 4, ground := Go.Ground.data }], guard := none }) (v := ?_) rfl (by kernel_rfl) (by kernel_rfl) (by kernel_rfl) (fun _ _ _ h => h) (Or.inl ⟨by rfl, ?_⟩) (by assumption) ?_
  rotate_left
  · intro w hSw
    (try dsimp only at hSw)
    go_simp
    try (with_reducible rfl)
  try simp only [Act.put, List.setIfInBounds_toArray, List.set_cons_zero, List.set_cons_succ]
  refine wpAnyH_take (i := 6) (oi := { dst := some 34, op := Go.Op.fieldAddr 59 (Go.Operand.tmp 33) 2, type := 0, pos := "ref.go:74", after := #[{ on := 5, ground := Go.Ground.data }], guard := none }) (v := ?_) rfl (by kernel_rfl) (by kernel_rfl) (by kernel_rfl) (fun _ _ _ h => h) (Or.inl ⟨by rfl, ?_⟩) (by assumption) ?_
  rotate_left
  · intro w hSw
    (try dsimp only at hSw)
    go_simp
    try (with_reducible rfl)
  try simp only [Act.put, List.setIfInBounds_toArray, List.set_cons_zero, List.set_cons_succ]
  refine wpAnyH_take (i := 7) (oi := { dst := some 35, op := Go.Op.load 33 (Go.Operand.tmp 34), type := 33, pos := "ref.go:74", after := #[{ on := 6, ground := Go.Ground.data }], guard := none }) (v := ?_) rfl (by kernel_rfl) (by kernel_rfl) (by kernel_rfl) (fun _ _ _ h => h) (Or.inl ⟨by rfl, ?_⟩) (by assumption) ?_
  rotate_left
  · intro w hSw
    (try dsimp only at hSw)
    go_simp
    try (with_reducible rfl)
  try simp only [Act.put, List.setIfInBounds_toArray, List.set_cons_zero, List.set_cons_succ]
  refine wpAnyH_take (i := 8) (oi := { dst := some 36, op := Go.Op.move (Go.Operand.tmp 1), type := 3, pos := "ref.go:74", after := #[], guard := none }) (v := ?_) rfl (by kernel_rfl) (by kernel_rfl) (by kernel_rfl) (fun _ _ _ h => h) (Or.inl ⟨by rfl, ?_⟩) (by assumption) ?_
  rotate_left
  · intro w hSw
    (try dsimp only at hSw)
    go_simp
    try (with_reducible rfl)
  try simp only [Act.put, List.setIfInBounds_toArray, List.set_cons_zero, List.set_cons_succ]
  refine wpAnyH_take (i := 9) (oi := { dst := some 37, op := Go.Op.binOp Go.BinOp.sub 3 (Go.Operand.tmp 36) (Go.Operand.const (Go.Value.int Go.IntKind.i64 1)) 3, type := 3, pos := "ref.go:74", after := #[{ on := 8, ground := Go.Ground.data }], guard := none }) (v := ?_) rfl (by kernel_rfl) (by kernel_rfl) (by kernel_rfl) (fun _ _ _ h => h) (Or.inl ⟨by rfl, ?_⟩) (by assumption) ?_
  rotate_left
  · intro w hSw
    (try dsimp only at hSw)
    go_simp
    try (with_reducible rfl)
  try simp only [Act.put, List.setIfInBounds_toArray, List.set_cons_zero, List.set_cons_succ]
  refine wpAnyH_take (i := 10) (oi := { dst := some 38, op := Go.Op.indexAddr 33 (Go.Operand.tmp 35) (Go.Operand.tmp 37), type := 0, pos := "ref.go:74", after := #[{ on := 7, ground := Go.Ground.data }, { on := 9, ground := Go.Ground.data }], guard := none }) (v := ?_) rfl (by kernel_rfl) (by kernel_rfl) (by kernel_rfl) (fun _ _ _ h => h) (Or.inl ⟨by rfl, ?_⟩) (by assumption) ?_
  rotate_left
  · intro w hSw
    (try dsimp only at hSw)
    go_simp
    try (with_reducible rfl)
  try simp only [Act.put, List.setIfInBounds_toArray, List.set_cons_zero, List.set_cons_succ]
  refine wpAnyH_take (i := 11) (oi := { dst := some 39, op := Go.Op.load 3 (Go.Operand.tmp 38), type := 3, pos := "ref.go:74", after := #[{ on := 10, ground := Go.Ground.data }], guard := none }) (v := ?_) rfl (by kernel_rfl) (by kernel_rfl) (by kernel_rfl) (fun _ _ _ h => h) (Or.inl ⟨by rfl, ?_⟩) (by assumption) ?_
  rotate_left
  · intro w hSw
    (try dsimp only at hSw)
    go_simp
    try (with_reducible rfl)
  try simp only [Act.put, List.setIfInBounds_toArray, List.set_cons_zero, List.set_cons_succ]
  refine wpAnyH_take (i := 12) (oi := { dst := some 40, op := Go.Op.indexAddr 33 (Go.Operand.tmp 31) (Go.Operand.tmp 39), type := 0, pos := "ref.go:74", after := #[{ on := 3, ground := Go.Ground.data }, { on := 11, ground := Go.Ground.data }], guard := none }) (v := ?_) rfl (by kernel_rfl) (by kernel_rfl) (by kernel_rfl) (fun _ _ _ h => h) (Or.inl ⟨by rfl, ?_⟩) (by assumption) ?_
  rotate_left
  · intro w hSw
    (try dsimp only at hSw)
    go_simp
    try (with_reducible rfl)
  try simp only [Act.put, List.setIfInBounds_toArray, List.set_cons_zero, List.set_cons_succ]
  refine wpAnyH_take (i := 13) (oi := { dst := some 41, op := Go.Op.load 3 (Go.Operand.tmp 40), type := 3, pos := "ref.go:74", after := #[{ on := 12, ground := Go.Ground.data }], guard := none }) (v := ?_) rfl (by kernel_rfl) (by kernel_rfl) (by kernel_rfl) (fun _ _ _ h => h) (Or.inl ⟨by rfl, ?_⟩) (by assumption) ?_
  rotate_left
  · intro w hSw
    (try dsimp only at hSw)
    go_simp
    try (with_reducible rfl)
  try simp only [Act.put, List.setIfInBounds_toArray, List.set_cons_zero, List.set_cons_succ]
  refine wpAnyH_take (i := 14) (oi := { dst := some 4, op := Go.Op.assign (Go.Operand.tmp 41), type := 3, pos := "ref.go:74", after := #[{ on := 13, ground := Go.Ground.data }, { on := 0, ground := Go.Ground.phase }, { on := 1, ground := Go.Ground.phase }, { on := 2, ground := Go.Ground.phase }, { on := 3, ground := Go.Ground.phase }, { on := 4, ground := Go.Ground.phase }, { on := 5, ground := Go.Ground.phase }, { on := 6, ground := Go.Ground.phase }, { on := 7, ground := Go.Ground.phase }, { on := 8, ground := Go.Ground.phase }, { on := 9, ground := Go.Ground.phase }, { on := 10, ground := Go.Ground.phase }, { on := 11, ground := Go.Ground.phase }, { on := 12, ground := Go.Ground.phase }, { on := 13, ground := Go.Ground.phase }], guard := none }) (v := ?_) rfl (by kernel_rfl) (by kernel_rfl) (by kernel_rfl) (fun _ _ _ h => h) (Or.inl ⟨by rfl, ?_⟩) (by assumption) ?_
  rotate_left
  · intro w hSw
    (try dsimp only at hSw)
    go_simp
    try (with_reducible rfl)
  try simp only [Act.put, List.setIfInBounds_toArray, List.set_cons_zero, List.set_cons_succ]
  refine wpAnyH_take (i := 15) (oi := { dst := some 5, op := Go.Op.assign (Go.Operand.const (Go.Value.bool true)), type := 4, pos := "ref.go:74", after := #[{ on := 14, ground := Go.Ground.chain }, { on := 0, ground := Go.Ground.phase }, { on := 1, ground := Go.Ground.phase }, { on := 2, ground := Go.Ground.phase }, { on := 3, ground := Go.Ground.phase }, { on := 4, ground := Go.Ground.phase }, { on := 5, ground := Go.Ground.phase }, { on := 6, ground := Go.Ground.phase }, { on := 7, ground := Go.Ground.phase }, { on := 8, ground := Go.Ground.phase }, { on := 9, ground := Go.Ground.phase }, { on := 10, ground := Go.Ground.phase }, { on := 11, ground := Go.Ground.phase }, { on := 12, ground := Go.Ground.phase }, { on := 13, ground := Go.Ground.phase }, { on := 14, ground := Go.Ground.phase }], guard := none }) (v := ?_) rfl (by kernel_rfl) (by kernel_rfl) (by kernel_rfl) (fun _ _ _ h => h) (Or.inl ⟨by rfl, ?_⟩) (by assumption) ?_
  rotate_left
  · intro w hSw
    (try dsimp only at hSw)
    go_simp
    try (with_reducible rfl)
  try simp only [Act.put, List.setIfInBounds_toArray, List.set_cons_zero, List.set_cons_succ]
  refine wpAnyH_done (by kernel_rfl) ?_ _
  go_wp2
  exact bodyPost_ret (v := .tuple #[.int .i64 v, .bool true]) (by simp [results, Try.results23, go_sem]) rfl ⟨rfl, rfl⟩
theorem EpD0.set_in {w : World} {d gA gG gI lo : Nat} {all ins : List Int} (h : EpD0 w d gA gG gI all lo ins) {i : Nat} {y : Int} (hi : i < ins.length) (hy : -1 ≤ y ∧ y < (all.length : Int)) : EpD0 (w.setCell ⟨gI, i, none⟩ (.int .i64 y)) d gA gG gI all lo (ins.set i y) := by
  obtain ⟨cA, cG, cI, k1, k2, k3, k4, k5, k6⟩ := h
  have hT : Tch w (w.setCell ⟨gI, i, none⟩ (.int .i64 y)) [gI] := (Tch.refl w [gI]).set_ (p := ⟨gI, i, none⟩) (by simp) _
  refine ⟨cA, cG, cI, ?_, hT.own k2 (nown (w := w) (nin1 k5.2.2.2.2.1)), hT.own k3 (nown (w := w) (nin1 k5.2.2.2.2.2)), ?_, k5, k6.set_ i hy⟩
  · rw [List.length_set]
    exact hT.blk k1 (nin1 k5.2.2.1)
  · rw [List.length_set, show ints (ins.set i y) = (ints ins).set i (.int .i64 y) by simp [ints, List.map_set]]
    exact own_set1 k4 hi _
set_option maxRecDepth 100000 in
set_option maxHeartbeats 2000000 in
theorem rent_ok (d gA gG gI : Nat) (all : List Int) (lo : Nat) (ins : List Int) (hl : all.length ≤ 100000) (r : Int) (i : Nat) (x : Int) (hri : r = (i : Int) + 1) (hi : ins[i]? = some x) (hx : x < 0) (w : World) (h : EpD0 w d gA gG gI all lo ins) :
    Calls Try.prog 15 #[.pointer (some ⟨d, 0, none⟩), .int .i64 r] w fun e w' => e = .returned (.tuple #[.int .i64 (curE all), .int .i64 0]) ∧ EpD0 w' d gA gG gI all lo (ins.set i ((all.length - 1 : Nat) : Int)) ∧ Tch w w' [gI] := by
  have HE := Lib.hid (h.set_in (i := i) (y := ((all.length - 1 : Nat) : Int)) (List.getElem?_eq_some_iff.1 hi).1 (by have := h.inv.one; omega))
  obtain ⟨cA, cG, cI, k1, k2, k3, k4, k5, k6⟩ := h
  have c0 := (k1.cell 0).trans (show _ = some (Value.slice (some ⟨gA, 0, none⟩) all.length cA) by rfl)
  have c1 := (k1.cell 1).trans (show _ = some (Value.slice (some ⟨gG, 0, none⟩) all.length cG) by rfl)
  have c2 := (k1.cell 2).trans (show _ = some (Value.slice (some ⟨gI, 0, none⟩) ins.length cI) by rfl)
  obtain ⟨n, hn⟩ : ∃ n, all.length = n + 1 := ⟨all.length - 1, by have := k6.one; omega⟩
  have c3 := own_cell k4 (ints_at hi)
  have c4 := own_cell k2 (ints_at (i := n) (z := curE all) (by unfold curE; rw [List.getD_eq_getElem?_getD, show all.length - 1 = n by omega, List.getElem?_eq_getElem (by omega)]; rfl))
  have o3 := own_frozen k4 i
  have hil := (List.getElem?_eq_some_iff.1 hi).1
  have hf := k6.few.2
  rw [show all.length - 1 = n by omega] at HE ⊢
  obtain ⟨R, hR⟩ : ∃ R, ins.length = R := ⟨_, rfl⟩
  rw [hn] at c0 hl
  obtain ⟨L, hL⟩ : ∃ L, n + 1 = L := ⟨_, rfl⟩
  rw [hR] at c2 hil hf
  rw [hL] at c0 hl
  obtain ⟨v, hv⟩ : ∃ v, curE all = v := ⟨_, rfl⟩
  rw [hv] at c4 ⊢
  have r1 : ¬ r < 1 := by omega
  have r2 : ¬ (R : Int) < r := by omega
  have r3 : ¬ (0 : Int) ≤ x := by omega
  have j1 : IntKind.i64.wrap (r - 1) = (i : Int) := by rw [IntKind.wrap_i64]; omega
  have j2 : IntKind.i64.wrap ((L : Int) - 1) = (n : Int) := by rw [IntKind.wrap_i64]; omega
  have i0 : (0 : Int) ≤ (i : Int) := by omega
  have i1 : (i : Int) < (R : Int) := by omega
  have n0 : (0 : Int) ≤ (n : Int) := by omega
  have n1 : (n : Int) < (L : Int) := by omega
  have HC := Lib.hid (And.intro c0 c2)
  have e0 := (World.cell?_setCell_far w ⟨gI, i, none⟩ ⟨d, 0, none⟩ (.int .i64 (n : Int)) (by show gI ≠ d; exact k5.2.2.1.symm)).trans c0
  have e2 := (World.cell?_setCell_far w ⟨gI, i, none⟩ ⟨d, 2, none⟩ (.int .i64 (n : Int)) (by show gI ≠ d; exact k5.2.2.1.symm)).trans c2
  have e4 := (World.cell?_setCell_far w ⟨gI, i, none⟩ ⟨gA, n, none⟩ (.int .i64 (n : Int)) (by show gI ≠ gA; exact k5.2.2.2.2.1.symm)).trans c4
  have HC2 := Lib.hid (And.intro e0 e2)
  have HC3 := Lib.hid (And.intro e0 e4)
  clear k1 k2 k3 k4 k5 k6 hR hil hf hi hl hri hv hL hn e0 e2 e4
  go_enter Try.func15, Try.ntmps15
  go_wp2
  refine wp_region_held_drew (S := (fun W => W.cell? ⟨d, 0, none⟩ = some (.slice (some ⟨gA, 0, none⟩) L cA) ∧ W.cell? ⟨d, 2, none⟩ = some (.slice (some ⟨gI, 0, none⟩) R cI))) (by kernel_rfl) ?_ (fun hHeld => ?_)
  · (exact HC.out)
  refine wpAnyH_take (i := 0) (oi := { dst := some 28, op := Go.Op.move (Go.Operand.tmp 0), type := 28, pos := "ref.go:53", after := #[], guard := none }) (v := ?_) rfl (by kernel_rfl) (by kernel_rfl) (by kernel_rfl) (fun _ _ _ h => h) (Or.inl ⟨by rfl, ?_⟩) (by assumption) ?_
  rotate_left
  · intro w hSw
    (try dsimp only at hSw)
    go_simp
    try (with_reducible rfl)
  try simp only [Act.put, List.setIfInBounds_toArray, List.set_cons_zero, List.set_cons_succ]
  refine wpAnyH_take (i := 1) (oi := { dst := some 29, op := Go.Op.nilCheck (Go.Operand.tmp 28), type := 0, pos := "ref.go:53", after := #[{ on := 0, ground := Go.Ground.data }], guard := none }) (v := ?_) rfl (by kernel_rfl) (by kernel_rfl) (by kernel_rfl) (fun _ _ _ h => h) (Or.inl ⟨by rfl, ?_⟩) (by assumption) ?_
  rotate_left
  · intro w hSw
    (try dsimp only at hSw)
    go_simp
    try (with_reducible rfl)
  try simp only [Act.put, List.setIfInBounds_toArray, List.set_cons_zero, List.set_cons_succ]
  refine wpAnyH_take (i := 2) (oi := { dst := some 30, op := Go.Op.fieldAddr 59 (Go.Operand.tmp 29) 2, type := 0, pos := "ref.go:53", after := #[{ on := 1, ground := Go.Ground.data }], guard := none }) (v := ?_) rfl (by kernel_rfl) (by kernel_rfl) (by kernel_rfl) (fun _ _ _ h => h) (Or.inl ⟨by rfl, ?_⟩) (by assumption) ?_
  rotate_left
  · intro w hSw
    (try dsimp only at hSw)
    go_simp
    try (with_reducible rfl)
  try simp only [Act.put, List.setIfInBounds_toArray, List.set_cons_zero, List.set_cons_succ]
  refine wpAnyH_take (i := 3) (oi := { dst := some 31, op := Go.Op.load 33 (Go.Operand.tmp 30), type := 33, pos := "ref.go:53", after := #[{ on := 2, ground := Go.Ground.data }], guard := none }) (v := ?_) rfl (by kernel_rfl) (by kernel_rfl) (by kernel_rfl) (fun _ _ _ h => h) (Or.inl ⟨by rfl, ?_⟩) (by assumption) ?_
  rotate_left
  · intro w hSw
    (try dsimp only at hSw)
    go_simp
    try (with_reducible rfl)
  try simp only [Act.put, List.setIfInBounds_toArray, List.set_cons_zero, List.set_cons_succ]
  refine wpAnyH_take (i := 4) (oi := { dst := some 32, op := Go.Op.move (Go.Operand.tmp 1), type := 3, pos := "ref.go:53", after := #[], guard := none }) (v := ?_) rfl (by kernel_rfl) (by kernel_rfl) (by kernel_rfl) (fun _ _ _ h => h) (Or.inl ⟨by rfl, ?_⟩) (by assumption) ?_
  rotate_left
  · intro w hSw
    (try dsimp only at hSw)
    go_simp
    try (with_reducible rfl)
  try simp only [Act.put, List.setIfInBounds_toArray, List.set_cons_zero, List.set_cons_succ]
  refine wpAnyH_take (i := 5) (oi := { dst := some 33, op := Go.Op.binOp Go.BinOp.sub 3 (Go.Operand.tmp 32) (Go.Operand.const (Go.Value.int Go.IntKind.i64 1)) 3, type := 3, pos := "ref.go:53", after := #[{ on := 4, ground := Go.Ground.data }], guard := none }) (v := ?_) rfl (by kernel_rfl) (by kernel_rfl) (by kernel_rfl) (fun _ _ _ h => h) (Or.inl ⟨by rfl, ?_⟩) (by assumption) ?_
  rotate_left
  · intro w hSw
    (try dsimp only at hSw)
    go_simp
    try (with_reducible rfl)
  try simp only [Act.put, List.setIfInBounds_toArray, List.set_cons_zero, List.set_cons_succ]
  refine wpAnyH_take (i := 6) (oi := { dst := some 34, op := Go.Op.move (Go.Operand.tmp 0), type := 28, pos := "ref.go:53", after := #[], guard := none }) (v := ?_) rfl (by kernel_rfl) (by kernel_rfl) (by kernel_rfl) (fun _ _ _ h => h) (Or.inl ⟨by rfl, ?_⟩) (by assumption) ?_
  rotate_left
  · intro w hSw
    (try dsimp only at hSw)
    go_simp
    try (with_reducible rfl)
  try simp only [Act.put, List.setIfInBounds_toArray, List.set_cons_zero, List.set_cons_succ]
  refine wpAnyH_take (i := 7) (oi := { dst := some 35, op := Go.Op.nilCheck (Go.Operand.tmp 34), type := 0, pos := "ref.go:53", after := #[{ on := 6, ground := Go.Ground.data }], guard := none }) (v := ?_) rfl (by kernel_rfl) (by kernel_rfl) (by kernel_rfl) (fun _ _ _ h => h) (Or.inl ⟨by rfl, ?_⟩) (by assumption) ?_
  rotate_left
  · intro w hSw
    (try dsimp only at hSw)
    go_simp
    try (with_reducible rfl)
  try simp only [Act.put, List.setIfInBounds_toArray, List.set_cons_zero, List.set_cons_succ]
  refine wpAnyH_take (i := 8) (oi := { dst := some 36, op := Go.Op.fieldAddr 59 (Go.Operand.tmp 35) 0, type := 0, pos := "ref.go:53", after := #[{ on := 7, ground := Go.Ground.data }], guard := none }) (v := ?_) rfl (by kernel_rfl) (by kernel_rfl) (by kernel_rfl) (fun _ _ _ h => h) (Or.inl ⟨by rfl, ?_⟩) (by assumption) ?_
  rotate_left
  · intro w hSw
    (try dsimp only at hSw)
    go_simp
    try (with_reducible rfl)
  try simp only [Act.put, List.setIfInBounds_toArray, List.set_cons_zero, List.set_cons_succ]
  refine wpAnyH_take (i := 9) (oi := { dst := some 37, op := Go.Op.load 33 (Go.Operand.tmp 36), type := 33, pos := "ref.go:53", after := #[{ on := 8, ground := Go.Ground.data }], guard := none }) (v := ?_) rfl (by kernel_rfl) (by kernel_rfl) (by kernel_rfl) (fun _ _ _ h => h) (Or.inl ⟨by rfl, ?_⟩) (by assumption) ?_
  rotate_left
  · intro w hSw
    (try dsimp only at hSw)
    go_simp
    try (with_reducible rfl)
  try simp only [Act.put, List.setIfInBounds_toArray, List.set_cons_zero, List.set_cons_succ]
  refine wpAnyH_take (i := 10) (oi := { dst := some 38, op := Go.Op.call { callee := Go.Callee.builtin Go.Builtin.len, args := #[Go.Operand.tmp 37], argTypes := #[33] }, type := 3, pos := "ref.go:53", after := #[{ on := 9, ground := Go.Ground.data }], guard := none }) (v := ?_) rfl (by kernel_rfl) (by kernel_rfl) (by kernel_rfl) (fun _ _ _ h => h) (Or.inl ⟨by rfl, ?_⟩) (by assumption) ?_
  rotate_left
  · intro w hSw
    (try dsimp only at hSw)
    go_simp
    try (with_reducible rfl)
  try simp only [Act.put, List.setIfInBounds_toArray, List.set_cons_zero, List.set_cons_succ]
  refine wpAnyH_take (i := 11) (oi := { dst := some 39, op := Go.Op.binOp Go.BinOp.sub 3 (Go.Operand.tmp 38) (Go.Operand.const (Go.Value.int Go.IntKind.i64 1)) 3, type := 3, pos := "ref.go:53", after := #[{ on := 10, ground := Go.Ground.data }], guard := none }) (v := ?_) rfl (by kernel_rfl) (by kernel_rfl) (by kernel_rfl) (fun _ _ _ h => h) (Or.inl ⟨by rfl, ?_⟩) (by assumption) ?_
  rotate_left
  · intro w hSw
    (try dsimp only at hSw)
    go_simp
    try (with_reducible rfl)
  try simp only [Act.put, List.setIfInBounds_toArray, List.set_cons_zero, List.set_cons_succ]
  refine wpAnyH_take (i := 12) (oi := { dst := some 40, op := Go.Op.indexAddr 33 (Go.Operand.tmp 31) (Go.Operand.tmp 33), type := 0, pos := "ref.go:53", after := #[{ on := 3, ground := Go.Ground.data }, { on := 5, ground := Go.Ground.data }, { on := 0, ground := Go.Ground.phase }, { on := 1, ground := Go.Ground.phase }, { on := 2, ground := Go.Ground.phase }, { on := 3, ground := Go.Ground.phase }, { on := 4, ground := Go.Ground.phase }, { on := 5, ground := Go.Ground.phase }, { on := 6, ground := Go.Ground.phase }, { on := 7, ground := Go.Ground.phase }, { on := 8, ground := Go.Ground.phase }, { on := 9, ground := Go.Ground.phase }, { on := 10, ground := Go.Ground.phase }, { on := 11, ground := Go.Ground.phase }], guard := none }) (v := ?_) rfl (by kernel_rfl) (by kernel_rfl) (by kernel_rfl) (fun _ _ _ h => h) (Or.inl ⟨by rfl, ?_⟩) (by assumption) ?_
  rotate_left
  · intro w hSw
    (try dsimp only at hSw)
    go_simp
    try (with_reducible rfl)
  try simp only [Act.put, List.setIfInBounds_toArray, List.set_cons_zero, List.set_cons_succ]
  refine wpAnyH_ready (rs := [13]) (by kernel_rfl) (by simp) ?_
  refine AllReadyH.cons (o := { dst := none, op := Go.Op.store 3 (Go.Operand.tmp 40) (Go.Operand.tmp 39), type := 0, pos := "ref.go:53", after := #[{ on := 12, ground := Go.Ground.data }, { on := 11, ground := Go.Ground.data }, { on := 0, ground := Go.Ground.phase }, { on := 1, ground := Go.Ground.phase }, { on := 2, ground := Go.Ground.phase }, { on := 3, ground := Go.Ground.phase }, { on := 4, ground := Go.Ground.phase }, { on := 5, ground := Go.Ground.phase }, { on := 6, ground := Go.Ground.phase }, { on := 7, ground := Go.Ground.phase }, { on := 8, ground := Go.Ground.phase }, { on := 9, ground := Go.Ground.phase }, { on := 10, ground := Go.Ground.phase }, { on := 11, ground := Go.Ground.phase }], guard := none }) rfl (fun K hK => ?_) AllReadyH.nil
  go_simp
  refine hK.out _ _ ?_ (fun hHeld => ?_)
  · (exact HC2.out)
  clear hK K
  try simp only [Act.put, List.setIfInBounds_toArray, List.set_cons_zero, List.set_cons_succ]
  refine wpAnyH_done (by kernel_rfl) ?_ _
  go_wp2
  refine wp_region_held_drew (S := (fun W => W.cell? ⟨d, 0, none⟩ = some (.slice (some ⟨gA, 0, none⟩) L cA) ∧ W.cell? ⟨gA, n, none⟩ = some (.int .i64 v))) (by kernel_rfl) ?_ (fun hHeld => ?_)
  · (exact HC3.out)
  refine wpAnyH_take (i := 0) (oi := { dst := some 41, op := Go.Op.move (Go.Operand.tmp 0), type := 28, pos := "ref.go:54", after := #[], guard := none }) (v := ?_) rfl (by kernel_rfl) (by kernel_rfl) (by kernel_rfl) (fun _ _ _ h => h) (Or.inl ⟨by rfl, ?_⟩) (by assumption) ?_
  rotate_left
  · intro w hSw
    (try dsimp only at hSw)
    go_simp
    try (with_reducible rfl)
  try simp only [Act.put, List.setIfInBounds_toArray, List.set_cons_zero, List.set_cons_succ]
  refine wpAnyH_take (i := 1) (oi := { dst := some 42, op := Go.Op.nilCheck (Go.Operand.tmp 41), type := 0, pos := "ref.go:54", after := #[{ on := 0, ground := Go.Ground.data }], guard := none }) (v := ?_) rfl (by kernel_rfl) (by kernel_rfl) (by kernel_rfl) (fun _ _ _ h => h) (Or.inl ⟨by rfl, ?_⟩) (by assumption) ?_
  rotate_left
  · intro w hSw
    (try dsimp only at hSw)
    go_simp
    try (with_reducible rfl)
  try simp only [Act.put, List.setIfInBounds_toArray, List.set_cons_zero, List.set_cons_succ]
  refine wpAnyH_take (i := 2) (oi := { dst := some 43, op := Go.Op.fieldAddr 59 (Go.Operand.tmp 42) 0, type := 0, pos := "ref.go:54", after := #[{ on := 1, ground := Go.Ground.data }], guard := none }) (v := ?_) rfl (by kernel_rfl) (by kernel_rfl) (by kernel_rfl) (fun _ _ _ h => h) (Or.inl ⟨by rfl, ?_⟩) (by assumption) ?_
  rotate_left
  · intro w hSw
    (try dsimp only at hSw)
    go_simp
    try (with_reducible rfl)
  try simp only [Act.put, List.setIfInBounds_toArray, List.set_cons_zero, List.set_cons_succ]
  refine wpAnyH_take (i := 3) (oi := { dst := some 44, op := Go.Op.load 33 (Go.Operand.tmp 43), type := 33, pos := "ref.go:54", after := #[{ on := 2, ground := Go.Ground.data }], guard := none }) (v := ?_) rfl (by kernel_rfl) (by kernel_rfl) (by kernel_rfl) (fun _ _ _ h => h) (Or.inl ⟨by rfl, ?_⟩) (by assumption) ?_
  rotate_left
  · intro w hSw
    (try dsimp only at hSw)
    go_simp
    try (with_reducible rfl)
  try simp only [Act.put, List.setIfInBounds_toArray, List.set_cons_zero, List.set_cons_succ]
  refine wpAnyH_take (i := 4) (oi := { dst := some 45, op := Go.Op.move (Go.Operand.tmp 0), type := 28, pos := "ref.go:54", after := #[], guard := none }) (v := ?_) rfl (by kernel_rfl) (by kernel_rfl) (by kernel_rfl) (fun _ _ _ h => h) (Or.inl ⟨by rfl, ?_⟩) (by assumption) ?_
  rotate_left
  · intro w hSw
    (try dsimp only at hSw)
    go_simp
    try (with_reducible rfl)
  try simp only [Act.put, List.setIfInBounds_toArray, List.set_cons_zero, List.set_cons_succ]
  refine wpAnyH_take (i := 5) (oi := { dst := some 46, op := Go.Op.nilCheck (Go.Operand.tmp 45), type := 0, pos := "ref.go:54", after := #[{ on := 4, ground := Go.Ground.data }], guard := none }) (v := ?_) rfl (by kernel_rfl) (by kernel_rfl) (by kernel_rfl) (fun _ _ _ h => h) (Or.inl ⟨by rfl, ?_⟩) (by assumption) ?_
  rotate_left
  · intro w hSw
    (try dsimp only at hSw)
    go_simp
    try (with_reducible rfl)
  try simp only [Act.put, List.setIfInBounds_toArray, List.set_cons_zero, List.set_cons_succ]
  refine wpAnyH_take (i := 6) (oi := { dst := some 47, op := Go.Op.fieldAddr 59 (Go.Operand.tmp 46) 0, type := 0, pos := "ref.go:54", after := #[{ on := 5, ground := Go.Ground.data }], guard := none }) (v := ?_) rfl (by kernel_rfl) (by kernel_rfl) (by kernel_rfl) (fun _ _ _ h => h) (Or.inl ⟨by rfl, ?_⟩) (by assumption) ?_
  rotate_left
  · intro w hSw
    (try dsimp only at hSw)
    go_simp
    try (with_reducible rfl)
  try simp only [Act.put, List.setIfInBounds_toArray, List.set_cons_zero, List.set_cons_succ]
  refine wpAnyH_take (i := 7) (oi := { dst := some 48, op := Go.Op.load 33 (Go.Operand.tmp 47), type := 33, pos := "ref.go:54", after := #[{ on := 6, ground := Go.Ground.data }], guard := none }) (v := ?_) rfl (by kernel_rfl) (by kernel_rfl) (by kernel_rfl) (fun _ _ _ h => h) (Or.inl ⟨by rfl, ?_⟩) (by assumption) ?_
  rotate_left
  · intro w hSw
    (try dsimp only at hSw)
    go_simp
    try (with_reducible rfl)
  try simp only [Act.put, List.setIfInBounds_toArray, List.set_cons_zero, List.set_cons_succ]
  refine wpAnyH_take (i := 8) (oi := { dst := some 49, op := Go.Op.call { callee := Go.Callee.builtin Go.Builtin.len, args := #[Go.Operand.tmp 48], argTypes := #[33] }, type := 3, pos := "ref.go:54", after := #[{ on := 7, ground := Go.Ground.data }], guard := none }) (v := ?_) rfl (by kernel_rfl) (by kernel_rfl) (by kernel_rfl) (fun _ _ _ h => h) (Or.inl ⟨by rfl, ?_⟩) (by assumption) ?_
  rotate_left
  · intro w hSw
    (try dsimp only at hSw)
    go_simp
    try (with_reducible rfl)
  try simp only [Act.put, List.setIfInBounds_toArray, List.set_cons_zero, List.set_cons_succ]
  refine wpAnyH_take (i := 9) (oi := { dst := some 50, op := Go.Op.binOp Go.BinOp.sub 3 (Go.Operand.tmp 49) (Go.Operand.const (Go.Value.int Go.IntKind.i64 1)) 3, type := 3, pos := "ref.go:54", after := #[{ on := 8, ground := Go.Ground.data }], guard := none }) (v := ?_) rfl (by kernel_rfl) (by kernel_rfl) (by kernel_rfl) (fun _ _ _ h => h) (Or.inl ⟨by rfl, ?_⟩) (by assumption) ?_
  rotate_left
  · intro w hSw
    (try dsimp only at hSw)
    go_simp
    try (with_reducible rfl)
  try simp only [Act.put, List.setIfInBounds_toArray, List.set_cons_zero, List.set_cons_succ]
  refine wpAnyH_take (i := 10) (oi := { dst := some 51, op := Go.Op.indexAddr 33 (Go.Operand.tmp 44) (Go.Operand.tmp 50), type := 0, pos := "ref.go:54", after := #[{ on := 3, ground := Go.Ground.data }, { on := 9, ground := Go.Ground.data }], guard := none }) (v := ?_) rfl (by kernel_rfl) (by kernel_rfl) (by kernel_rfl) (fun _ _ _ h => h) (Or.inl ⟨by rfl, ?_⟩) (by assumption) ?_
  rotate_left
  · intro w hSw
    (try dsimp only at hSw)
    go_simp
    try (with_reducible rfl)
  try simp only [Act.put, List.setIfInBounds_toArray, List.set_cons_zero, List.set_cons_succ]
  refine wpAnyH_take (i := 11) (oi := { dst := some 52, op := Go.Op.load 3 (Go.Operand.tmp 51), type := 3, pos := "ref.go:54", after := #[{ on := 10, ground := Go.Ground.data }], guard := none }) (v := ?_) rfl (by kernel_rfl) (by kernel_rfl) (by kernel_rfl) (fun _ _ _ h => h) (Or.inl ⟨by rfl, ?_⟩) (by assumption) ?_
  rotate_left
  · intro w hSw
    (try dsimp only at hSw)
    go_simp
    try (with_reducible rfl)
  try simp only [Act.put, List.setIfInBounds_toArray, List.set_cons_zero, List.set_cons_succ]
  refine wpAnyH_take (i := 12) (oi := { dst := some 4, op := Go.Op.assign (Go.Operand.tmp 52), type := 3, pos := "ref.go:54", after := #[{ on := 11, ground := Go.Ground.data }, { on := 0, ground := Go.Ground.phase }, { on := 1, ground := Go.Ground.phase }, { on := 2, ground := Go.Ground.phase }, { on := 3, ground := Go.Ground.phase }, { on := 4, ground := Go.Ground.phase }, { on := 5, ground := Go.Ground.phase }, { on := 6, ground := Go.Ground.phase }, { on := 7, ground := Go.Ground.phase }, { on := 8, ground := Go.Ground.phase }, { on := 9, ground := Go.Ground.phase }, { on := 10, ground := Go.Ground.phase }, { on := 11, ground := Go.Ground.phase }], guard := none }) (v := ?_) rfl (by kernel_rfl) (by kernel_rfl) (by kernel_rfl) (fun _ _ _ h => h) (Or.inl ⟨by rfl, ?_⟩) (by assumption) ?_
  rotate_left
  · intro w hSw
    (try dsimp only at hSw)
    go_simp
    try (with_reducible rfl)
  try simp only [Act.put, List.setIfInBounds_toArray, List.set_cons_zero, List.set_cons_succ]
  refine wpAnyH_take (i := 13) (oi := { dst := some 5, op := Go.Op.assign (Go.Operand.const (Go.Value.int Go.IntKind.i64 0)), type := 25, pos := "ref.go:54", after := #[{ on := 12, ground := Go.Ground.chain }, { on := 0, ground := Go.Ground.phase }, { on := 1, ground := Go.Ground.phase }, { on := 2, ground := Go.Ground.phase }, { on := 3, ground := Go.Ground.phase }, { on := 4, ground := Go.Ground.phase }, { on := 5, ground := Go.Ground.phase }, { on := 6, ground := Go.Ground.phase }, { on := 7, ground := Go.Ground.phase }, { on := 8, ground := Go.Ground.phase }, { on := 9, ground := Go.Ground.phase }, { on := 10, ground := Go.Ground.phase }, { on := 11, ground := Go.Ground.phase }, { on := 12, ground := Go.Ground.phase }], guard := none }) (v := ?_) rfl (by kernel_rfl) (by kernel_rfl) (by kernel_rfl) (fun _ _ _ h => h) (Or.inl ⟨by rfl, ?_⟩) (by assumption) ?_
  rotate_left
  · intro w hSw
    (try dsimp only at hSw)
    go_simp
    try (with_reducible rfl)
  try simp only [Act.put, List.setIfInBounds_toArray, List.set_cons_zero, List.set_cons_succ]
  refine wpAnyH_done (by kernel_rfl) ?_ _
  go_wp2
  exact bodyPost_ret (v := .tuple #[.int .i64 v, .int .i64 0]) (by simp [results, Try.results15, go_sem]) rfl ⟨rfl, HE.out, ((Tch.refl w [gI]).set_ (p := ⟨gI, i, none⟩) (by simp) _).drew.drew⟩
end Go.Proofs.Ytakeodnebegbhaa
