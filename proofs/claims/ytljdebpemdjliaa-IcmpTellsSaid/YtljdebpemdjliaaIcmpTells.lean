/-
  H3: which messages tell of an error, and what answers one, is what the document's own answer says; no request and no reply tells of an error: for every message.
-/
import Derived.Test.YtljdebpemdjliaaILw
import Derived.Test.YtljdebpemdjliaaIRf
import Derived.Deep.RegionHeld3
namespace Go.Proofs.Ytljdebpemdjliaa.Tells
open Go.ChangeShapes Go.WideShapes Go.ChangeAt Go.RowKit
set_option linter.unusedVariables false

/-- A request, and its reply, tell of no error. -/
theorem no_err {m : Ms} (h : m.c = 0 ∧ m.k = (if m.s then 128 else 8)) : errI m = false ∧ errI (rpI m).1 = false ∧ (rpI m).2 = 0 := by
  have e : rpI m = ({ m with k := if m.s then 129 else 0 }, 0) := by unfold rpI; rw [if_pos h]
  rw [e]
  obtain ⟨S, k, c, r, d⟩ := m
  obtain ⟨h1, h2⟩ := h
  dsimp only at h1 h2
  subst h1
  cases S
  all_goals (simp at h2; subst h2)
  · exact ⟨rfl, rfl, rfl⟩
  · exact ⟨rfl, rfl, rfl⟩
set_option maxRecDepth 100000 in
set_option maxHeartbeats 16000000 in
theorem walkT (m : Ms) (hd : m.d.size ≤ 281474976710656) (w : World) :
    Calls Try.prog 5 #[m.val] w fun e w' => e = .returned (.bool true) ∧ Below w.heap.size w w' := by
  have K0 := Lib.hid (Blk.new w 23 (mcs m))
  have L0 := Lib.hid ((Below.refl _ w).alloc (Nat.le_refl _) (.cells (mcs m) 23))
  have HA := Lib.hid (fun W => iawake_yes W)
  have HR := Lib.hid (fun W => irep_any m hd W)
  have HQ := Lib.hid (fun W => rrep_any m W)
  have HE := Lib.hid (fun W => ierr_any m W)
  have HF := Lib.hid (fun W => rerr_any m W)
  unfold rpV at HR HQ
  clear hd
  by_cases h : m.c = 0 ∧ m.k = (if m.s then 128 else 8)
  · obtain ⟨e1, e2, e3⟩ := no_err h
    clear h
    have HX := Lib.hid (fun W => ierr_any (rpI m).1 W)
    rw [e3] at HR HQ
    rw [e2] at HX
    rw [e1] at HE HF
    obtain ⟨X, hX⟩ : ∃ X, (rpI m).1 = X := ⟨_, rfl⟩
    rw [hX] at HR HQ HX
    clear hX e1 e2 e3
    go_enter Try.func5, Try.ntmps5
    go_wp2_with fail
    refine Calls.mono (HA.out _) ?_
    rintro e w1 ⟨rfl, hb⟩
    have K1 := Lib.hid (K0.out.below hb K0.out.lt)
    have L1 := Lib.hid (L0.out.trans (hb.mono L0.out.size))
    clear hb
    obtain ⟨f0, f1, f2, f3, f4⟩ := K1.out.i5
    go_wp2_with fail
    refine Calls.mono (HR.out _) ?_
    rintro e w2 ⟨rfl, hb⟩
    have K2 := Lib.hid ((K1.out.below hb K1.out.lt).alloc (.cells (mcs X) 23))
    have X2 := Lib.hid (Blk.new w2 23 (mcs X))
    have L2 := Lib.hid ((L1.out.trans (hb.mono L1.out.size)).alloc (L1.out.trans (hb.mono L1.out.size)).size (.cells (mcs X) 23))
    clear hb f0 f1 f2 f3 f4
    obtain ⟨f0, f1, f2, f3, f4⟩ := K2.out.i5
    go_wp2_with fail
    refine Calls.mono (HQ.out _) ?_
    rintro e w3 ⟨rfl, hb⟩
    have K3 := Lib.hid ((K2.out.below hb K2.out.lt).alloc (.cells (mcs X) 23))
    have X3 := Lib.hid ((X2.out.below hb X2.out.lt).alloc (.cells (mcs X) 23))
    have Y3 := Lib.hid (Blk.new w3 23 (mcs X))
    have L3 := Lib.hid ((L2.out.trans (hb.mono L2.out.size)).alloc (L2.out.trans (hb.mono L2.out.size)).size (.cells (mcs X) 23))
    clear hb f0 f1 f2 f3 f4
    obtain ⟨V, hV⟩ : ∃ V, V = w3.alloc (.cells (mcs X) 23) := ⟨_, rfl⟩
    rw [← hV] at K3 X3 Y3 L3
    have HC : Hid (∀ W', Below V.heap.size V W' → W'.cell? ⟨w.heap.size, 0, none⟩ = some (.bool m.s) ∧ W'.cell? ⟨w.heap.size, 1, none⟩ = some (.int .i64 m.k) ∧ W'.cell? ⟨w.heap.size, 2, none⟩ = some (.int .i64 m.c) ∧ W'.cell? ⟨w.heap.size, 3, none⟩ = some (.int .i64 m.r) ∧ W'.cell? ⟨w.heap.size, 4, none⟩ = some (.string m.d) ∧ W'.cell? ⟨w2.heap.size, 0, none⟩ = some (.bool X.s) ∧ W'.cell? ⟨w2.heap.size, 1, none⟩ = some (.int .i64 X.k) ∧ W'.cell? ⟨w2.heap.size, 2, none⟩ = some (.int .i64 X.c) ∧ W'.cell? ⟨w2.heap.size, 3, none⟩ = some (.int .i64 X.r) ∧ W'.cell? ⟨w2.heap.size, 4, none⟩ = some (.string X.d) ∧ W'.cell? ⟨w3.heap.size, 0, none⟩ = some (.bool X.s) ∧ W'.cell? ⟨w3.heap.size, 1, none⟩ = some (.int .i64 X.k) ∧ W'.cell? ⟨w3.heap.size, 2, none⟩ = some (.int .i64 X.c) ∧ W'.cell? ⟨w3.heap.size, 3, none⟩ = some (.int .i64 X.r) ∧ W'.cell? ⟨w3.heap.size, 4, none⟩ = some (.string X.d)) := Lib.hid fun W' hb => by
      obtain ⟨f0, f1, f2, f3, f4⟩ := (K3.out.below hb K3.out.lt).i5
      obtain ⟨g0, g1, g2, g3, g4⟩ := (X3.out.below hb X3.out.lt).i5
      obtain ⟨h0, h1, h2, h3, h4⟩ := (Y3.out.below hb Y3.out.lt).i5
      exact ⟨f0, f1, f2, f3, f4, g0, g1, g2, g3, g4, h0, h1, h2, h3, h4⟩
    have hR : Below V.heap.size V V.drew := (Below.refl _ _).drew
    obtain ⟨f0, f1, f2, f3, f4⟩ := K3.out.i5
    obtain ⟨g0, g1, g2, g3, g4⟩ := X3.out.i5
    obtain ⟨h0, h1, h2, h3, h4⟩ := Y3.out.i5
    clear K1 K2 X2 K3 X3 Y3 L0 L1 L2 HA HR HQ K0
    go_wp2_with fail
    rw [← hV]
    clear hV f0 f1 f2 f3 f4 g0 g1 g2 g3 g4 h0 h1 h2 h3 h4
    go_region_held3 (fun w' => w'.cell? ⟨w.heap.size, 0, none⟩ = some (.bool m.s) ∧ w'.cell? ⟨w.heap.size, 1, none⟩ = some (.int .i64 m.k) ∧ w'.cell? ⟨w.heap.size, 2, none⟩ = some (.int .i64 m.c) ∧ w'.cell? ⟨w.heap.size, 3, none⟩ = some (.int .i64 m.r) ∧ w'.cell? ⟨w.heap.size, 4, none⟩ = some (.string m.d) ∧ w'.cell? ⟨w2.heap.size, 0, none⟩ = some (.bool X.s) ∧ w'.cell? ⟨w2.heap.size, 1, none⟩ = some (.int .i64 X.k) ∧ w'.cell? ⟨w2.heap.size, 2, none⟩ = some (.int .i64 X.c) ∧ w'.cell? ⟨w2.heap.size, 3, none⟩ = some (.int .i64 X.r) ∧ w'.cell? ⟨w2.heap.size, 4, none⟩ = some (.string X.d) ∧ w'.cell? ⟨w3.heap.size, 0, none⟩ = some (.bool X.s) ∧ w'.cell? ⟨w3.heap.size, 1, none⟩ = some (.int .i64 X.k) ∧ w'.cell? ⟨w3.heap.size, 2, none⟩ = some (.int .i64 X.c) ∧ w'.cell? ⟨w3.heap.size, 3, none⟩ = some (.int .i64 X.r) ∧ w'.cell? ⟨w3.heap.size, 4, none⟩ = some (.string X.d)) (first | exact HC.out _ hR) (first
      | (go_at_call 17; (first
        | (with_reducible refine Calls.mono (HE.out _) ?_)
        | (with_reducible refine Calls.mono (HX.out _) ?_)); rintro e W1 ⟨rfl, hb⟩; replace hR := hR.trans (hb.mono hR.size); clear hb)
      | (go_at_call 18; (with_reducible refine Calls.mono (HF.out _) ?_); rintro e W1 ⟨rfl, hb⟩; replace hR := hR.trans (hb.mono hR.size); clear hb))
    go_wp2
    go_ret
    exact ⟨rfl, L3.out.trans (hR.mono L3.out.size)⟩
  · have e : rpI m = (⟨false, 0, 0, 0, ⟨#[]⟩⟩, 70) := by unfold rpI; rw [if_neg h]; rfl
    rw [e] at HR HQ
    obtain ⟨b, hb⟩ : ∃ b, errI m = b := ⟨_, rfl⟩
    rw [hb] at HE HF
    obtain ⟨X, hX⟩ : ∃ X : Ms, ⟨false, 0, 0, 0, ⟨#[]⟩⟩ = X := ⟨_, rfl⟩
    rw [hX] at HR HQ
    have HX := HE
    clear hX e h hb
    go_enter Try.func5, Try.ntmps5
    go_wp2_with fail
    refine Calls.mono (HA.out _) ?_
    rintro e w1 ⟨rfl, hb⟩
    have K1 := Lib.hid (K0.out.below hb K0.out.lt)
    have L1 := Lib.hid (L0.out.trans (hb.mono L0.out.size))
    clear hb
    obtain ⟨f0, f1, f2, f3, f4⟩ := K1.out.i5
    go_wp2_with fail
    refine Calls.mono (HR.out _) ?_
    rintro e w2 ⟨rfl, hb⟩
    have K2 := Lib.hid ((K1.out.below hb K1.out.lt).alloc (.cells (mcs X) 23))
    have X2 := Lib.hid (Blk.new w2 23 (mcs X))
    have L2 := Lib.hid ((L1.out.trans (hb.mono L1.out.size)).alloc (L1.out.trans (hb.mono L1.out.size)).size (.cells (mcs X) 23))
    clear hb f0 f1 f2 f3 f4
    obtain ⟨f0, f1, f2, f3, f4⟩ := K2.out.i5
    go_wp2_with fail
    refine Calls.mono (HQ.out _) ?_
    rintro e w3 ⟨rfl, hb⟩
    have K3 := Lib.hid ((K2.out.below hb K2.out.lt).alloc (.cells (mcs X) 23))
    have X3 := Lib.hid ((X2.out.below hb X2.out.lt).alloc (.cells (mcs X) 23))
    have Y3 := Lib.hid (Blk.new w3 23 (mcs X))
    have L3 := Lib.hid ((L2.out.trans (hb.mono L2.out.size)).alloc (L2.out.trans (hb.mono L2.out.size)).size (.cells (mcs X) 23))
    clear hb f0 f1 f2 f3 f4
    obtain ⟨V, hV⟩ : ∃ V, V = w3.alloc (.cells (mcs X) 23) := ⟨_, rfl⟩
    rw [← hV] at K3 X3 Y3 L3
    have HC : Hid (∀ W', Below V.heap.size V W' → W'.cell? ⟨w.heap.size, 0, none⟩ = some (.bool m.s) ∧ W'.cell? ⟨w.heap.size, 1, none⟩ = some (.int .i64 m.k) ∧ W'.cell? ⟨w.heap.size, 2, none⟩ = some (.int .i64 m.c) ∧ W'.cell? ⟨w.heap.size, 3, none⟩ = some (.int .i64 m.r) ∧ W'.cell? ⟨w.heap.size, 4, none⟩ = some (.string m.d) ∧ W'.cell? ⟨w2.heap.size, 0, none⟩ = some (.bool X.s) ∧ W'.cell? ⟨w2.heap.size, 1, none⟩ = some (.int .i64 X.k) ∧ W'.cell? ⟨w2.heap.size, 2, none⟩ = some (.int .i64 X.c) ∧ W'.cell? ⟨w2.heap.size, 3, none⟩ = some (.int .i64 X.r) ∧ W'.cell? ⟨w2.heap.size, 4, none⟩ = some (.string X.d) ∧ W'.cell? ⟨w3.heap.size, 0, none⟩ = some (.bool X.s) ∧ W'.cell? ⟨w3.heap.size, 1, none⟩ = some (.int .i64 X.k) ∧ W'.cell? ⟨w3.heap.size, 2, none⟩ = some (.int .i64 X.c) ∧ W'.cell? ⟨w3.heap.size, 3, none⟩ = some (.int .i64 X.r) ∧ W'.cell? ⟨w3.heap.size, 4, none⟩ = some (.string X.d)) := Lib.hid fun W' hb => by
      obtain ⟨f0, f1, f2, f3, f4⟩ := (K3.out.below hb K3.out.lt).i5
      obtain ⟨g0, g1, g2, g3, g4⟩ := (X3.out.below hb X3.out.lt).i5
      obtain ⟨h0, h1, h2, h3, h4⟩ := (Y3.out.below hb Y3.out.lt).i5
      exact ⟨f0, f1, f2, f3, f4, g0, g1, g2, g3, g4, h0, h1, h2, h3, h4⟩
    have hR : Below V.heap.size V V.drew := (Below.refl _ _).drew
    obtain ⟨f0, f1, f2, f3, f4⟩ := K3.out.i5
    obtain ⟨g0, g1, g2, g3, g4⟩ := X3.out.i5
    obtain ⟨h0, h1, h2, h3, h4⟩ := Y3.out.i5
    clear K1 K2 X2 K3 X3 Y3 L0 L1 L2 HA HR HQ K0
    go_wp2_with fail
    rw [← hV]
    clear hV f0 f1 f2 f3 f4 g0 g1 g2 g3 g4 h0 h1 h2 h3 h4
    refine wp_region_held_drew (S := (fun w' => w'.cell? ⟨w.heap.size, 0, none⟩ = some (.bool m.s) ∧ w'.cell? ⟨w.heap.size, 1, none⟩ = some (.int .i64 m.k) ∧ w'.cell? ⟨w.heap.size, 2, none⟩ = some (.int .i64 m.c) ∧ w'.cell? ⟨w.heap.size, 3, none⟩ = some (.int .i64 m.r) ∧ w'.cell? ⟨w.heap.size, 4, none⟩ = some (.string m.d) ∧ w'.cell? ⟨w2.heap.size, 0, none⟩ = some (.bool X.s) ∧ w'.cell? ⟨w2.heap.size, 1, none⟩ = some (.int .i64 X.k) ∧ w'.cell? ⟨w2.heap.size, 2, none⟩ = some (.int .i64 X.c) ∧ w'.cell? ⟨w2.heap.size, 3, none⟩ = some (.int .i64 X.r) ∧ w'.cell? ⟨w2.heap.size, 4, none⟩ = some (.string X.d) ∧ w'.cell? ⟨w3.heap.size, 0, none⟩ = some (.bool X.s) ∧ w'.cell? ⟨w3.heap.size, 1, none⟩ = some (.int .i64 X.k) ∧ w'.cell? ⟨w3.heap.size, 2, none⟩ = some (.int .i64 X.c) ∧ w'.cell? ⟨w3.heap.size, 3, none⟩ = some (.int .i64 X.r) ∧ w'.cell? ⟨w3.heap.size, 4, none⟩ = some (.string X.d))) (by kernel_rfl) ?_ (fun hHeld => ?_)
    · exact HC.out _ hR
    refine wpAnyH_take (i := 0) (oi := { dst := some 19, op := Go.Op.move (Go.Operand.tmp 3), type := 4, pos := "law.go:49", after := #[], guard := none }) (v := ?_) rfl (by kernel_rfl) (by kernel_rfl) (by kernel_rfl) (fun _ _ _ h => h) (Or.inl ⟨by rfl, ?_⟩) (by assumption) ?_
    rotate_left
    · intro w hSw
      (try dsimp only at hSw)
      go_simp
      try (with_reducible rfl)
    try simp only [Act.put, List.setIfInBounds_toArray, List.set_cons_zero, List.set_cons_succ]
    refine wpAnyH_take (i := 1) (oi := { dst := some 20, op := Go.Op.move (Go.Operand.tmp 19), type := 4, pos := "law.go:49", after := #[{ on := 0, ground := Go.Ground.data }], guard := none }) (v := ?_) rfl (by kernel_rfl) (by kernel_rfl) (by kernel_rfl) (fun _ _ _ h => h) (Or.inl ⟨by rfl, ?_⟩) (by assumption) ?_
    rotate_left
    · intro w hSw
      (try dsimp only at hSw)
      go_simp
      try (with_reducible rfl)
    try simp only [Act.put, List.setIfInBounds_toArray, List.set_cons_zero, List.set_cons_succ]
    refine wpAnyH_take (i := 2) (oi := { dst := some 21, op := Go.Op.load 23 (Go.Operand.tmp 4), type := 23, pos := "law.go:49", after := #[{ on := 1, ground := Go.Ground.guard }], guard := some (1, true) }) (v := ?_) rfl (by kernel_rfl) (by kernel_rfl) (by kernel_rfl) (fun _ _ _ h => h) (Or.inl ⟨by rfl, ?_⟩) (by assumption) ?_
    rotate_left
    · intro w hSw
      (try dsimp only at hSw)
      go_simp
      try (with_reducible rfl)
    try simp only [Act.put, List.setIfInBounds_toArray, List.set_cons_zero, List.set_cons_succ]
    refine wpAnyH_take (i := 3) (oi := { dst := some 22, op := Go.Op.load 23 (Go.Operand.tmp 6), type := 23, pos := "law.go:49", after := #[{ on := 1, ground := Go.Ground.guard }], guard := some (1, true) }) (v := ?_) rfl (by kernel_rfl) (by kernel_rfl) (by kernel_rfl) (fun _ _ _ h => h) (Or.inl ⟨by rfl, ?_⟩) (by assumption) ?_
    rotate_left
    · intro w hSw
      (try dsimp only at hSw)
      go_simp
      try (with_reducible rfl)
    try simp only [Act.put, List.setIfInBounds_toArray, List.set_cons_zero, List.set_cons_succ]
    refine wpAnyH_take (i := 4) (oi := { dst := some 23, op := Go.Op.binOp Go.BinOp.eql 23 (Go.Operand.tmp 21) (Go.Operand.tmp 22) 23, type := 4, pos := "law.go:49", after := #[{ on := 2, ground := Go.Ground.data }, { on := 3, ground := Go.Ground.data }, { on := 1, ground := Go.Ground.guard }], guard := some (1, true) }) (v := ?_) rfl (by kernel_rfl) (by kernel_rfl) (by kernel_rfl) (fun _ _ _ h => h) (Or.inl ⟨by rfl, ?_⟩) (by assumption) ?_
    rotate_left
    · intro w hSw
      (try dsimp only at hSw)
      go_simp
      try (with_reducible rfl)
    try simp only [Act.put, List.setIfInBounds_toArray, List.set_cons_zero, List.set_cons_succ]
    refine wpAnyH_take (i := 5) (oi := { dst := some 24, op := Go.Op.pick (Go.Operand.tmp 20) (Go.Operand.tmp 23) (Go.Operand.const (Go.Value.bool false)), type := 4, pos := "law.go:49", after := #[{ on := 1, ground := Go.Ground.data }, { on := 4, ground := Go.Ground.data }], guard := none }) (v := ?_) rfl (by kernel_rfl) (by kernel_rfl) (by kernel_rfl) (fun _ _ _ h => h) (Or.inl ⟨by rfl, ?_⟩) (by assumption) ?_
    rotate_left
    · intro w hSw
      (try dsimp only at hSw)
      go_simp
      try (with_reducible rfl)
    try simp only [Act.put, List.setIfInBounds_toArray, List.set_cons_zero, List.set_cons_succ]
    refine wpAnyH_take (i := 6) (oi := { dst := some 25, op := Go.Op.move (Go.Operand.tmp 24), type := 4, pos := "law.go:49", after := #[{ on := 5, ground := Go.Ground.data }, { on := 1, ground := Go.Ground.chain }], guard := none }) (v := ?_) rfl (by kernel_rfl) (by kernel_rfl) (by kernel_rfl) (fun _ _ _ h => h) (Or.inl ⟨by rfl, ?_⟩) (by assumption) ?_
    rotate_left
    · intro w hSw
      (try dsimp only at hSw)
      go_simp
      try (with_reducible rfl)
    try simp only [Act.put, List.setIfInBounds_toArray, List.set_cons_zero, List.set_cons_succ]
    refine wpAnyH_take (i := 7) (oi := { dst := some 26, op := Go.Op.move (Go.Operand.tmp 5), type := 30, pos := "law.go:49", after := #[{ on := 6, ground := Go.Ground.guard }], guard := some (6, true) }) (v := ?_) rfl (by kernel_rfl) (by kernel_rfl) (by kernel_rfl) (fun _ _ _ h => h) (Or.inl ⟨by rfl, ?_⟩) (by assumption) ?_
    rotate_left
    · intro w hSw
      (try dsimp only at hSw)
      go_simp
      try (with_reducible rfl)
    try simp only [Act.put, List.setIfInBounds_toArray, List.set_cons_zero, List.set_cons_succ]
    refine wpAnyH_take (i := 8) (oi := { dst := some 27, op := Go.Op.move (Go.Operand.tmp 7), type := 30, pos := "law.go:49", after := #[{ on := 6, ground := Go.Ground.guard }], guard := some (6, true) }) (v := ?_) rfl (by kernel_rfl) (by kernel_rfl) (by kernel_rfl) (fun _ _ _ h => h) (Or.inl ⟨by rfl, ?_⟩) (by assumption) ?_
    rotate_left
    · intro w hSw
      (try dsimp only at hSw)
      go_simp
      try (with_reducible rfl)
    try simp only [Act.put, List.setIfInBounds_toArray, List.set_cons_zero, List.set_cons_succ]
    refine wpAnyH_take (i := 9) (oi := { dst := some 28, op := Go.Op.binOp Go.BinOp.eql 30 (Go.Operand.tmp 26) (Go.Operand.tmp 27) 30, type := 4, pos := "law.go:49", after := #[{ on := 7, ground := Go.Ground.data }, { on := 8, ground := Go.Ground.data }, { on := 6, ground := Go.Ground.guard }], guard := some (6, true) }) (v := ?_) rfl (by kernel_rfl) (by kernel_rfl) (by kernel_rfl) (fun _ _ _ h => h) (Or.inl ⟨by rfl, ?_⟩) (by assumption) ?_
    rotate_left
    · intro w hSw
      (try dsimp only at hSw)
      go_simp
      try (with_reducible rfl)
    try simp only [Act.put, List.setIfInBounds_toArray, List.set_cons_zero, List.set_cons_succ]
    refine wpAnyH_take (i := 10) (oi := { dst := some 29, op := Go.Op.pick (Go.Operand.tmp 25) (Go.Operand.tmp 28) (Go.Operand.const (Go.Value.bool false)), type := 4, pos := "law.go:49", after := #[{ on := 6, ground := Go.Ground.data }, { on := 9, ground := Go.Ground.data }], guard := none }) (v := ?_) rfl (by kernel_rfl) (by kernel_rfl) (by kernel_rfl) (fun _ _ _ h => h) (Or.inl ⟨by rfl, ?_⟩) (by assumption) ?_
    rotate_left
    · intro w hSw
      (try dsimp only at hSw)
      go_simp
      try (with_reducible rfl)
    try simp only [Act.put, List.setIfInBounds_toArray, List.set_cons_zero, List.set_cons_succ]
    refine wpAnyH_take (i := 11) (oi := { dst := some 30, op := Go.Op.move (Go.Operand.tmp 29), type := 4, pos := "law.go:49", after := #[{ on := 10, ground := Go.Ground.data }, { on := 6, ground := Go.Ground.chain }], guard := none }) (v := ?_) rfl (by kernel_rfl) (by kernel_rfl) (by kernel_rfl) (fun _ _ _ h => h) (Or.inl ⟨by rfl, ?_⟩) (by assumption) ?_
    rotate_left
    · intro w hSw
      (try dsimp only at hSw)
      go_simp
      try (with_reducible rfl)
    try simp only [Act.put, List.setIfInBounds_toArray, List.set_cons_zero, List.set_cons_succ]
    refine wpAnyH_take (i := 12) (oi := { dst := some 31, op := Go.Op.load 23 (Go.Operand.tmp 1), type := 23, pos := "law.go:49", after := #[{ on := 11, ground := Go.Ground.guard }], guard := some (11, true) }) (v := ?_) rfl (by kernel_rfl) (by kernel_rfl) (by kernel_rfl) (fun _ _ _ h => h) (Or.inl ⟨by rfl, ?_⟩) (by assumption) ?_
    rotate_left
    · intro w hSw
      (try dsimp only at hSw)
      go_simp
      try (with_reducible rfl)
    try simp only [Act.put, List.setIfInBounds_toArray, List.set_cons_zero, List.set_cons_succ]
    refine wpAnyH_take (i := 14) (oi := { dst := some 33, op := Go.Op.load 23 (Go.Operand.tmp 1), type := 23, pos := "law.go:49", after := #[{ on := 11, ground := Go.Ground.guard }], guard := some (11, true) }) (v := ?_) rfl (by kernel_rfl) (by kernel_rfl) (by kernel_rfl) (fun _ _ _ h => h) (Or.inl ⟨by rfl, ?_⟩) (by assumption) ?_
    rotate_left
    · intro w hSw
      (try dsimp only at hSw)
      go_simp
      try (with_reducible rfl)
    try simp only [Act.put, List.setIfInBounds_toArray, List.set_cons_zero, List.set_cons_succ]
    refine wpAnyH_ready (rs := [13]) (by kernel_rfl) (by simp) ?_
    refine (AllReadyH.cons (o := { dst := some 32, op := Go.Op.call { callee := Go.Callee.value (Go.Operand.func 17), args := #[Go.Operand.tmp 31], argTypes := #[23] }, type := 4, pos := "law.go:49", after := #[{ on := 12, ground := Go.Ground.data }, { on := 11, ground := Go.Ground.chain }, { on := 11, ground := Go.Ground.guard }], guard := some (11, true) }) rfl (fun K hK => ?_) AllReadyH.nil)
    · go_simp
      (go_at_call 17; (with_reducible refine Calls.mono (HE.out _) ?_); rintro e W1 ⟨rfl, hb⟩; replace hR := hR.trans (hb.mono hR.size); clear hb)
      go_wp2_with fail
      refine hK.out _ _ ?_ (fun hHeld => ?_)
      · exact HC.out _ hR
      clear hK K
      try simp only [Act.put, List.setIfInBounds_toArray, List.set_cons_zero, List.set_cons_succ]
      refine wpAnyH_ready (rs := [15]) (by kernel_rfl) (by simp) ?_
      refine (AllReadyH.cons (o := { dst := some 34, op := Go.Op.call { callee := Go.Callee.value (Go.Operand.func 18), args := #[Go.Operand.tmp 33], argTypes := #[23] }, type := 4, pos := "law.go:49", after := #[{ on := 14, ground := Go.Ground.data }, { on := 13, ground := Go.Ground.chain }, { on := 11, ground := Go.Ground.guard }], guard := some (11, true) }) rfl (fun K hK => ?_) AllReadyH.nil)
      · go_simp
        (go_at_call 18; (with_reducible refine Calls.mono (HF.out _) ?_); rintro e W1 ⟨rfl, hb⟩; replace hR := hR.trans (hb.mono hR.size); clear hb)
        go_wp2_with fail
        refine hK.out _ _ ?_ (fun hHeld => ?_)
        · exact HC.out _ hR
        clear hK K
        try simp only [Act.put, List.setIfInBounds_toArray, List.set_cons_zero, List.set_cons_succ]
        refine wpAnyH_take (i := 16) (oi := { dst := some 35, op := Go.Op.binOp Go.BinOp.eql 4 (Go.Operand.tmp 32) (Go.Operand.tmp 34) 4, type := 4, pos := "law.go:49", after := #[{ on := 13, ground := Go.Ground.data }, { on := 15, ground := Go.Ground.data }, { on := 11, ground := Go.Ground.guard }], guard := some (11, true) }) (v := ?_) rfl (by kernel_rfl) (by kernel_rfl) (by kernel_rfl) (fun _ _ _ h => h) (Or.inl ⟨by rfl, ?_⟩) (by assumption) ?_
        rotate_left
        · intro w hSw
          (try dsimp only at hSw)
          go_simp
          try (with_reducible rfl)
        try simp only [Act.put, List.setIfInBounds_toArray, List.set_cons_zero, List.set_cons_succ]
        refine wpAnyH_take (i := 17) (oi := { dst := some 36, op := Go.Op.pick (Go.Operand.tmp 30) (Go.Operand.tmp 35) (Go.Operand.const (Go.Value.bool false)), type := 4, pos := "law.go:49", after := #[{ on := 11, ground := Go.Ground.data }, { on := 16, ground := Go.Ground.data }], guard := none }) (v := ?_) rfl (by kernel_rfl) (by kernel_rfl) (by kernel_rfl) (fun _ _ _ h => h) (Or.inl ⟨by rfl, ?_⟩) (by assumption) ?_
        rotate_left
        · intro w hSw
          (try dsimp only at hSw)
          go_simp
          try (with_reducible rfl)
        try simp only [Act.put, List.setIfInBounds_toArray, List.set_cons_zero, List.set_cons_succ]
        refine wpAnyH_take (i := 18) (oi := { dst := some 37, op := Go.Op.move (Go.Operand.tmp 36), type := 4, pos := "law.go:49", after := #[{ on := 17, ground := Go.Ground.data }, { on := 15, ground := Go.Ground.chain }], guard := none }) (v := ?_) rfl (by kernel_rfl) (by kernel_rfl) (by kernel_rfl) (fun _ _ _ h => h) (Or.inl ⟨by rfl, ?_⟩) (by assumption) ?_
        rotate_left
        · intro w hSw
          (try dsimp only at hSw)
          go_simp
          try (with_reducible rfl)
        try simp only [Act.put, List.setIfInBounds_toArray, List.set_cons_zero, List.set_cons_succ]
        refine wpAnyH_take (i := 19) (oi := { dst := some 38, op := Go.Op.move (Go.Operand.tmp 5), type := 30, pos := "law.go:49", after := #[{ on := 18, ground := Go.Ground.guard }], guard := some (18, true) }) (v := ?_) rfl (by kernel_rfl) (by kernel_rfl) (by kernel_rfl) (fun _ _ _ h => h) (Or.inl ⟨by rfl, ?_⟩) (by assumption) ?_
        rotate_left
        · intro w hSw
          (try dsimp only at hSw)
          go_simp
          try (with_reducible rfl)
        try simp only [Act.put, List.setIfInBounds_toArray, List.set_cons_zero, List.set_cons_succ]
        refine wpAnyH_take (i := 20) (oi := { dst := some 39, op := Go.Op.binOp Go.BinOp.neq 30 (Go.Operand.tmp 38) (Go.Operand.const (Go.Value.int Go.IntKind.i64 0)) 30, type := 4, pos := "law.go:49", after := #[{ on := 19, ground := Go.Ground.data }, { on := 18, ground := Go.Ground.guard }], guard := some (18, true) }) (v := ?_) rfl (by kernel_rfl) (by kernel_rfl) (by kernel_rfl) (fun _ _ _ h => h) (Or.inl ⟨by rfl, ?_⟩) (by assumption) ?_
        rotate_left
        · intro w hSw
          (try dsimp only at hSw)
          go_simp
          try (with_reducible rfl)
        try simp only [Act.put, List.setIfInBounds_toArray, List.set_cons_zero, List.set_cons_succ]
        refine wpAnyH_take (i := 21) (oi := { dst := some 40, op := Go.Op.move (Go.Operand.tmp 39), type := 4, pos := "law.go:49", after := #[{ on := 20, ground := Go.Ground.data }, { on := 18, ground := Go.Ground.chain }, { on := 18, ground := Go.Ground.guard }], guard := some (18, true) }) (v := ?_) rfl (by kernel_rfl) (by kernel_rfl) (by kernel_rfl) (fun _ _ _ h => h) (Or.inl ⟨by rfl, ?_⟩) (by assumption) ?_
        rotate_left
        · intro w hSw
          (try dsimp only at hSw)
          go_simp
          try (with_reducible rfl)
        try simp only [Act.put, List.setIfInBounds_toArray, List.set_cons_zero, List.set_cons_succ]
        refine wpAnyH_take (i := 22) (oi := { dst := some 41, op := Go.Op.load 23 (Go.Operand.tmp 1), type := 23, pos := "law.go:49", after := #[{ on := 21, ground := Go.Ground.guard }], guard := some (21, false) }) (v := undef) rfl (by kernel_rfl) (by kernel_rfl) (by kernel_rfl) (fun _ _ _ h => h) (Or.inr ⟨by rfl, rfl⟩) (by assumption) ?_
        try simp only [Act.put, List.setIfInBounds_toArray, List.set_cons_zero, List.set_cons_succ]
        refine wpAnyH_take (i := 23) (oi := { dst := some 42, op := Go.Op.call { callee := Go.Callee.value (Go.Operand.func 17), args := #[Go.Operand.tmp 41], argTypes := #[23] }, type := 4, pos := "law.go:49", after := #[{ on := 22, ground := Go.Ground.data }, { on := 21, ground := Go.Ground.chain }, { on := 21, ground := Go.Ground.guard }], guard := some (21, false) }) (v := undef) rfl (by kernel_rfl) (by kernel_rfl) (by kernel_rfl) (fun _ _ _ h => h) (Or.inr ⟨by rfl, rfl⟩) (by assumption) ?_
        try simp only [Act.put, List.setIfInBounds_toArray, List.set_cons_zero, List.set_cons_succ]
        refine wpAnyH_take (i := 24) (oi := { dst := some 43, op := Go.Op.unOp Go.UnOp.not 4 (Go.Operand.tmp 42), type := 4, pos := "law.go:49", after := #[{ on := 23, ground := Go.Ground.data }, { on := 21, ground := Go.Ground.guard }], guard := some (21, false) }) (v := undef) rfl (by kernel_rfl) (by kernel_rfl) (by kernel_rfl) (fun _ _ _ h => h) (Or.inr ⟨by rfl, rfl⟩) (by assumption) ?_
        try simp only [Act.put, List.setIfInBounds_toArray, List.set_cons_zero, List.set_cons_succ]
        refine wpAnyH_take (i := 25) (oi := { dst := some 44, op := Go.Op.move (Go.Operand.tmp 43), type := 4, pos := "law.go:49", after := #[{ on := 24, ground := Go.Ground.data }, { on := 23, ground := Go.Ground.chain }, { on := 21, ground := Go.Ground.guard }], guard := some (21, false) }) (v := undef) rfl (by kernel_rfl) (by kernel_rfl) (by kernel_rfl) (fun _ _ _ h => h) (Or.inr ⟨by rfl, rfl⟩) (by assumption) ?_
        try simp only [Act.put, List.setIfInBounds_toArray, List.set_cons_zero, List.set_cons_succ]
        refine wpAnyH_take (i := 26) (oi := { dst := some 45, op := Go.Op.load 23 (Go.Operand.tmp 4), type := 23, pos := "law.go:49", after := #[{ on := 25, ground := Go.Ground.guard }], guard := some (25, true) }) (v := undef) rfl (by kernel_rfl) (by kernel_rfl) (by kernel_rfl) (fun _ _ _ h => h) (Or.inr ⟨by rfl, rfl⟩) (by assumption) ?_
        try simp only [Act.put, List.setIfInBounds_toArray, List.set_cons_zero, List.set_cons_succ]
        refine wpAnyH_take (i := 27) (oi := { dst := some 46, op := Go.Op.call { callee := Go.Callee.value (Go.Operand.func 17), args := #[Go.Operand.tmp 45], argTypes := #[23] }, type := 4, pos := "law.go:49", after := #[{ on := 26, ground := Go.Ground.data }, { on := 25, ground := Go.Ground.chain }, { on := 25, ground := Go.Ground.guard }], guard := some (25, true) }) (v := undef) rfl (by kernel_rfl) (by kernel_rfl) (by kernel_rfl) (fun _ _ _ h => h) (Or.inr ⟨by rfl, rfl⟩) (by assumption) ?_
        try simp only [Act.put, List.setIfInBounds_toArray, List.set_cons_zero, List.set_cons_succ]
        refine wpAnyH_take (i := 28) (oi := { dst := some 47, op := Go.Op.unOp Go.UnOp.not 4 (Go.Operand.tmp 46), type := 4, pos := "law.go:49", after := #[{ on := 27, ground := Go.Ground.data }, { on := 25, ground := Go.Ground.guard }], guard := some (25, true) }) (v := undef) rfl (by kernel_rfl) (by kernel_rfl) (by kernel_rfl) (fun _ _ _ h => h) (Or.inr ⟨by rfl, rfl⟩) (by assumption) ?_
        try simp only [Act.put, List.setIfInBounds_toArray, List.set_cons_zero, List.set_cons_succ]
        refine wpAnyH_take (i := 29) (oi := { dst := some 48, op := Go.Op.pick (Go.Operand.tmp 44) (Go.Operand.tmp 47) (Go.Operand.const (Go.Value.bool false)), type := 4, pos := "law.go:49", after := #[{ on := 25, ground := Go.Ground.data }, { on := 28, ground := Go.Ground.data }, { on := 21, ground := Go.Ground.guard }], guard := some (21, false) }) (v := undef) rfl (by kernel_rfl) (by kernel_rfl) (by kernel_rfl) (fun _ _ _ h => h) (Or.inr ⟨by rfl, rfl⟩) (by assumption) ?_
        try simp only [Act.put, List.setIfInBounds_toArray, List.set_cons_zero, List.set_cons_succ]
        refine wpAnyH_take (i := 30) (oi := { dst := some 49, op := Go.Op.pick (Go.Operand.tmp 40) (Go.Operand.const (Go.Value.bool true)) (Go.Operand.tmp 48), type := 4, pos := "law.go:49", after := #[{ on := 21, ground := Go.Ground.data }, { on := 29, ground := Go.Ground.data }, { on := 18, ground := Go.Ground.guard }], guard := some (18, true) }) (v := ?_) rfl (by kernel_rfl) (by kernel_rfl) (by kernel_rfl) (fun _ _ _ h => h) (Or.inl ⟨by rfl, ?_⟩) (by assumption) ?_
        rotate_left
        · intro w hSw
          (try dsimp only at hSw)
          go_simp
          try (with_reducible rfl)
        try simp only [Act.put, List.setIfInBounds_toArray, List.set_cons_zero, List.set_cons_succ]
        refine wpAnyH_take (i := 31) (oi := { dst := some 50, op := Go.Op.pick (Go.Operand.tmp 37) (Go.Operand.tmp 49) (Go.Operand.const (Go.Value.bool false)), type := 4, pos := "law.go:49", after := #[{ on := 18, ground := Go.Ground.data }, { on := 30, ground := Go.Ground.data }], guard := none }) (v := ?_) rfl (by kernel_rfl) (by kernel_rfl) (by kernel_rfl) (fun _ _ _ h => h) (Or.inl ⟨by rfl, ?_⟩) (by assumption) ?_
        rotate_left
        · intro w hSw
          (try dsimp only at hSw)
          go_simp
          try (with_reducible rfl)
        try simp only [Act.put, List.setIfInBounds_toArray, List.set_cons_zero, List.set_cons_succ]
        refine wpAnyH_take (i := 32) (oi := { dst := some 2, op := Go.Op.assign (Go.Operand.tmp 50), type := 4, pos := "law.go:49", after := #[{ on := 31, ground := Go.Ground.data }, { on := 27, ground := Go.Ground.chain }, { on := 0, ground := Go.Ground.phase }, { on := 1, ground := Go.Ground.phase }, { on := 2, ground := Go.Ground.phase }, { on := 3, ground := Go.Ground.phase }, { on := 4, ground := Go.Ground.phase }, { on := 5, ground := Go.Ground.phase }, { on := 6, ground := Go.Ground.phase }, { on := 7, ground := Go.Ground.phase }, { on := 8, ground := Go.Ground.phase }, { on := 9, ground := Go.Ground.phase }, { on := 10, ground := Go.Ground.phase }, { on := 11, ground := Go.Ground.phase }, { on := 12, ground := Go.Ground.phase }, { on := 13, ground := Go.Ground.phase }, { on := 14, ground := Go.Ground.phase }, { on := 15, ground := Go.Ground.phase }, { on := 16, ground := Go.Ground.phase }, { on := 17, ground := Go.Ground.phase }, { on := 18, ground := Go.Ground.phase }, { on := 19, ground := Go.Ground.phase }, { on := 20, ground := Go.Ground.phase }, { on := 21, ground := Go.Ground.phase }, { on := 22, ground := Go.Ground.phase }, { on := 23, ground := Go.Ground.phase }, { on := 24, ground := Go.Ground.phase }, { on := 25, ground := Go.Ground.phase }, { on := 26, ground := Go.Ground.phase }, { on := 27, ground := Go.Ground.phase }, { on := 28, ground := Go.Ground.phase }, { on := 29, ground := Go.Ground.phase }, { on := 30, ground := Go.Ground.phase }, { on := 31, ground := Go.Ground.phase }], guard := none }) (v := ?_) rfl (by kernel_rfl) (by kernel_rfl) (by kernel_rfl) (fun _ _ _ h => h) (Or.inl ⟨by rfl, ?_⟩) (by assumption) ?_
        rotate_left
        · intro w hSw
          (try dsimp only at hSw)
          go_simp
          try (with_reducible rfl)
        try simp only [Act.put, List.setIfInBounds_toArray, List.set_cons_zero, List.set_cons_succ]
        refine wpAnyH_done (by kernel_rfl) ?_ _
        go_wp2
        go_ret
        exact ⟨rfl, L3.out.trans (hR.mono L3.out.size)⟩
theorem walk (w : World) (a0_0 : Bool) (a0_1 : Int) (w0_1 : (Lit.int .i64 a0_1).wf = true) (a0_2 : Int) (w0_2 : (Lit.int .i64 a0_2).wf = true) (a0_3 : Int) (w0_3 : (Lit.int .i64 a0_3).wf = true) (a0_4 : ByteArray) (w0_4 : a0_4.size ≤ maxLen) (s0_4 : a0_4.size ≤ 140737488351232) :
    Calls Try.prog 5 #[.agg #[.bool a0_0, .int .i64 a0_1, .int .i64 a0_2, .int .i64 a0_3, .string a0_4]] w fun e w' => e = .returned (.bool true) ∧ Below w.heap.size w w' := by
  exact walkT ⟨a0_0, a0_1, a0_2, a0_3, a0_4⟩ (by show a0_4.size ≤ _; omega) w
set_option maxRecDepth 100000 in
theorem contract (H : Type) (enc : TypeId × Value → H) (W : World) (base : Nat) (args : Array Value) (ds gs : List (DataW H)) (before : List MemPlace)
    (hval0 : ∀ (j : Nat) t v, Try.f5.params[j]? = some t → args[j]? = some v → Value.okWide Try.prog W .any base t v)
    (hW : DataW.Whole enc Try.prog Try.f5.params.toList Rows.icmpTellsSpec.vars false W args.toList ds gs before)
    (hsz0 : (DataW.weightsEach Try.prog (Try.f5.params.toList ++ Rows.icmpTellsSpec.plain.varTypes Try.prog) (ds ++ gs)).all (· ≤ reachBytes) = true) :
    Calls Try.prog 5 args W fun e W' => ∃ v, e = .returned v ∧ Rows.icmpTellsSpec.post enc Try.prog Try.f5 false true false false W args v W' := by
  have hsz := hsz0
  clear hsz0
  have hval := hval0
  clear hval0
  have hW' := hW
  obtain ⟨p, q, hA0, hV, rfl, hfz, hnd⟩ := hW
  have hA : DataW.TrodAll enc Try.prog W 0 (fun _ => true) true Try.f5.params.toList args.toList ds p := hA0
  rw [Try.params5] at hA hval hsz
  obtain ⟨v0, vs0, d0, ds0, p0, q0, hargs, rfl, rfl, h0, r0⟩ := trodAll_cons hA
  obtain ⟨rfl, rfl, rfl⟩ := trodAll_nil r0
  obtain rfl : args = #[v0] := by cases args; simp_all
  obtain ⟨rfl, rfl⟩ := trodVars_none hV
  have k0 := h0
  have lt0 : ∀ x ∈ p0, x.block < W.heap.size := by obtain ⟨m, hm⟩ := k0; exact DataW.trod_lt m _ _ _ hm
  obtain ⟨a0_0, a0_1, a0_2, a0_3, a0_4, rfl, w0_1, w0_2, w0_3, w0_4, ep0⟩ := open_icmp (hval 0 23 v0 rfl rfl) h0
  have s0_4 : a0_4.size ≤ 140737488351232 := by have h1 := sized_agg_str hsz (j := 0) (i := 4) (t := 23) rfl (congrArg some ep0.2) Try.underlying23 rfl rfl; have h2 := Lib.size_eq a0_4; omega
  clear hA0
  refine (walk W a0_0 a0_1 w0_1 a0_2 w0_2 a0_3 w0_3 a0_4 w0_4 s0_4).mono fun e W' ⟨he, bel⟩ => ?_
  subst he
  exact ⟨_, rfl, _, _, _, [], _, [], hW', trodAll_mk1 (shut_bool Try.underlying4 _), (trodAll_cons_mk (Below.trod laidOut (by kernel_rfl) (of_decide_eq_true (by kernel_rfl)) k0 bel lt0) trodAll_mk0), rfl, bel.frame _, fun h => by cases h⟩

set_option maxRecDepth 100000 in
theorem lifted (os : Os) (started : os.Started) (H : Type) (enc : TypeId × Value → H) :
    ReturnsInHanded {} Try.checked os 5 .any (Rows.icmpTellsSpec.pre6 enc Try.prog Try.f5 Rows.icmpTellsRow.domain false) (Rows.icmpTellsSpec.post enc Try.prog Try.f5 false true false false) := by
  refine returnsInHanded_of_change_sized (C := Try.checked) own started (by kernel_rfl) Try.func5
    (ChangeSpec.witness6 (enc := enc) (C := Try.checked) false ⟨#[], #[.agg #[.bool false, .int .i64 0, .int .i64 0, .int .i64 0, .string ByteArray.empty]], []⟩ 8 (by kernel_rfl) (by kernel_rfl) (by kernel_rfl) (by kernel_rfl)) ?_
  intro W base args ds gs before hval hW _ hsz _
  exact contract H enc W base args ds gs before hval hW hsz

theorem over : Rows.icmpTellsRow.holds Try.pinned (OpenSpec.ofChange Rows.icmpTellsSpec) :=
  OpenClaim.holds_of_wide 5 Try.f5 rfl rfl rfl rfl rfl rfl rfl ⟨rfl, rfl, rfl, rfl, rfl⟩ rfl rfl rfl rfl rfl (by kernel_rfl) Try.func5 (by kernel_rfl)
    (of_decide_eq_true (by kernel_rfl)) (by unfold Func.isWrapper; first | (rw [if_pos (by decide +kernel)]; kernel_rfl) | (rw [if_neg (by decide +kernel)]; exact ⟨rfl, rfl⟩))
    (fun os started H enc _ => lifted os started H enc)

theorem proved : Rows.IcmpTellsSaid := over
#print axioms proved
end Go.Proofs.Ytljdebpemdjliaa.Tells
