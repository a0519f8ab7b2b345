/-
  The program's own arena (layer 10): New.
-/
import Derived.Test.YtiocdojdncomhaaDoorArJ
namespace Go.Proofs.YtiocdojdncomhaaDoor
open Go.RowKit Go.Maps
set_option linter.unusedVariables false

set_option maxHeartbeats 1000000 in
theorem pnew_bad (O : Int) (h : O < 0 ∨ 16 < O) (w : World) : Calls Tryd.prog 9 #[.int .i64 O] w fun e w' => e = .returned (.tuple #[.pointer none, .int .i64 1]) ∧ w = w' := by
  by_cases h0 : O < 0
  · clear h
    go_enter Tryd.func9, Tryd.ntmps9
    go_wp2
    exact bodyPost_ret (v := .tuple #[.pointer none, .int .i64 1]) (by simp [results, Tryd.results9, go_sem]) rfl ⟨rfl, rfl⟩
  · have h1 : 16 < O := by omega
    clear h
    go_enter Tryd.func9, Tryd.ntmps9
    go_wp2
    exact bodyPost_ret (v := .tuple #[.pointer none, .int .i64 1]) (by simp [results, Tryd.results9, go_sem]) rfl ⟨rfl, rfl⟩
set_option maxRecDepth 100000 in
set_option maxHeartbeats 4000000 in
theorem pnew_ok (N : Nat) (hN : N ≤ 16) (w : World) : Calls Tryd.prog 9 #[.int .i64 (N : Int)] w fun e w' => ∃ r bm bn, e = .returned (.tuple #[.pointer (some ⟨r, 0, none⟩), .int .i64 0]) ∧ ArP w' r bm bn N [] ∧ Below w.heap.size w w' ∧ w.heap.size ≤ r ∧ w.heap.size ≤ bm ∧ w.heap.size ≤ bn := by
  have h0 : ¬ (N : Int) < 0 := by omega
  have h1 : ¬ (16 : Int) < N := by omega
  have h16 := pow16 hN
  have HN := Lib.hid (fun W => newTree_any N hN W)
  unfold treV at HN
  have j1 : IntKind.i64.wrap ((2 : Int) ^ N) = ((2 ^ N : Nat) : Int) := by
    have e : ((2 : Int) ^ N) = ((2 ^ N : Nat) : Int) := by simp
    rw [e, IntKind.wrap_i64]; omega
  obtain ⟨S, hS⟩ : ∃ S : Nat, 2 ^ (N + 1) = S := ⟨_, rfl⟩
  obtain ⟨P, hP⟩ : ∃ P : Nat, 2 ^ N = P := ⟨_, rfl⟩
  rw [hS] at HN
  rw [hP] at j1
  have HSS : Hid (2 ^ (N + 1) = S ∧ 2 ^ N - sumB [] = P) := Lib.hid ⟨hS, by rw [← hP]; simp [sumB]⟩
  have hmm := @run_makeMap Tryd.prog
  clear hS hP h16
  go_enter Tryd.func9, Tryd.ntmps9
  go_wp2
  refine wp_region_held_drew (S := fun _ => True) (by kernel_rfl) trivial (fun hHeld => ?_)
  refine wpAnyH_take (i := 0) (oi := { dst := some 10, op := Go.Op.move (Go.Operand.tmp 0), type := 3, pos := "arena.go:28", after := #[], guard := none }) (v := ?_) rfl (by kernel_rfl) (by kernel_rfl) (by kernel_rfl) (fun _ _ _ h => h) (Or.inl ⟨by rfl, ?_⟩) (by assumption) ?_
  rotate_left
  · intro w hSw
    (try dsimp only at hSw)
    go_simp
    try (with_reducible rfl)
  try simp only [Act.put, List.setIfInBounds_toArray, List.set_cons_zero, List.set_cons_succ]
  refine wpAnyH_take (i := 2) (oi := { dst := some 12, op := Go.Op.move (Go.Operand.tmp 0), type := 3, pos := "arena.go:28", after := #[], guard := none }) (v := ?_) rfl (by kernel_rfl) (by kernel_rfl) (by kernel_rfl) (fun _ _ _ h => h) (Or.inl ⟨by rfl, ?_⟩) (by assumption) ?_
  rotate_left
  · intro w hSw
    (try dsimp only at hSw)
    go_simp
    try (with_reducible rfl)
  try simp only [Act.put, List.setIfInBounds_toArray, List.set_cons_zero, List.set_cons_succ]
  refine wpAnyH_take (i := 4) (oi := { dst := some 14, op := Go.Op.move (Go.Operand.tmp 0), type := 3, pos := "arena.go:28", after := #[], guard := none }) (v := ?_) rfl (by kernel_rfl) (by kernel_rfl) (by kernel_rfl) (fun _ _ _ h => h) (Or.inl ⟨by rfl, ?_⟩) (by assumption) ?_
  rotate_left
  · intro w hSw
    (try dsimp only at hSw)
    go_simp
    try (with_reducible rfl)
  try simp only [Act.put, List.setIfInBounds_toArray, List.set_cons_zero, List.set_cons_succ]
  refine wpAnyH_take (i := 5) (oi := { dst := some 15, op := Go.Op.binOp Go.BinOp.shl 3 (Go.Operand.const (Go.Value.int Go.IntKind.i64 1)) (Go.Operand.tmp 14) 3, type := 3, pos := "arena.go:28", after := #[{ on := 4, ground := Go.Ground.data }], guard := none }) (v := ?_) rfl (by kernel_rfl) (by kernel_rfl) (by kernel_rfl) (fun _ _ _ h => h) (Or.inl ⟨by rfl, ?_⟩) (by assumption) ?_
  rotate_left
  · intro w hSw
    (try dsimp only at hSw)
    go_simp
    try (with_reducible rfl)
  try simp only [Act.put, List.setIfInBounds_toArray, List.set_cons_zero, List.set_cons_succ]
  refine wpAnyH_ready (rs := [1, 3]) (by kernel_rfl) (by simp) ?_
  refine (AllReadyH.cons (o := { dst := some 11, op := Go.Op.makeMap 48 none, type := 48, pos := "arena.go:28", after := #[], guard := none }) rfl (fun K hK => ?_) (AllReadyH.cons (o := { dst := some 13, op := Go.Op.call { callee := Go.Callee.value (Go.Operand.func 28), args := #[Go.Operand.tmp 12], argTypes := #[3] }, type := 51, pos := "arena.go:28", after := #[{ on := 2, ground := Go.Ground.data }], guard := none }) rfl (fun K hK => ?_) AllReadyH.nil))
  · go_simp
    refine hK.out _ _ ?_ (fun hHeld => ?_)
    · trivial
    clear hK K
    try simp only [Act.put, List.setIfInBounds_toArray, List.set_cons_zero, List.set_cons_succ]
    refine wpAnyH_ready (rs := [3]) (by kernel_rfl) (by simp) ?_
    refine (AllReadyH.cons (o := { dst := some 13, op := Go.Op.call { callee := Go.Callee.value (Go.Operand.func 28), args := #[Go.Operand.tmp 12], argTypes := #[3] }, type := 51, pos := "arena.go:28", after := #[{ on := 2, ground := Go.Ground.data }], guard := none }) rfl (fun K hK => ?_) AllReadyH.nil)
    · go_simp
      (go_at_call 28; (with_reducible refine Calls.mono (HN.out _) ?_); rintro e y ⟨bn, f, rfl, hbn, hB, hT, hbl⟩)
      go_wp2_with fail
      refine hK.out _ _ ?_ (fun hHeld => ?_)
      · trivial
      clear hK K
      try simp only [Act.put, List.setIfInBounds_toArray, List.set_cons_zero, List.set_cons_succ]
      refine wpAnyH_take (i := 6) (oi := { dst := some 16, op := Go.Op.build 54 #[(0, Go.Operand.tmp 10), (1, Go.Operand.tmp 11), (2, Go.Operand.tmp 13), (3, Go.Operand.tmp 15)], type := 54, pos := "arena.go:28", after := #[{ on := 0, ground := Go.Ground.data }, { on := 1, ground := Go.Ground.data }, { on := 3, ground := Go.Ground.data }, { on := 5, ground := Go.Ground.data }], guard := none }) (v := ?_) rfl (by kernel_rfl) (by kernel_rfl) (by kernel_rfl) (fun _ _ _ h => h) (Or.inl ⟨by rfl, ?_⟩) (by assumption) ?_
      rotate_left
      · intro w hSw
        (try dsimp only at hSw)
        go_simp
        try (with_reducible rfl)
      try simp only [Act.put, List.setIfInBounds_toArray, List.set_cons_zero, List.set_cons_succ]
      refine wpAnyH_ready (rs := [7]) (by kernel_rfl) (by simp) ?_
      refine (AllReadyH.cons (o := { dst := some 17, op := Go.Op.box 54 (Go.Operand.tmp 16), type := 24, pos := "arena.go:28", after := #[{ on := 6, ground := Go.Ground.data }], guard := none }) rfl (fun K hK => ?_) AllReadyH.nil)
      · go_simp
        refine hK.out _ _ ?_ (fun hHeld => ?_)
        · trivial
        clear hK K
        try simp only [Act.put, List.setIfInBounds_toArray, List.set_cons_zero, List.set_cons_succ]
        refine wpAnyH_take (i := 8) (oi := { dst := some 2, op := Go.Op.assign (Go.Operand.tmp 17), type := 24, pos := "arena.go:28", after := #[{ on := 7, ground := Go.Ground.data }, { on := 3, ground := Go.Ground.chain }, { on := 0, ground := Go.Ground.phase }, { on := 1, ground := Go.Ground.phase }, { on := 2, ground := Go.Ground.phase }, { on := 3, ground := Go.Ground.phase }, { on := 4, ground := Go.Ground.phase }, { on := 5, ground := Go.Ground.phase }, { on := 6, ground := Go.Ground.phase }, { on := 7, ground := Go.Ground.phase }], guard := none }) (v := ?_) rfl (by kernel_rfl) (by kernel_rfl) (by kernel_rfl) (fun _ _ _ h => h) (Or.inl ⟨by rfl, ?_⟩) (by assumption) ?_
        rotate_left
        · intro w hSw
          (try dsimp only at hSw)
          go_simp
          try (with_reducible rfl)
        try simp only [Act.put, List.setIfInBounds_toArray, List.set_cons_zero, List.set_cons_succ]
        refine wpAnyH_take (i := 9) (oi := { dst := some 3, op := Go.Op.assign (Go.Operand.const (Go.Value.int Go.IntKind.i64 0)), type := 25, pos := "arena.go:28", after := #[{ on := 8, ground := Go.Ground.chain }, { on := 0, ground := Go.Ground.phase }, { on := 1, ground := Go.Ground.phase }, { on := 2, ground := Go.Ground.phase }, { on := 3, ground := Go.Ground.phase }, { on := 4, ground := Go.Ground.phase }, { on := 5, ground := Go.Ground.phase }, { on := 6, ground := Go.Ground.phase }, { on := 7, ground := Go.Ground.phase }, { on := 8, ground := Go.Ground.phase }], guard := none }) (v := ?_) rfl (by kernel_rfl) (by kernel_rfl) (by kernel_rfl) (fun _ _ _ h => h) (Or.inl ⟨by rfl, ?_⟩) (by assumption) ?_
        rotate_left
        · intro w hSw
          (try dsimp only at hSw)
          go_simp
          try (with_reducible rfl)
        try simp only [Act.put, List.setIfInBounds_toArray, List.set_cons_zero, List.set_cons_succ]
        refine wpAnyH_done (by kernel_rfl) ?_ _
        have e0 : (w.alloc (.map #[] 0)).drew.heap.size = w.heap.size + 1 := World.size_alloc _ _
        have s1 := hbl.size
        rw [e0] at s1 hbn
        have M0 := ((World.ownsMap_made (H := Unit) w.drew Tryd.prog 3 (plainElem Tryd.prog 3)).kept (gb_below hbl none) (by simp)).alloc (.cells #[.int .i64 (N : Int), .map (some w.heap.size), .int .i64 (N : Int), .slice (some ⟨bn, 0, none⟩) S S, .int .i64 (P : Int)] 54)
        have A0 := Blk.new y 54 #[.int .i64 (N : Int), .map (some w.heap.size), .int .i64 (N : Int), .slice (some ⟨bn, 0, none⟩) S S, .int .i64 (P : Int)]
        have B0 := hB.alloc (.cells #[.int .i64 (N : Int), .map (some w.heap.size), .int .i64 (N : Int), .slice (some ⟨bn, 0, none⟩) S S, .int .i64 (P : Int)] 54)
        have L1 : Below w.heap.size w (w.alloc (.map #[] 0)).drew := ((Below.refl _ w).alloc (Nat.le_refl _) (.map #[] 0)).drew
        have L0 := (L1.trans (hbl.mono (by rw [e0]; omega))).alloc (by omega) (.cells #[.int .i64 (N : Int), .map (some w.heap.size), .int .i64 (N : Int), .slice (some ⟨bn, 0, none⟩) S S, .int .i64 (P : Int)] 54)
        have HM0 := Lib.hid M0
        have HA0 := Lib.hid A0
        have HB0 := Lib.hid B0
        have HL0 := Lib.hid L0
        have HT0 := Lib.hid hT
        have HS1 := Lib.hid (And.intro s1 hbn)
        clear M0 A0 B0 L0 hT hB hbl s1 hbn
        go_wp2
        exact bodyPost_ret (v := .tuple #[.pointer (some ⟨y.heap.size, 0, none⟩), .int .i64 0]) (by simp [results, Tryd.results9, go_sem]) rfl ⟨y.heap.size, w.heap.size, bn, rfl, ⟨f, .map [], by rw [HSS.out.1, HSS.out.2]; exact HA0.out, HB0.out, own_tight HM0.out, HT0.out, MapIs.nil, ⟨List.Pairwise.nil, (fun b hb => by cases hb)⟩⟩, HL0.out, by have := HS1.out; omega, by have := HS1.out; omega, by have := HS1.out; omega⟩
  · go_simp
    (go_at_call 28; (with_reducible refine Calls.mono (HN.out _) ?_); rintro e y ⟨bn, f, rfl, hbn, hB, hT, hbl⟩)
    go_wp2_with fail
    refine hK.out _ _ ?_ (fun hHeld => ?_)
    · trivial
    clear hK K
    try simp only [Act.put, List.setIfInBounds_toArray, List.set_cons_zero, List.set_cons_succ]
    refine wpAnyH_ready (rs := [1]) (by kernel_rfl) (by simp) ?_
    refine (AllReadyH.cons (o := { dst := some 11, op := Go.Op.makeMap 48 none, type := 48, pos := "arena.go:28", after := #[], guard := none }) rfl (fun K hK => ?_) AllReadyH.nil)
    · go_simp
      refine hK.out _ _ ?_ (fun hHeld => ?_)
      · trivial
      clear hK K
      try simp only [Act.put, List.setIfInBounds_toArray, List.set_cons_zero, List.set_cons_succ]
      refine wpAnyH_take (i := 6) (oi := { dst := some 16, op := Go.Op.build 54 #[(0, Go.Operand.tmp 10), (1, Go.Operand.tmp 11), (2, Go.Operand.tmp 13), (3, Go.Operand.tmp 15)], type := 54, pos := "arena.go:28", after := #[{ on := 0, ground := Go.Ground.data }, { on := 1, ground := Go.Ground.data }, { on := 3, ground := Go.Ground.data }, { on := 5, ground := Go.Ground.data }], guard := none }) (v := ?_) rfl (by kernel_rfl) (by kernel_rfl) (by kernel_rfl) (fun _ _ _ h => h) (Or.inl ⟨by rfl, ?_⟩) (by assumption) ?_
      rotate_left
      · intro w hSw
        (try dsimp only at hSw)
        go_simp
        try (with_reducible rfl)
      try simp only [Act.put, List.setIfInBounds_toArray, List.set_cons_zero, List.set_cons_succ]
      refine wpAnyH_ready (rs := [7]) (by kernel_rfl) (by simp) ?_
      refine (AllReadyH.cons (o := { dst := some 17, op := Go.Op.box 54 (Go.Operand.tmp 16), type := 24, pos := "arena.go:28", after := #[{ on := 6, ground := Go.Ground.data }], guard := none }) rfl (fun K hK => ?_) AllReadyH.nil)
      · go_simp
        refine hK.out _ _ ?_ (fun hHeld => ?_)
        · trivial
        clear hK K
        try simp only [Act.put, List.setIfInBounds_toArray, List.set_cons_zero, List.set_cons_succ]
        refine wpAnyH_take (i := 8) (oi := { dst := some 2, op := Go.Op.assign (Go.Operand.tmp 17), type := 24, pos := "arena.go:28", after := #[{ on := 7, ground := Go.Ground.data }, { on := 3, ground := Go.Ground.chain }, { on := 0, ground := Go.Ground.phase }, { on := 1, ground := Go.Ground.phase }, { on := 2, ground := Go.Ground.phase }, { on := 3, ground := Go.Ground.phase }, { on := 4, ground := Go.Ground.phase }, { on := 5, ground := Go.Ground.phase }, { on := 6, ground := Go.Ground.phase }, { on := 7, ground := Go.Ground.phase }], guard := none }) (v := ?_) rfl (by kernel_rfl) (by kernel_rfl) (by kernel_rfl) (fun _ _ _ h => h) (Or.inl ⟨by rfl, ?_⟩) (by assumption) ?_
        rotate_left
        · intro w hSw
          (try dsimp only at hSw)
          go_simp
          try (with_reducible rfl)
        try simp only [Act.put, List.setIfInBounds_toArray, List.set_cons_zero, List.set_cons_succ]
        refine wpAnyH_take (i := 9) (oi := { dst := some 3, op := Go.Op.assign (Go.Operand.const (Go.Value.int Go.IntKind.i64 0)), type := 25, pos := "arena.go:28", after := #[{ on := 8, ground := Go.Ground.chain }, { on := 0, ground := Go.Ground.phase }, { on := 1, ground := Go.Ground.phase }, { on := 2, ground := Go.Ground.phase }, { on := 3, ground := Go.Ground.phase }, { on := 4, ground := Go.Ground.phase }, { on := 5, ground := Go.Ground.phase }, { on := 6, ground := Go.Ground.phase }, { on := 7, ground := Go.Ground.phase }, { on := 8, ground := Go.Ground.phase }], guard := none }) (v := ?_) rfl (by kernel_rfl) (by kernel_rfl) (by kernel_rfl) (fun _ _ _ h => h) (Or.inl ⟨by rfl, ?_⟩) (by assumption) ?_
        rotate_left
        · intro w hSw
          (try dsimp only at hSw)
          go_simp
          try (with_reducible rfl)
        try simp only [Act.put, List.setIfInBounds_toArray, List.set_cons_zero, List.set_cons_succ]
        refine wpAnyH_done (by kernel_rfl) ?_ _
        have M0 := (World.ownsMap_made (H := Unit) y Tryd.prog 3 (plainElem Tryd.prog 3)).alloc (.cells #[.int .i64 (N : Int), .map (some y.heap.size), .int .i64 (N : Int), .slice (some ⟨bn, 0, none⟩) S S, .int .i64 (P : Int)] 54)
        have A0 := Blk.new (y.alloc (.map #[] 0)) 54 #[.int .i64 (N : Int), .map (some y.heap.size), .int .i64 (N : Int), .slice (some ⟨bn, 0, none⟩) S S, .int .i64 (P : Int)]
        rw [World.size_alloc] at A0
        have B0 := (hB.alloc (.map #[] 0)).alloc (.cells #[.int .i64 (N : Int), .map (some y.heap.size), .int .i64 (N : Int), .slice (some ⟨bn, 0, none⟩) S S, .int .i64 (P : Int)] 54)
        have L0 := (((Below.refl _ w).drew.trans hbl).alloc hbl.size (.map #[] 0)).alloc (by have := hbl.size; simp only [World.size_alloc, World.drew] at this ⊢; omega) (.cells #[.int .i64 (N : Int), .map (some y.heap.size), .int .i64 (N : Int), .slice (some ⟨bn, 0, none⟩) S S, .int .i64 (P : Int)] 54)
        have s1 : w.heap.size ≤ y.heap.size := hbl.size
        have hbn2 : w.heap.size ≤ bn := hbn
        clear hbn
        have hbn := hbn2
        clear hbn2
        have HM0 := Lib.hid M0
        have HA0 := Lib.hid A0
        have HB0 := Lib.hid B0
        have HL0 := Lib.hid L0
        have HT0 := Lib.hid hT
        have HS1 := Lib.hid (And.intro s1 hbn)
        clear M0 A0 B0 L0 hT hB hbl s1 hbn
        go_wp2
        exact bodyPost_ret (v := .tuple #[.pointer (some ⟨(y.heap.size + 1), 0, none⟩), .int .i64 0]) (by simp [results, Tryd.results9, go_sem]) rfl ⟨(y.heap.size + 1), y.heap.size, bn, rfl, ⟨f, .map [], by rw [HSS.out.1, HSS.out.2]; exact HA0.out, HB0.out, own_tight HM0.out, HT0.out, MapIs.nil, ⟨List.Pairwise.nil, (fun b hb => by cases hb)⟩⟩, HL0.out, by have := HS1.out; omega, by have := HS1.out; omega, by have := HS1.out; omega⟩
end Go.Proofs.YtiocdojdncomhaaDoor
