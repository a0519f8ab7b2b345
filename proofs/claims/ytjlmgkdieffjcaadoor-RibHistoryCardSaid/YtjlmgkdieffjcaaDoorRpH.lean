/-
  The program's own rib (layer 15): keep, New, Drop.
-/
import Derived.Test.YtjlmgkdieffjcaaDoorRpU
import Derived.Test.YtjlmgkdieffjcaaDoorRpG
import Derived.BigQuiet
namespace Go.Proofs.YtjlmgkdieffjcaaDoor
open Go.RowKit
set_option linter.unusedVariables false

set_option maxRecDepth 100000 in
set_option maxHeartbeats 4000000 in
theorem keep_any (t m : Nat) (M : List (PfI × Value)) (p : PfI) (A : Option Addr) (n c : Nat) (w : World) (hb : Blk w t 64 #[.map (some m)]) (hM : MpIs (fun p => pfR p) w m M) :
    Calls Tryd.prog 40 #[.pointer (some ⟨t, 0, none⟩), pfR p, .slice A n c] w fun e w' => e = .returned (.tuple #[]) ∧ MpIs (fun p => pfR p) w' m (if n = 0 then mpDel M p else mpPut M p (.slice A n c)) ∧ Tch w w' [m] := by
  obtain ⟨⟨ps, ph, pl⟩, pb⟩ := p
  obtain ⟨W0, hW0⟩ : ∃ W, w.alloc (.cells #[.bool ps, .int .u64 (ph : Int), .int .u64 (pl : Int), .int .i64 pb] 37) = W := ⟨_, rfl⟩
  obtain ⟨xb, hxb⟩ : ∃ xb, w.heap.size = xb := ⟨_, rfl⟩
  have hX : Blk W0 xb 37 #[.bool ps, .int .u64 (ph : Int), .int .u64 (pl : Int), .int .i64 pb] := hW0 ▸ hxb ▸ Blk.new w _ _
  have hT0 : Tch w W0 [] := hW0 ▸ (Tch.refl w []).alloc _
  have ht := ((hT0.blk hb (by simp)).cell 0).trans (show _ = some (Value.map (some m)) by rfl)
  have HM : Hid (MpIs (fun p : PfI => pfR p) W0.drew m M) := Lib.hid (hM.tch hT0.drew (by simp))
  have HT0 : Hid (Tch w W0.drew []) := Lib.hid hT0.drew
  have HCells : Hid (∀ W, Tch W0.drew W [m] → W.cell? ⟨t, 0, none⟩ = some (Value.map (some m)) ∧ W.cell? ⟨xb, 0, none⟩ = some (Value.bool ps) ∧ W.cell? ⟨xb, 1, none⟩ = some (Value.int .u64 (ph : Int)) ∧ W.cell? ⟨xb, 2, none⟩ = some (Value.int .u64 (pl : Int)) ∧ W.cell? ⟨xb, 3, none⟩ = some (Value.int .i64 pb)) := Lib.hid (fun W hT => by
    have htm : t ≠ m := fun e => by
      obtain ⟨es, clock, h1, -⟩ := hM
      unfold Blk at hb
      rw [e, h1] at hb
      cases hb
    have hlt := hM.lt
    refine ⟨((hT.blk (hT0.blk hb (by simp)).drew (by simpa using htm)).cell 0).trans rfl, ?_⟩
    exact (hT.blk hX.drew (by simp; omega)).c4)
  obtain ⟨x0, x1, x2, x3⟩ := hX.c4
  clear hX hT0 hb hM
  cases n with
  | zero =>
    rw [if_pos rfl]
    go_enter Tryd.func40, Tryd.ntmps40
    go_wp2
    go_region_law (refine step_mdel rfl keyPf (.tmp 12) (.tmp 13) 62 38 rfl Tryd.underlying62 (by simp [Act.eval]) ((ps, ph, pl), pb) (by simp [Act.eval]) HM.out ?_; intro w2 hM2 hT2 hs2; have HH := Lib.hid (And.intro hM2 hT2); clear hM2 hT2 hs2)
    all_goals
      go_wp2
      refine bodyPost_ret (results_none rfl _ _ _) rfl ?_
      exact ⟨rfl, HH.out.1, (HT0.out.mono (by simp)).trans HH.out.2⟩
  | succ k =>
    rw [if_neg (Nat.succ_ne_zero k)]
    have k0 : (((k : Int) + 1) == 0) = false := by simp; omega
    go_enter Tryd.func40, Tryd.ntmps40
    go_wp2
    refine wp_region_held_drew (S := (fun W => W.cell? ⟨t, 0, none⟩ = some (Value.map (some m)) ∧ W.cell? ⟨xb, 0, none⟩ = some (Value.bool ps) ∧ W.cell? ⟨xb, 1, none⟩ = some (Value.int .u64 (ph : Int)) ∧ W.cell? ⟨xb, 2, none⟩ = some (Value.int .u64 (pl : Int)) ∧ W.cell? ⟨xb, 3, none⟩ = some (Value.int .i64 pb))) (by kernel_rfl) ?_ (fun hHeld => ?_)
    · (first | exact HCells.out _ (Tch.refl _ _) | exact HCells.out _ HH.out.2)
    refine wpAnyH_take (i := 0) (oi := { dst := some 14, op := Go.Op.move (Go.Operand.tmp 0), type := 31, pos := "rib.go:77", after := #[], guard := none }) (v := ?_) rfl (by kernel_rfl) (by kernel_rfl) (by kernel_rfl) (fun _ _ _ h => h) (Or.inl ⟨by rfl, ?_⟩) (by assumption) ?_
    rotate_left
    · intro w hSw
      (try dsimp only at hSw)
      go_simp
      try (with_reducible rfl)
    try simp only [Act.put, List.setIfInBounds_toArray, List.set_cons_zero, List.set_cons_succ]
    refine wpAnyH_take (i := 1) (oi := { dst := some 15, op := Go.Op.nilCheck (Go.Operand.tmp 14), type := 0, pos := "rib.go:77", after := #[{ on := 0, ground := Go.Ground.data }], guard := none }) (v := ?_) rfl (by kernel_rfl) (by kernel_rfl) (by kernel_rfl) (fun _ _ _ h => h) (Or.inl ⟨by rfl, ?_⟩) (by assumption) ?_
    rotate_left
    · intro w hSw
      (try dsimp only at hSw)
      go_simp
      try (with_reducible rfl)
    try simp only [Act.put, List.setIfInBounds_toArray, List.set_cons_zero, List.set_cons_succ]
    refine wpAnyH_take (i := 2) (oi := { dst := some 16, op := Go.Op.fieldAddr 64 (Go.Operand.tmp 15) 0, type := 0, pos := "rib.go:77", after := #[{ on := 1, ground := Go.Ground.data }], guard := none }) (v := ?_) rfl (by kernel_rfl) (by kernel_rfl) (by kernel_rfl) (fun _ _ _ h => h) (Or.inl ⟨by rfl, ?_⟩) (by assumption) ?_
    rotate_left
    · intro w hSw
      (try dsimp only at hSw)
      go_simp
      try (with_reducible rfl)
    try simp only [Act.put, List.setIfInBounds_toArray, List.set_cons_zero, List.set_cons_succ]
    refine wpAnyH_take (i := 3) (oi := { dst := some 17, op := Go.Op.load 62 (Go.Operand.tmp 16), type := 62, pos := "rib.go:77", after := #[{ on := 2, ground := Go.Ground.data }], guard := none }) (v := ?_) rfl (by kernel_rfl) (by kernel_rfl) (by kernel_rfl) (fun _ _ _ h => h) (Or.inl ⟨by rfl, ?_⟩) (by assumption) ?_
    rotate_left
    · intro w hSw
      (try dsimp only at hSw)
      go_simp
      try (with_reducible rfl)
    try simp only [Act.put, List.setIfInBounds_toArray, List.set_cons_zero, List.set_cons_succ]
    refine wpAnyH_take (i := 4) (oi := { dst := some 18, op := Go.Op.load 37 (Go.Operand.tmp 4), type := 37, pos := "rib.go:77", after := #[], guard := none }) (v := ?_) rfl (by kernel_rfl) (by kernel_rfl) (by kernel_rfl) (fun _ _ _ h => h) (Or.inl ⟨by rfl, ?_⟩) (by assumption) ?_
    rotate_left
    · intro w hSw
      (try dsimp only at hSw)
      go_simp
      try (with_reducible rfl)
    try simp only [Act.put, List.setIfInBounds_toArray, List.set_cons_zero, List.set_cons_succ]
    refine wpAnyH_take (i := 5) (oi := { dst := some 19, op := Go.Op.move (Go.Operand.tmp 2), type := 38, pos := "rib.go:77", after := #[], guard := none }) (v := ?_) rfl (by kernel_rfl) (by kernel_rfl) (by kernel_rfl) (fun _ _ _ h => h) (Or.inl ⟨by rfl, ?_⟩) (by assumption) ?_
    rotate_left
    · intro w hSw
      (try dsimp only at hSw)
      go_simp
      try (with_reducible rfl)
    try simp only [Act.put, List.setIfInBounds_toArray, List.set_cons_zero, List.set_cons_succ]
    refine wpAnyH_ready (rs := [6]) (by kernel_rfl) (by simp) ?_
    refine AllReadyH.cons (o := { dst := none, op := Go.Op.mapUpdate 62 (Go.Operand.tmp 17) (Go.Operand.tmp 18) (Go.Operand.tmp 19), type := 0, pos := "rib.go:77", after := #[{ on := 3, ground := Go.Ground.data }, { on := 4, ground := Go.Ground.data }, { on := 5, ground := Go.Ground.data }, { on := 0, ground := Go.Ground.phase }, { on := 1, ground := Go.Ground.phase }, { on := 2, ground := Go.Ground.phase }, { on := 3, ground := Go.Ground.phase }, { on := 4, ground := Go.Ground.phase }, { on := 5, ground := Go.Ground.phase }], guard := none }) rfl (fun K hK => ?_) AllReadyH.nil
    rw [if_pos (by rfl)]
    refine wpo_mset keyPf (.tmp 17) (.tmp 18) (.tmp 19) 62 38 rfl Tryd.underlying62 rfl ((ps, ph, pl), pb) rfl (.slice A (k + 1) c) rfl HM.out (fun w2 hM2 hT2 hs2 => ?_)
    have HH := Lib.hid (And.intro hM2 hT2)
    clear hM2 hT2 hs2
    refine hK.out _ _ ?_ (fun hHeld => ?_)
    · (first | exact HCells.out _ (Tch.refl _ _) | exact HCells.out _ HH.out.2)
    clear hK K
    try simp only [Act.put]
    refine wpAnyH_done (by kernel_rfl) ?_ _
    go_wp2
    go_end0
    exact ⟨rfl, HH.out.1, (HT0.out.mono (by simp)).trans HH.out.2⟩
set_option maxRecDepth 100000 in
set_option maxHeartbeats 2000000 in
theorem newP (w : World) : Calls Tryd.prog 11 #[] w fun e w' => ∃ t S, e = .returned (.pointer (some ⟨t, 0, none⟩)) ∧ RbP w' t S [] ∧ Below w.heap.size w w' ∧ ∀ s ∈ S, w.heap.size ≤ s := by
  have HF : Hid (RbP ((w.alloc (.map #[] 0)).alloc (.cells #[.map (some w.heap.size)] 64)) (w.heap.size + 1) [w.heap.size + 1, w.heap.size] []) := Lib.hid (by
    have hb := Blk.new (w.alloc (.map #[] 0)) 64 #[.map (some w.heap.size)]
    rw [World.size_alloc] at hb
    refine ⟨w.heap.size, [], rfl, by simp, hb, ⟨#[], 0, ?_, rfl, by simp, by simp, by simp⟩, by simp, fun p hp => by simp [pathsI] at hp, InvB.nil, by simp⟩
    exact (MapKept.heap_alloc _ _).2 _ (by simp) |>.trans (MapKept.heap_alloc w _).1)
  have HB : Hid (Below w.heap.size w ((w.alloc (.map #[] 0)).alloc (.cells #[.map (some w.heap.size)] 64))) := Lib.hid (((Below.refl _ w).alloc (Nat.le_refl _) _).alloc (by simp) _)
  have hmm := @run_makeMap Tryd.prog
  go_enter Tryd.func11, Tryd.ntmps11
  go_wp2
  go_ret
  exact ⟨_, _, rfl, HF.out, HB.out, by simp⟩
end Go.Proofs.YtjlmgkdieffjcaaDoor
