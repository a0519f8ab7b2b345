/-
  crosswaylaw18.MeterTokens returns true for every input, and leaves its arguments alone.
  Conditions: none of our own.
-/
import Derived.Test.YtimcjfklnjompaaMtD
namespace Go.Proofs.Ytimcjfklnjompaa
open Go.ChangeShapes Go.WideShapes Go.ChangeAt Go.RowKit
set_option linter.unusedVariables false
namespace MTok
/-- Both side by side. -/
structure Two (w wr : World) (p q : Nat) (r b l : Int) : Prop where
  bs : BStd w wr p r b l
  d : BkD wr q r b l
  ne : p ≠ q
  abv : w.heap.size ≤ q
theorem Two.drewN {w wr : World} {p q : Nat} {r b l : Int} (h : Two w wr p q r b l) (n : Nat) : Two w (wr.drewN n) p q r b l := ⟨h.bs.drewN n, h.d.drewN n, h.ne, h.abv⟩
theorem Two.bel2 {w wr w' w2 : World} {p q : Nat} {r b l l' : Int} (h : Two w wr p q r b l) (h1 : BStd w w' p r b l') (h2 : BkD w2 q r b l') (t : Tch w' w2 [q]) : Two w w2 p q r b l' :=
  ⟨⟨h1.bk.tch t (by simp; exact h.ne), h1.bel.trans (t.below h1.bel.size (by simp; exact h.abv)), h1.abv, h1.bd, h1.rb⟩, h2, h.ne, h.abv⟩
set_option maxRecDepth 100000 in
set_option maxHeartbeats 3000000 in
theorem walk (w : World) (a0 : Int) (w0 : (Lit.int .i64 a0).wf = true) (a1 : Int) (w1 : (Lit.int .i64 a1).wf = true) (a2 : Option Addr) (l2 c2 : Nat) (z2 : List Stp) (w2 : IsStp w a2 l2 z2) :
    Calls Try.prog 4 #[.int .i64 a0, .int .i64 a1, .slice a2 l2 c2] w fun e w' => e = .returned (.bool true) ∧ Below w.heap.size w w' := by
  have HZ := Lib.hid w2
  clear w0 w1 w2
  by_cases hok : (rtB a0 && rtB a1) = true
  · have HB := Lib.hid (fun W hb => bucketS (w := w) (wr := W) hb a0 a1 hok)
    obtain ⟨⟨d0, d1⟩, d2, d3⟩ : (decide (0 ≤ a0) = true ∧ decide (a0 ≤ 1048576) = true) ∧ decide (0 ≤ a1) = true ∧ decide (a1 ≤ 1048576) = true := by simpa [rtB] using hok
    clear hok
    go_enter Try.func4, Try.ntmps4
    go_wp2_with fail
    refine Calls.mono (awake_yes w) ?_
    rintro e x1 ⟨rfl, hb1⟩
    have H := Lib.hid (HB.out x1 hb1)
    clear hb1 HB
    go_wp2_with fail
    refine Calls.mono H.out ?_
    rintro e x2 ⟨p, rfl, hS⟩
    have S2 := Lib.hid hS
    clear hS H
    go_wp2
    go_loopw [12] (fun iv wr => ∃ (j : Nat) (l : Int), iv = .int .i64 (j : Int) ∧ j ≤ 200 ∧ Hid (Two w wr p x2.heap.size a0 a1 l)) (fun iv _ => 200 - (intOf iv).toNat)
    case atStart => exact ⟨0, a1, rfl, by omega, Lib.hid ⟨⟨S2.out.bk.alloc _, S2.out.bel.alloc S2.out.bel.size _, S2.out.abv, S2.out.bd, S2.out.rb⟩, Blk.new _ _ _, Nat.ne_of_lt S2.out.bk.lt, S2.out.bel.size⟩⟩
    case round =>
      obtain ⟨j, l, rfl, hj2, hE⟩ := hrel
      by_cases hlt : j < l2 ∧ j < 200
      · obtain ⟨h1, h2⟩ := hlt
        obtain ⟨g, o, t, n, rfl, hg, -, -, hcl⟩ := HZ.out.step h1
        have HCl := Lib.hid hcl
        obtain ⟨c0, c1⟩ := hcl wr hE.out.bs.bel
        have hjI : (j : Int) < l2 := by omega
        have hjI2 : (j : Int) < 200 := by omega
        have hj0 : (0 : Int) ≤ j := by omega
        have j3 : IntKind.i64.wrap ((j : Int) + 1) = (j : Int) + 1 := by rw [IntKind.wrap_i64]; omega
        have HG := Lib.hid hg
        clear hcl hg
        cases t
        · obtain ⟨B, hB⟩ : ∃ B, tkB l n = B := ⟨_, rfl⟩
          obtain ⟨L, hL⟩ : ∃ L, tkL l n = L := ⟨_, rfl⟩
          have H1 : Hid (Calls Try.prog 13 #[ptrV p, .int .i64 n] wr.drew fun e w' => e = .returned (.bool B) ∧ BStd w w' p a0 a1 L ∧ Tch wr.drew w' [p]) := Lib.hid (by rw [← hB, ← hL]; exact hE.out.bs.drew.take n)
          have H2 : Hid (∀ w5, BkD w5 x2.heap.size a0 a1 l → Calls Try.prog 14 #[ptrV x2.heap.size, .int .i64 n] w5 fun e w' => e = .returned (.bool B) ∧ BkD w' x2.heap.size a0 a1 L ∧ Tch w5 w' [x2.heap.size]) := Lib.hid (by rw [← hB, ← hL]; exact fun w5 h5 => dtake_any h5 (by have := hE.out.bs.bd; have := hE.out.bs.rb; omega) n)
          clear hB hL
          go_wp2_with fail
          clear c0 c1
          refine wp_region_held_drew (S := (fun W => W.cell? ⟨g, o + j * 2 + 1, none⟩ = some (.int .i64 n))) (by kernel_rfl) ?_ (fun hHeld => ?_)
          · (first | exact (HCl.out _ hE.out.bs.bel).2 | exact (HCl.out _ E3.out.1.bel).2 | exact (HCl.out _ E4.out.bs.bel).2)
          refine wpAnyH_take (i := 0) (oi := { dst := some 83, op := Go.Op.move (Go.Operand.tmp 8), type := 29, pos := "law.go:127", after := #[], guard := none }) (v := ?_) rfl (by kernel_rfl) (by kernel_rfl) (by kernel_rfl) (fun _ _ _ h => h) (Or.inl ⟨by rfl, ?_⟩) (by assumption) ?_
          rotate_left
          · intro w hSw
            (try dsimp only at hSw)
            go_simp
            try (with_reducible rfl)
          try simp only [Act.put, List.setIfInBounds_toArray, List.set_cons_zero, List.set_cons_succ]
          refine wpAnyH_take (i := 1) (oi := { dst := some 84, op := Go.Op.move (Go.Operand.tmp 2), type := 28, pos := "law.go:127", after := #[], guard := none }) (v := ?_) rfl (by kernel_rfl) (by kernel_rfl) (by kernel_rfl) (fun _ _ _ h => h) (Or.inl ⟨by rfl, ?_⟩) (by assumption) ?_
          rotate_left
          · intro w hSw
            (try dsimp only at hSw)
            go_simp
            try (with_reducible rfl)
          try simp only [Act.put, List.setIfInBounds_toArray, List.set_cons_zero, List.set_cons_succ]
          refine wpAnyH_take (i := 2) (oi := { dst := some 85, op := Go.Op.move (Go.Operand.tmp 12), type := 3, pos := "law.go:127", after := #[], guard := none }) (v := ?_) rfl (by kernel_rfl) (by kernel_rfl) (by kernel_rfl) (fun _ _ _ h => h) (Or.inl ⟨by rfl, ?_⟩) (by assumption) ?_
          rotate_left
          · intro w hSw
            (try dsimp only at hSw)
            go_simp
            try (with_reducible rfl)
          try simp only [Act.put, List.setIfInBounds_toArray, List.set_cons_zero, List.set_cons_succ]
          refine wpAnyH_take (i := 3) (oi := { dst := some 86, op := Go.Op.indexAddr 28 (Go.Operand.tmp 84) (Go.Operand.tmp 85), type := 0, pos := "law.go:127", after := #[{ on := 1, ground := Go.Ground.data }, { on := 2, ground := Go.Ground.data }], guard := none }) (v := ?_) rfl (by kernel_rfl) (by kernel_rfl) (by kernel_rfl) (fun _ _ _ h => h) (Or.inl ⟨by rfl, ?_⟩) (by assumption) ?_
          rotate_left
          · intro w hSw
            (try dsimp only at hSw)
            go_simp
            try (with_reducible rfl)
          try simp only [Act.put, List.setIfInBounds_toArray, List.set_cons_zero, List.set_cons_succ]
          refine wpAnyH_take (i := 4) (oi := { dst := some 87, op := Go.Op.fieldAddr 37 (Go.Operand.tmp 86) 1, type := 0, pos := "law.go:127", after := #[{ on := 3, ground := Go.Ground.data }], guard := none }) (v := ?_) rfl (by kernel_rfl) (by kernel_rfl) (by kernel_rfl) (fun _ _ _ h => h) (Or.inl ⟨by rfl, ?_⟩) (by assumption) ?_
          rotate_left
          · intro w hSw
            (try dsimp only at hSw)
            go_simp
            try (with_reducible rfl)
          try simp only [Act.put, List.setIfInBounds_toArray, List.set_cons_zero, List.set_cons_succ]
          refine wpAnyH_take (i := 5) (oi := { dst := some 88, op := Go.Op.load 3 (Go.Operand.tmp 87), type := 3, pos := "law.go:127", after := #[{ on := 4, ground := Go.Ground.data }], guard := none }) (v := ?_) rfl (by kernel_rfl) (by kernel_rfl) (by kernel_rfl) (fun _ _ _ h => h) (Or.inl ⟨by rfl, ?_⟩) (by assumption) ?_
          rotate_left
          · intro w hSw
            (try dsimp only at hSw)
            go_simp
            try (with_reducible rfl)
          try simp only [Act.put, List.setIfInBounds_toArray, List.set_cons_zero, List.set_cons_succ]
          refine wpAnyH_take (i := 7) (oi := { dst := some 90, op := Go.Op.move (Go.Operand.tmp 11), type := 33, pos := "law.go:127", after := #[], guard := none }) (v := ?_) rfl (by kernel_rfl) (by kernel_rfl) (by kernel_rfl) (fun _ _ _ h => h) (Or.inl ⟨by rfl, ?_⟩) (by assumption) ?_
          rotate_left
          · intro w hSw
            (try dsimp only at hSw)
            go_simp
            try (with_reducible rfl)
          try simp only [Act.put, List.setIfInBounds_toArray, List.set_cons_zero, List.set_cons_succ]
          refine wpAnyH_take (i := 8) (oi := { dst := some 91, op := Go.Op.move (Go.Operand.tmp 2), type := 28, pos := "law.go:127", after := #[], guard := none }) (v := ?_) rfl (by kernel_rfl) (by kernel_rfl) (by kernel_rfl) (fun _ _ _ h => h) (Or.inl ⟨by rfl, ?_⟩) (by assumption) ?_
          rotate_left
          · intro w hSw
            (try dsimp only at hSw)
            go_simp
            try (with_reducible rfl)
          try simp only [Act.put, List.setIfInBounds_toArray, List.set_cons_zero, List.set_cons_succ]
          refine wpAnyH_take (i := 9) (oi := { dst := some 92, op := Go.Op.move (Go.Operand.tmp 12), type := 3, pos := "law.go:127", after := #[], guard := none }) (v := ?_) rfl (by kernel_rfl) (by kernel_rfl) (by kernel_rfl) (fun _ _ _ h => h) (Or.inl ⟨by rfl, ?_⟩) (by assumption) ?_
          rotate_left
          · intro w hSw
            (try dsimp only at hSw)
            go_simp
            try (with_reducible rfl)
          try simp only [Act.put, List.setIfInBounds_toArray, List.set_cons_zero, List.set_cons_succ]
          refine wpAnyH_take (i := 10) (oi := { dst := some 93, op := Go.Op.indexAddr 28 (Go.Operand.tmp 91) (Go.Operand.tmp 92), type := 0, pos := "law.go:127", after := #[{ on := 8, ground := Go.Ground.data }, { on := 9, ground := Go.Ground.data }], guard := none }) (v := ?_) rfl (by kernel_rfl) (by kernel_rfl) (by kernel_rfl) (fun _ _ _ h => h) (Or.inl ⟨by rfl, ?_⟩) (by assumption) ?_
          rotate_left
          · intro w hSw
            (try dsimp only at hSw)
            go_simp
            try (with_reducible rfl)
          try simp only [Act.put, List.setIfInBounds_toArray, List.set_cons_zero, List.set_cons_succ]
          refine wpAnyH_take (i := 11) (oi := { dst := some 94, op := Go.Op.fieldAddr 37 (Go.Operand.tmp 93) 1, type := 0, pos := "law.go:127", after := #[{ on := 10, ground := Go.Ground.data }], guard := none }) (v := ?_) rfl (by kernel_rfl) (by kernel_rfl) (by kernel_rfl) (fun _ _ _ h => h) (Or.inl ⟨by rfl, ?_⟩) (by assumption) ?_
          rotate_left
          · intro w hSw
            (try dsimp only at hSw)
            go_simp
            try (with_reducible rfl)
          try simp only [Act.put, List.setIfInBounds_toArray, List.set_cons_zero, List.set_cons_succ]
          refine wpAnyH_take (i := 12) (oi := { dst := some 95, op := Go.Op.load 3 (Go.Operand.tmp 94), type := 3, pos := "law.go:127", after := #[{ on := 11, ground := Go.Ground.data }], guard := none }) (v := ?_) rfl (by kernel_rfl) (by kernel_rfl) (by kernel_rfl) (fun _ _ _ h => h) (Or.inl ⟨by rfl, ?_⟩) (by assumption) ?_
          rotate_left
          · intro w hSw
            (try dsimp only at hSw)
            go_simp
            try (with_reducible rfl)
          try simp only [Act.put, List.setIfInBounds_toArray, List.set_cons_zero, List.set_cons_succ]
          refine wpAnyH_ready (rs := [6]) (by kernel_rfl) (by simp) ?_
          refine AllReadyH.cons (o := { dst := some 89, op := Go.Op.call { callee := Go.Callee.value (Go.Operand.func 13), args := #[Go.Operand.tmp 83, Go.Operand.tmp 88], argTypes := #[29, 3] }, type := 4, pos := "law.go:127", after := #[{ on := 0, ground := Go.Ground.data }, { on := 5, ground := Go.Ground.data }], guard := none }) rfl (fun K hK => ?_) AllReadyH.nil
          go_simp
          (go_at_call 13; (with_reducible refine Calls.mono H1.out ?_); rintro e w3 ⟨rfl, hb3, ht3⟩; have E3 := Lib.hid (And.intro hb3 (BkD.tch (Blk.drew hE.out.d) ht3 (by simp; exact Ne.symm hE.out.ne))); clear hb3 ht3)
          go_wp2_with fail
          refine hK.out _ _ ?_ (fun hHeld => ?_)
          · (first | exact (HCl.out _ hE.out.bs.bel).2 | exact (HCl.out _ E3.out.1.bel).2 | exact (HCl.out _ E4.out.bs.bel).2)
          clear hK K
          try simp only [Act.put, List.setIfInBounds_toArray, List.set_cons_zero, List.set_cons_succ]
          refine wpAnyH_ready (rs := [13]) (by kernel_rfl) (by simp) ?_
          refine AllReadyH.cons (o := { dst := some 96, op := Go.Op.call { callee := Go.Callee.value (Go.Operand.func 14), args := #[Go.Operand.tmp 90, Go.Operand.tmp 95], argTypes := #[33, 3] }, type := 4, pos := "law.go:127", after := #[{ on := 7, ground := Go.Ground.data }, { on := 12, ground := Go.Ground.data }, { on := 6, ground := Go.Ground.chain }], guard := none }) rfl (fun K hK => ?_) AllReadyH.nil
          go_simp
          (go_at_call 14; (with_reducible refine Calls.mono (H2.out _ E3.out.2) ?_); rintro e w4 ⟨rfl, hb4, ht4⟩; have E4 := Lib.hid (hE.out.bel2 E3.out.1 hb4 ht4); clear hb4 ht4)
          go_wp2_with fail
          refine hK.out _ _ ?_ (fun hHeld => ?_)
          · (first | exact (HCl.out _ hE.out.bs.bel).2 | exact (HCl.out _ E3.out.1.bel).2 | exact (HCl.out _ E4.out.bs.bel).2)
          clear hK K
          try simp only [Act.put, List.setIfInBounds_toArray, List.set_cons_zero, List.set_cons_succ]
          refine wpAnyH_take (i := 14) (oi := { dst := some 97, op := Go.Op.binOp Go.BinOp.neq 4 (Go.Operand.tmp 89) (Go.Operand.tmp 96) 4, type := 4, pos := "law.go:127", after := #[{ on := 6, ground := Go.Ground.data }, { on := 13, ground := Go.Ground.data }], guard := none }) (v := ?_) rfl (by kernel_rfl) (by kernel_rfl) (by kernel_rfl) (fun _ _ _ h => h) (Or.inl ⟨by rfl, ?_⟩) (by assumption) ?_
          rotate_left
          · intro w hSw
            (try dsimp only at hSw)
            go_simp
            try (with_reducible rfl)
          try simp only [Act.put, List.setIfInBounds_toArray, List.set_cons_zero, List.set_cons_succ]
          refine wpAnyH_done (by kernel_rfl) ?_ _
          have HLv := Lib.hid E4.out.bs.drew.level
          have q0 : w4.cell? ⟨x2.heap.size, 2, none⟩ = some (.int .i64 L) := (E4.out.d.cell 2).trans rfl
          have q1 : w4.drew.cell? ⟨x2.heap.size, 2, none⟩ = some (.int .i64 L) := q0
          go_wp2_with fail
          refine wp_region_held_drew (S := (fun W => W.cell? ⟨x2.heap.size, 2, none⟩ = some (.int .i64 L))) (by kernel_rfl) ?_ (fun hHeld => ?_)
          · (first | exact q0 | exact q1)
          refine wpAnyH_take (i := 0) (oi := { dst := some 98, op := Go.Op.move (Go.Operand.tmp 8), type := 29, pos := "law.go:130", after := #[], guard := none }) (v := ?_) rfl (by kernel_rfl) (by kernel_rfl) (by kernel_rfl) (fun _ _ _ h => h) (Or.inl ⟨by rfl, ?_⟩) (by assumption) ?_
          rotate_left
          · intro w hSw
            (try dsimp only at hSw)
            go_simp
            try (with_reducible rfl)
          try simp only [Act.put, List.setIfInBounds_toArray, List.set_cons_zero, List.set_cons_succ]
          refine wpAnyH_take (i := 2) (oi := { dst := some 100, op := Go.Op.move (Go.Operand.tmp 11), type := 33, pos := "law.go:130", after := #[], guard := none }) (v := ?_) rfl (by kernel_rfl) (by kernel_rfl) (by kernel_rfl) (fun _ _ _ h => h) (Or.inl ⟨by rfl, ?_⟩) (by assumption) ?_
          rotate_left
          · intro w hSw
            (try dsimp only at hSw)
            go_simp
            try (with_reducible rfl)
          try simp only [Act.put, List.setIfInBounds_toArray, List.set_cons_zero, List.set_cons_succ]
          refine wpAnyH_take (i := 3) (oi := { dst := some 101, op := Go.Op.nilCheck (Go.Operand.tmp 100), type := 0, pos := "law.go:130", after := #[{ on := 2, ground := Go.Ground.data }], guard := none }) (v := ?_) rfl (by kernel_rfl) (by kernel_rfl) (by kernel_rfl) (fun _ _ _ h => h) (Or.inl ⟨by rfl, ?_⟩) (by assumption) ?_
          rotate_left
          · intro w hSw
            (try dsimp only at hSw)
            go_simp
            try (with_reducible rfl)
          try simp only [Act.put, List.setIfInBounds_toArray, List.set_cons_zero, List.set_cons_succ]
          refine wpAnyH_take (i := 4) (oi := { dst := some 102, op := Go.Op.fieldAddr 35 (Go.Operand.tmp 101) 2, type := 0, pos := "law.go:130", after := #[{ on := 3, ground := Go.Ground.data }], guard := none }) (v := ?_) rfl (by kernel_rfl) (by kernel_rfl) (by kernel_rfl) (fun _ _ _ h => h) (Or.inl ⟨by rfl, ?_⟩) (by assumption) ?_
          rotate_left
          · intro w hSw
            (try dsimp only at hSw)
            go_simp
            try (with_reducible rfl)
          try simp only [Act.put, List.setIfInBounds_toArray, List.set_cons_zero, List.set_cons_succ]
          refine wpAnyH_take (i := 5) (oi := { dst := some 103, op := Go.Op.load 3 (Go.Operand.tmp 102), type := 3, pos := "law.go:130", after := #[{ on := 4, ground := Go.Ground.data }], guard := none }) (v := ?_) rfl (by kernel_rfl) (by kernel_rfl) (by kernel_rfl) (fun _ _ _ h => h) (Or.inl ⟨by rfl, ?_⟩) (by assumption) ?_
          rotate_left
          · intro w hSw
            (try dsimp only at hSw)
            go_simp
            try (with_reducible rfl)
          try simp only [Act.put, List.setIfInBounds_toArray, List.set_cons_zero, List.set_cons_succ]
          refine wpAnyH_ready (rs := [1]) (by kernel_rfl) (by simp) ?_
          refine AllReadyH.cons (o := { dst := some 99, op := Go.Op.call { callee := Go.Callee.value (Go.Operand.func 15), args := #[Go.Operand.tmp 98], argTypes := #[29] }, type := 3, pos := "law.go:130", after := #[{ on := 0, ground := Go.Ground.data }], guard := none }) rfl (fun K hK => ?_) AllReadyH.nil
          go_simp
          (go_at_call 15; (with_reducible refine Calls.mono HLv.out ?_); rintro e w5 ⟨rfl, rfl⟩)
          go_wp2_with fail
          refine hK.out _ _ ?_ (fun hHeld => ?_)
          · (first | exact q0 | exact q1)
          clear hK K
          try simp only [Act.put, List.setIfInBounds_toArray, List.set_cons_zero, List.set_cons_succ]
          refine wpAnyH_take (i := 6) (oi := { dst := some 104, op := Go.Op.binOp Go.BinOp.neq 3 (Go.Operand.tmp 99) (Go.Operand.tmp 103) 3, type := 4, pos := "law.go:130", after := #[{ on := 1, ground := Go.Ground.data }, { on := 5, ground := Go.Ground.data }], guard := none }) (v := ?_) rfl (by kernel_rfl) (by kernel_rfl) (by kernel_rfl) (fun _ _ _ h => h) (Or.inl ⟨by rfl, ?_⟩) (by assumption) ?_
          rotate_left
          · intro w hSw
            (try dsimp only at hSw)
            go_simp
            try (with_reducible rfl)
          try simp only [Act.put, List.setIfInBounds_toArray, List.set_cons_zero, List.set_cons_succ]
          refine wpAnyH_done (by kernel_rfl) ?_ _
          go_wp2
          go_roundw
          case rel => exact ⟨j + 1, L, by go_num, by omega, Lib.hid (E4.out.drewN 1)⟩
          case measure => simp [intOf]; omega
        · obtain ⟨L, hL⟩ : ∃ L, tiL a0 a1 l = L := ⟨_, rfl⟩
          have H1 := hE.out.bs.tick
          rw [hL] at H1
          have H1 := Lib.hid H1
          have H2 : Hid (∀ w5, BkD w5 x2.heap.size a0 a1 l → Calls Try.prog 12 #[ptrV x2.heap.size] w5 fun e w' => e = .returned (.tuple #[]) ∧ BkD w' x2.heap.size a0 a1 L ∧ Tch w5 w' [x2.heap.size]) := Lib.hid (by rw [← hL]; exact fun w5 h5 => dtick_any h5 (by have := hE.out.bs.bd; have := hE.out.bs.rb; omega) (by have := hE.out.bs.rb; omega))
          clear hL
          go_wp2_with fail
          refine Calls.mono H1.out ?_
          rintro e w3 ⟨rfl, hb3, ht3⟩
          have E3 := Lib.hid (And.intro hb3 (BkD.tch hE.out.d ht3 (by simp; exact Ne.symm hE.out.ne)))
          clear hb3 ht3 c0 c1
          go_wp2_with fail
          refine Calls.mono (H2.out _ E3.out.2) ?_
          rintro e w4 ⟨rfl, hb4, ht4⟩
          have E4 := Lib.hid (hE.out.bel2 E3.out.1 hb4 ht4)
          clear hb4 ht4
          have HLv := Lib.hid E4.out.bs.drew.level
          have q0 : w4.cell? ⟨x2.heap.size, 2, none⟩ = some (.int .i64 L) := (E4.out.d.cell 2).trans rfl
          have q1 : w4.drew.cell? ⟨x2.heap.size, 2, none⟩ = some (.int .i64 L) := q0
          go_wp2_with fail
          refine wp_region_held_drew (S := (fun W => W.cell? ⟨x2.heap.size, 2, none⟩ = some (.int .i64 L))) (by kernel_rfl) ?_ (fun hHeld => ?_)
          · (first | exact q0 | exact q1)
          refine wpAnyH_take (i := 0) (oi := { dst := some 98, op := Go.Op.move (Go.Operand.tmp 8), type := 29, pos := "law.go:130", after := #[], guard := none }) (v := ?_) rfl (by kernel_rfl) (by kernel_rfl) (by kernel_rfl) (fun _ _ _ h => h) (Or.inl ⟨by rfl, ?_⟩) (by assumption) ?_
          rotate_left
          · intro w hSw
            (try dsimp only at hSw)
            go_simp
            try (with_reducible rfl)
          try simp only [Act.put, List.setIfInBounds_toArray, List.set_cons_zero, List.set_cons_succ]
          refine wpAnyH_take (i := 2) (oi := { dst := some 100, op := Go.Op.move (Go.Operand.tmp 11), type := 33, pos := "law.go:130", after := #[], guard := none }) (v := ?_) rfl (by kernel_rfl) (by kernel_rfl) (by kernel_rfl) (fun _ _ _ h => h) (Or.inl ⟨by rfl, ?_⟩) (by assumption) ?_
          rotate_left
          · intro w hSw
            (try dsimp only at hSw)
            go_simp
            try (with_reducible rfl)
          try simp only [Act.put, List.setIfInBounds_toArray, List.set_cons_zero, List.set_cons_succ]
          refine wpAnyH_take (i := 3) (oi := { dst := some 101, op := Go.Op.nilCheck (Go.Operand.tmp 100), type := 0, pos := "law.go:130", after := #[{ on := 2, ground := Go.Ground.data }], guard := none }) (v := ?_) rfl (by kernel_rfl) (by kernel_rfl) (by kernel_rfl) (fun _ _ _ h => h) (Or.inl ⟨by rfl, ?_⟩) (by assumption) ?_
          rotate_left
          · intro w hSw
            (try dsimp only at hSw)
            go_simp
            try (with_reducible rfl)
          try simp only [Act.put, List.setIfInBounds_toArray, List.set_cons_zero, List.set_cons_succ]
          refine wpAnyH_take (i := 4) (oi := { dst := some 102, op := Go.Op.fieldAddr 35 (Go.Operand.tmp 101) 2, type := 0, pos := "law.go:130", after := #[{ on := 3, ground := Go.Ground.data }], guard := none }) (v := ?_) rfl (by kernel_rfl) (by kernel_rfl) (by kernel_rfl) (fun _ _ _ h => h) (Or.inl ⟨by rfl, ?_⟩) (by assumption) ?_
          rotate_left
          · intro w hSw
            (try dsimp only at hSw)
            go_simp
            try (with_reducible rfl)
          try simp only [Act.put, List.setIfInBounds_toArray, List.set_cons_zero, List.set_cons_succ]
          refine wpAnyH_take (i := 5) (oi := { dst := some 103, op := Go.Op.load 3 (Go.Operand.tmp 102), type := 3, pos := "law.go:130", after := #[{ on := 4, ground := Go.Ground.data }], guard := none }) (v := ?_) rfl (by kernel_rfl) (by kernel_rfl) (by kernel_rfl) (fun _ _ _ h => h) (Or.inl ⟨by rfl, ?_⟩) (by assumption) ?_
          rotate_left
          · intro w hSw
            (try dsimp only at hSw)
            go_simp
            try (with_reducible rfl)
          try simp only [Act.put, List.setIfInBounds_toArray, List.set_cons_zero, List.set_cons_succ]
          refine wpAnyH_ready (rs := [1]) (by kernel_rfl) (by simp) ?_
          refine AllReadyH.cons (o := { dst := some 99, op := Go.Op.call { callee := Go.Callee.value (Go.Operand.func 15), args := #[Go.Operand.tmp 98], argTypes := #[29] }, type := 3, pos := "law.go:130", after := #[{ on := 0, ground := Go.Ground.data }], guard := none }) rfl (fun K hK => ?_) AllReadyH.nil
          go_simp
          (go_at_call 15; (with_reducible refine Calls.mono HLv.out ?_); rintro e w5 ⟨rfl, rfl⟩)
          go_wp2_with fail
          refine hK.out _ _ ?_ (fun hHeld => ?_)
          · (first | exact q0 | exact q1)
          clear hK K
          try simp only [Act.put, List.setIfInBounds_toArray, List.set_cons_zero, List.set_cons_succ]
          refine wpAnyH_take (i := 6) (oi := { dst := some 104, op := Go.Op.binOp Go.BinOp.neq 3 (Go.Operand.tmp 99) (Go.Operand.tmp 103) 3, type := 4, pos := "law.go:130", after := #[{ on := 1, ground := Go.Ground.data }, { on := 5, ground := Go.Ground.data }], guard := none }) (v := ?_) rfl (by kernel_rfl) (by kernel_rfl) (by kernel_rfl) (fun _ _ _ h => h) (Or.inl ⟨by rfl, ?_⟩) (by assumption) ?_
          rotate_left
          · intro w hSw
            (try dsimp only at hSw)
            go_simp
            try (with_reducible rfl)
          try simp only [Act.put, List.setIfInBounds_toArray, List.set_cons_zero, List.set_cons_succ]
          refine wpAnyH_done (by kernel_rfl) ?_ _
          go_wp2
          go_roundw
          case rel => exact ⟨j + 1, L, by go_num, by omega, Lib.hid (E4.out.drewN 1)⟩
          case measure => simp [intOf]; omega
      · have hc : ¬ ((j : Int) < l2) ∨ ¬ ((j : Int) < 200) := by omega
        have HEb := Lib.hid hE.out.bs.bel
        by_cases h1 : (j : Int) < l2
        · have h2 : ¬ (j : Int) < 200 := by omega
          go_wp2
          go_ret
          exact ⟨rfl, HEb.out⟩
        · go_wp2
          go_ret
          exact ⟨rfl, HEb.out⟩
  · have hbad : (rtB a0 && rtB a1) = false := by simpa using hok
    have HB := Lib.hid (fun W => bucket_bad W a0 a1 hbad)
    have hcs : (decide (0 ≤ a0) = false) ∨ (decide (0 ≤ a0) = true ∧ decide (a0 ≤ 1048576) = false) ∨ (decide (0 ≤ a0) = true ∧ decide (a0 ≤ 1048576) = true ∧ decide (0 ≤ a1) = false) ∨ (decide (0 ≤ a0) = true ∧ decide (a0 ≤ 1048576) = true ∧ decide (0 ≤ a1) = true ∧ decide (a1 ≤ 1048576) = false) := by
      unfold rtB at hbad
      cases h1 : decide (0 ≤ a0) <;> cases h2 : decide (a0 ≤ 1048576) <;> cases h3 : decide (0 ≤ a1) <;> cases h4 : decide (a1 ≤ 1048576) <;> simp_all
    clear hok hbad HZ
    rcases hcs with d0 | ⟨d0, d1⟩ | ⟨d0, d1, d2⟩ | ⟨d0, d1, d2, d3⟩
    all_goals
      go_enter Try.func4, Try.ntmps4
      go_wp2_with fail
      refine Calls.mono (awake_yes w) ?_
      rintro e x1 ⟨rfl, hb1⟩
      have B1 := Lib.hid hb1
      clear hb1
      go_wp2_with fail
      refine Calls.mono (HB.out x1) ?_
      rintro e w' ⟨rfl, rfl⟩
      go_wp2
      go_loopw [12] (fun iv wr => iv = .int .i64 0 ∧ Hid (Below w.heap.size w wr)) (fun iv _ => 0)
      case atStart => exact ⟨rfl, Lib.hid (B1.out.alloc B1.out.size _)⟩
      case round =>
        obtain ⟨rfl, hE⟩ := hrel
        go_wp2
        go_ret
        exact ⟨rfl, hE.out⟩
set_option maxRecDepth 100000 in
theorem contract (H : Type) (enc : TypeId × Value → H) (W : World) (base : Nat) (args : Array Value) (ds gs : List (DataW H)) (before : List MemPlace)
    (hval0 : ∀ (j : Nat) t v, Try.f4.params[j]? = some t → args[j]? = some v → Value.okWide Try.prog W .any base t v)
    (hW : DataW.Whole enc Try.prog Try.f4.params.toList Rows.meterTokensSpec.vars false W args.toList ds gs before)
    (hsz0 : (DataW.weightsEach Try.prog (Try.f4.params.toList ++ Rows.meterTokensSpec.plain.varTypes Try.prog) (ds ++ gs)).all (· ≤ reachBytes) = true) :
    Calls Try.prog 4 args W fun e W' => ∃ v, e = .returned v ∧ Rows.meterTokensSpec.post enc Try.prog Try.f4 false true false false W args v W' := by
  have hsz := hsz0
  clear hsz0
  have hval := hval0
  clear hval0
  have hW' := hW
  obtain ⟨p, q, hA0, hV, rfl, hfz, hnd⟩ := hW
  have hA : DataW.TrodAll enc Try.prog W 0 (fun _ => true) true Try.f4.params.toList args.toList ds p := hA0
  rw [Try.params4] at hA hval hsz
  obtain ⟨v0, vs0, d0, ds0, p0, q0, hargs, rfl, rfl, h0, r0⟩ := trodAll_cons hA
  obtain ⟨v1, vs1, d1, ds1, p1, q1, rfl, rfl, rfl, h1, r1⟩ := trodAll_cons r0
  obtain ⟨v2, vs2, d2, ds2, p2, q2, rfl, rfl, rfl, h2, r2⟩ := trodAll_cons r1
  obtain ⟨rfl, rfl, rfl⟩ := trodAll_nil r2
  obtain rfl : args = #[v0, v1, v2] := by cases args; simp_all
  obtain ⟨rfl, rfl⟩ := trodVars_none hV
  obtain ⟨a0, rfl, rfl, rfl, w0⟩ := open_int Try.underlying3 (hval 0 3 v0 rfl rfl) h0
  obtain ⟨a1, rfl, rfl, rfl, w1⟩ := open_int Try.underlying3 (hval 1 3 v1 rfl rfl) h1
  obtain ⟨a2, l2, c2, rfl⟩ := okWide_slice Try.underlying28 (hval 2 28 v2 rfl rfl)
  have k2 := h2
  have lt2 : ∀ x ∈ p2, x.block < W.heap.size := by obtain ⟨m, hm⟩ := k2; exact DataW.trod_lt m _ _ _ hm
  obtain ⟨z2, w2⟩ := isStp_of h2
  clear hA0
  refine (walk W a0 w0 a1 w1 a2 l2 c2 z2 w2).mono fun e W' ⟨he, bel⟩ => ?_
  subst he
  exact ⟨_, rfl, _, _, _, [], _, [], hW', trodAll_mk1 (shut_bool Try.underlying4 _), (trodAll_cons_mk (shut_int Try.underlying3 w0) (trodAll_cons_mk (shut_int Try.underlying3 w1) (trodAll_cons_mk (Below.trod laidOut (by kernel_rfl) (of_decide_eq_true (by kernel_rfl)) k2 bel lt2) trodAll_mk0))), rfl, bel.frame _, fun h => by cases h⟩

set_option maxRecDepth 100000 in
theorem lifted (os : Os) (started : os.Started) (H : Type) (enc : TypeId × Value → H) :
    ReturnsInHanded {} Try.checked os 4 .any (Rows.meterTokensSpec.pre6 enc Try.prog Try.f4 Rows.meterTokensRow.domain false) (Rows.meterTokensSpec.post enc Try.prog Try.f4 false true false false) := by
  refine returnsInHanded_of_change_sized (C := Try.checked) own started (by kernel_rfl) Try.func4
    (ChangeSpec.witness6 (enc := enc) (C := Try.checked) false ⟨#[], #[.int .i64 0, .int .i64 0, .slice none 0 0], []⟩ 8 (by kernel_rfl) (by kernel_rfl) (by kernel_rfl) (by kernel_rfl)) ?_
  intro W base args ds gs before hval hW _ hsz _
  exact contract H enc W base args ds gs before hval hW hsz

theorem over : Rows.meterTokensRow.holds Try.pinned (OpenSpec.ofChange Rows.meterTokensSpec) :=
  OpenClaim.holds_of_wide 4 Try.f4 rfl rfl rfl rfl rfl rfl rfl ⟨rfl, rfl, rfl, rfl, rfl⟩ rfl rfl rfl rfl rfl (by kernel_rfl) Try.func4 (by kernel_rfl)
    (of_decide_eq_true (by kernel_rfl)) (by unfold Func.isWrapper; first | (rw [if_pos (by decide +kernel)]; kernel_rfl) | (rw [if_neg (by decide +kernel)]; exact ⟨rfl, rfl⟩))
    (fun os started H enc _ => lifted os started H enc)

theorem proved : Rows.MeterTokensSaid := over
#print axioms proved
end MTok
end Go.Proofs.Ytimcjfklnjompaa
