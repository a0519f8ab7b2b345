/-
  crosswaylaw15.RibFull returns true for every input, and leaves its arguments alone.
  Conditions: none of our own.
-/
import Derived.Test.YtjlmgkdieffjcaaDoorMgL
import Derived.Test.YtjlmgkdieffjcaaDoorRbFu
import Derived.Test.YtjlmgkdieffjcaaDoorREnv
namespace Go.Proofs.YtjlmgkdieffjcaaDoor
open Go.ChangeShapes Go.WideShapes Go.ChangeAt Go.RowKit
set_option linter.unusedVariables false
namespace RFul
theorem pf_3 : pfR (flP 3) = .agg #[.bool false, .int .u64 0, .int .u64 196608, .int .i64 16] := (pf_v 3).trans rfl
theorem pa_k (pr me : Int) (n : Nat) (k : Int) (h : 168361984 + (n : Int) = k) : paR (pr, me, byR n, 0, false) = .agg #[.int .i64 pr, .int .i64 me, .bool false, .int .u64 0, .int .u64 k, .int .i64 0, .bool false] := by rw [pa_v, h]
set_option maxRecDepth 100000 in
set_option maxHeartbeats 8000000 in
theorem walk (w : World) (hE : EnvR w) (a0_0 : Int) (w0_0 : (Lit.int .i64 a0_0).wf = true) (a0_1 : Int) (w0_1 : (Lit.int .i64 a0_1).wf = true) (a0_2 : Bool) (a0_3 : Int) (w0_3 : (Lit.int .u64 a0_3).wf = true) (a0_4 : Int) (w0_4 : (Lit.int .u64 a0_4).wf = true) (a0_5 : Int) (w0_5 : (Lit.int .i64 a0_5).wf = true) (a0_6 : Bool) (a1 : Int) (w1 : (Lit.int .i64 a1).wf = true) (a2 : Int) (w2 : (Lit.int .i64 a2).wf = true) :
    Calls Tryd.prog 6 #[.agg #[.int .i64 a0_0, .int .i64 a0_1, .bool a0_2, .int .u64 a0_3, .int .u64 a0_4, .int .i64 a0_5, .bool a0_6], .int .i64 a1, .int .i64 a2] w fun e w' => e = .returned (.bool true) ∧ Below w.heap.size w w' := by
  have HEn := Lib.hid hE
  clear hE
  obtain ⟨h0, rfl, hh0⟩ := n64R w0_3
  obtain ⟨l0, rfl, hl0⟩ := n64R w0_4
  have HXo : Hid (PaOk (a0_0, a0_1, (a0_2, h0, l0), a0_5, a0_6)) := Lib.hid ⟨w0_0, w0_1, ⟨hh0, hl0⟩, w0_5⟩
  have hb1 : -9223372036854775808 ≤ a1 ∧ a1 ≤ 9223372036854775807 := by simpa [Lit.wf, IntKind.min, IntKind.max, IntKind.bits, IntKind.signed] using w1
  have hb2 : -9223372036854775808 ≤ a2 ∧ a2 ≤ 9223372036854775807 := by simpa [Lit.wf, IntKind.min, IntKind.max, IntKind.bits, IntKind.signed] using w2
  obtain ⟨y1, hy1⟩ : ∃ y : Int, (if a1 < 0 then -(a1 + 1) else a1) = y := ⟨_, rfl⟩
  obtain ⟨y2, hy2⟩ : ∃ y : Int, (if a2 < 0 then -(a2 + 1) else a2) = y := ⟨_, rfl⟩
  have hc1 : (a1 < 0 ∧ IntKind.i64.wrap (a1 + 1) = a1 + 1 ∧ wrap64 (-(a1 + 1)) = y1 ∧ IntKind.i64.wrap (-(a1 + 1)) = y1) ∨ (¬ a1 < 0 ∧ a1 = y1 ∧ True ∧ True) := by
    split at hy1
    · left; refine ⟨by assumption, ?_, ?_, ?_⟩
      · rw [IntKind.wrap_i64]; omega
      · unfold wrap64; omega
      · rw [IntKind.wrap_i64]; omega
    · right; exact ⟨by assumption, hy1, trivial, trivial⟩
  have hc2 : (a2 < 0 ∧ IntKind.i64.wrap (a2 + 1) = a2 + 1 ∧ wrap64 (-(a2 + 1)) = y2 ∧ IntKind.i64.wrap (-(a2 + 1)) = y2) ∨ (¬ a2 < 0 ∧ a2 = y2 ∧ True ∧ True) := by
    split at hy2
    · left; refine ⟨by assumption, ?_, ?_, ?_⟩
      · rw [IntKind.wrap_i64]; omega
      · unfold wrap64; omega
      · rw [IntKind.wrap_i64]; omega
    · right; exact ⟨by assumption, hy2, trivial, trivial⟩
  have hy10 : 0 ≤ y1 := by split at hy1 <;> omega
  have hy20 : 0 ≤ y2 := by split at hy2 <;> omega
  obtain ⟨me, hme⟩ : ∃ m : Nat, Int.tmod y1 65536 = (m : Int) := ⟨(y1 % 65536).toNat, by rw [Int.tmod_eq_emod_of_nonneg hy10]; omega⟩
  obtain ⟨mo, hmo⟩ : ∃ m : Nat, Int.tmod y2 1000 = (m : Int) := ⟨(y2 % 1000).toNat, by rw [Int.tmod_eq_emod_of_nonneg hy20]; omega⟩
  have hme1 : me ≤ 65535 := by rw [Int.tmod_eq_emod_of_nonneg hy10] at hme; omega
  have hmo1 : mo < 1000 := by rw [Int.tmod_eq_emod_of_nonneg hy20] at hmo; omega
  have HC := Lib.hid (And.intro hc1 hc2)
  have HMm := Lib.hid (And.intro (And.intro hme hme1) (And.intro hmo hmo1))
  clear hc1 hc2 hy1 hy2 hy10 hy20 hme hmo hme1 hmo1 hb1 hb2 w1 w2 w0_0 w0_1 w0_3 w0_4 w0_5 hh0 hl0
  obtain ⟨xb, hxb⟩ : ∃ xb, w.heap.size = xb := ⟨_, rfl⟩
  obtain ⟨W0, hW0⟩ : ∃ W, w.alloc (.cells #[.int .i64 a0_0, .int .i64 a0_1, .bool a0_2, .int .u64 (h0 : Int), .int .u64 (l0 : Int), .int .i64 a0_5, .bool a0_6] 26) = W := ⟨_, rfl⟩
  have HX0 : Hid (Blk W0 xb 26 #[.int .i64 a0_0, .int .i64 a0_1, .bool a0_2, .int .u64 (h0 : Int), .int .u64 (l0 : Int), .int .i64 a0_5, .bool a0_6]) := Lib.hid (hW0 ▸ hxb ▸ Blk.new w _ _)
  have HT0 : Hid (Tch w W0 []) := Lib.hid (hW0 ▸ (Tch.refl w []).alloc _)
  have HWs := Lib.hid (And.intro hW0 hxb)
  clear hW0 hxb
  have HBy : Hid (∀ (n : Int) (hn0 : 0 ≤ n) (hn9 : n ≤ 9) (W : World), Calls Tryd.prog 20 #[.int .u64 n] W fun e w' => e = .returned (.agg #[.bool false, .int .u64 0, .int .u64 (168361984 + n)]) ∧ Tch W w' []) := Lib.hid (fun n hn0 hn9 W => (by_any n hn0 hn9 W).mono fun e w' h => ⟨h.1, Tch.of_below [] h.2⟩)
  go_enter Tryd.func6, Tryd.ntmps6
  go_wp2_with fail
  rw [HWs.out.1, HWs.out.2]
  refine Calls.mono (awake_yes W0 (HEn.out.tch0 HT0.out)) ?_
  rintro e x1 ⟨rfl, hb1⟩
  have HT1 := Lib.hid (HT0.out.trans (Tch.of_below [] hb1))
  have HX1 := Lib.hid ((Tch.of_below [] hb1).blk HX0.out (by simp))
  clear hb1
  go_wp2_with fail
  refine Calls.mono (newP x1) ?_
  rintro e x2 ⟨p, S0, rfl, hP, hb, hs⟩
  have Y0 : Hid (StdR w x2 p S0 (flL 0)) := Lib.hid ⟨hP, (HT1.out.trans (Tch.of_below [] hb)).below (Nat.le_refl _) (by simp), fun s h => Nat.le_trans HT1.out.size (hs s h)⟩
  have X0 : Hid (OwnR x2 S0 xb 26 #[.int .i64 a0_0, .int .i64 a0_1, .bool a0_2, .int .u64 (h0 : Int), .int .u64 (l0 : Int), .int .i64 a0_5, .bool a0_6]) := Lib.hid ⟨(Tch.of_below [] hb).blk HX1.out (by simp), fun hm => by have := hs xb hm; have := HX1.out.lt; omega⟩
  clear hP hb hs
  go_wp2
  go_loopw [9] (fun iv wr => ∃ (i : Nat) (S : List Nat), iv = .int .i64 (i : Int) ∧ i ≤ 90 ∧ Hid (StdR w wr p S (flL i)) ∧ Hid (OwnR wr S xb 26 #[.int .i64 a0_0, .int .i64 a0_1, .bool a0_2, .int .u64 (h0 : Int), .int .u64 (l0 : Int), .int .i64 a0_5, .bool a0_6])) (fun iv _ => 90 - (intOf iv).toNat)
  case atStart => exact ⟨0, S0, rfl, Nat.zero_le _, Y0, X0⟩
  case round =>
    obtain ⟨i, S, rfl, hi, hY, hX⟩ := hrel
    have i1 : IntKind.i64.wrap ((i : Int) + 1) = (i : Int) + 1 := by rw [IntKind.wrap_i64]; omega
    by_cases hil : i < 90
    · have iI : (i : Int) < 90 := by omega
      have c1 : IntKind.u64.wrap (i : Int) = (i : Int) := by rw [IntKind.wrap_u64]; omega
      have c2 : IntKind.u64.wrap ((i : Int) * 65536) = (i : Int) * 65536 := by rw [IntKind.wrap_u64]; omega
      have HPu := Lib.hid (fun W (hY : StdR w W p S (flL i)) => putV p S (flL i) (flP i) (flX 1) (flP_ok i (by omega)) (fl_pa 1 0 1 (by decide) (by decide) (by decide)) (pf_v i) (pa_v 1 0 1) (flL_put i hil) W (hY.env HEn.out) hY.P)
      go_wp2_with fail
      refine Calls.mono (HBy.out 1 (by decide) (by decide) wr) ?_
      rintro e w1 ⟨rfl, hT⟩
      have Y1 := Lib.hid (hY.out.tch0 hT)
      have X1 := Lib.hid (hX.out.tch0 hT)
      clear hT
      go_wp2_with fail
      refine Calls.mono (HPu.out w1 Y1.out) ?_
      rintro e w2 ⟨rfl, S2, hP, hg⟩
      have Y2 : Hid (StdR w w2 p S2 (flL (i + 1))) := Lib.hid (Y1.out.go hP hg)
      have X2 := Lib.hid (X1.out.go hg)
      clear hP hg
      go_wp2
      go_roundw
      case rel => exact ⟨i + 1, S2, by go_num, hil, Y2, X2⟩
      case measure => simp [intOf]; omega
    · have HFs := Lib.hid (flS_of i (by omega))
      have iI : ¬ (i : Int) < 90 := by omega
      obtain ⟨L0, hL0⟩ : ∃ L0, flL i = L0 := ⟨_, rfl⟩
      rw [hL0] at hY HFs
      clear hil hi hL0
      obtain ⟨pb, hpb⟩ : ∃ pb, wr.heap.size = pb := ⟨_, rfl⟩
      obtain ⟨W3, hW3⟩ : ∃ W, wr.alloc (.cells #[.bool false, .int .u64 0, .int .u64 196608, .int .i64 16] 37) = W := ⟨_, rfl⟩
      have Y3 := Lib.hid (hW3 ▸ hY.out.alloc (.cells #[.bool false, .int .u64 0, .int .u64 196608, .int .i64 16] 37))
      have X3 := Lib.hid (hW3 ▸ hX.out.alloc (.cells #[.bool false, .int .u64 0, .int .u64 196608, .int .i64 16] 37))
      have P3 : Hid (OwnR W3 S pb 37 #[.bool false, .int .u64 0, .int .u64 196608, .int .i64 16]) := Lib.hid (hW3 ▸ hpb ▸ OwnR.new hY.out.P _ _)
      have HW3 := Lib.hid (And.intro hW3 hpb)
      clear hW3 hpb
      go_wp2_with fail
      rw [HW3.out.1, HW3.out.2]
      go_loopw [12] (fun iv wr => ∃ (j : Nat) (S : List Nat) (L : List TdI), iv = .int .i64 ((j : Int) + 2) ∧ j ≤ 3 ∧ Hid (FlM L j) ∧ Hid (StdR w wr p S L) ∧ Hid (OwnR wr S xb 26 #[.int .i64 a0_0, .int .i64 a0_1, .bool a0_2, .int .u64 (h0 : Int), .int .u64 (l0 : Int), .int .i64 a0_5, .bool a0_6]) ∧ Hid (OwnR wr S pb 37 #[.bool false, .int .u64 0, .int .u64 196608, .int .i64 16])) (fun iv _ => 5 - (intOf iv).toNat)
      case atStart => exact ⟨0, S, L0, rfl, by decide, Lib.hid HFs.out.m, Y3, X3, P3⟩
      case round =>
        obtain ⟨j, S, L, rfl, hj, hF, hY, hX, hB⟩ := hrel
        have j1 : IntKind.i64.wrap ((j : Int) + 2 + 1) = ((j + 1 : Nat) : Int) + 2 := by rw [IntKind.wrap_i64]; omega
        by_cases hjl : j < 3
        · have jI : (j : Int) + 2 < 5 := by omega
          have c1 : IntKind.u64.wrap ((j : Int) + 2) = (j : Int) + 2 := by rw [IntKind.wrap_u64]; omega
          have hFp := hF.out.put hjl
          have HPu := Lib.hid (fun W (hY : StdR w W p S L) => putV p S L (flP 3) (flX (j + 2)) (flP_ok 3 (by decide)) (fl_pa 1 0 (j + 2) (by decide) (by decide) (by omega)) pf_3 ((pa_v 1 0 (j + 2)).trans (show _ = Value.agg #[.int .i64 1, .int .i64 0, .bool false, .int .u64 0, .int .u64 (168361984 + ((j : Int) + 2)), .int .i64 0, .bool false] by rfl)) hFp.1 W (hY.env HEn.out) hY.P)
          obtain ⟨L9, hL9⟩ : ∃ L9, (putR L (flP 3) (flX (j + 2))).1 = L9 := ⟨_, rfl⟩
          rw [hL9] at HPu hFp
          have HF9 := Lib.hid hFp.2
          have HJ := Lib.hid hjl
          clear hFp hL9
          have Yd := Lib.hid (hY.out.tch0 (Tch.refl wr []).drew)
          have Xd := Lib.hid (hX.out.tch0 (Tch.refl wr []).drew)
          have Bd := Lib.hid (hB.out.tch0 (Tch.refl wr []).drew)
          go_wp2
          refine wp_region_held_drew (S := (fun W => W.cell? ⟨pb, 0, none⟩ = some (Value.bool false) ∧ W.cell? ⟨pb, 1, none⟩ = some (Value.int .u64 0) ∧ W.cell? ⟨pb, 2, none⟩ = some (Value.int .u64 196608) ∧ W.cell? ⟨pb, 3, none⟩ = some (Value.int .i64 16))) (by kernel_rfl) ?_ (fun hHeld => ?_)
          · (first | exact hB.out.blk.c4 | exact Bd.out.blk.c4 | exact B5.out.blk.c4 | exact B6.out.blk.c4)
          refine wpAnyH_take (i := 0) (oi := { dst := some 48, op := Go.Op.move (Go.Operand.tmp 8), type := 31, pos := "law.go:204", after := #[], guard := none }) (v := ?_) rfl (by kernel_rfl) (by kernel_rfl) (by kernel_rfl) (fun _ _ _ h => h) (Or.inl ⟨by rfl, ?_⟩) (by assumption) ?_
          rotate_left
          · intro w hSw
            (try dsimp only at hSw)
            go_simp
            try (with_reducible rfl)
          try simp only [Act.put, List.setIfInBounds_toArray, List.set_cons_zero, List.set_cons_succ]
          refine wpAnyH_take (i := 1) (oi := { dst := some 49, op := Go.Op.load 37 (Go.Operand.tmp 11), type := 37, pos := "law.go:204", after := #[], guard := none }) (v := ?_) rfl (by kernel_rfl) (by kernel_rfl) (by kernel_rfl) (fun _ _ _ h => h) (Or.inl ⟨by rfl, ?_⟩) (by assumption) ?_
          rotate_left
          · intro w hSw
            (try dsimp only at hSw)
            go_simp
            try (with_reducible rfl)
          try simp only [Act.put, List.setIfInBounds_toArray, List.set_cons_zero, List.set_cons_succ]
          refine wpAnyH_take (i := 2) (oi := { dst := some 50, op := Go.Op.move (Go.Operand.tmp 12), type := 3, pos := "law.go:204", after := #[], guard := none }) (v := ?_) rfl (by kernel_rfl) (by kernel_rfl) (by kernel_rfl) (fun _ _ _ h => h) (Or.inl ⟨by rfl, ?_⟩) (by assumption) ?_
          rotate_left
          · intro w hSw
            (try dsimp only at hSw)
            go_simp
            try (with_reducible rfl)
          try simp only [Act.put, List.setIfInBounds_toArray, List.set_cons_zero, List.set_cons_succ]
          refine wpAnyH_take (i := 3) (oi := { dst := some 51, op := Go.Op.convert 3 22 (Go.Operand.tmp 50), type := 22, pos := "law.go:204", after := #[{ on := 2, ground := Go.Ground.data }], guard := none }) (v := ?_) rfl (by kernel_rfl) (by kernel_rfl) (by kernel_rfl) (fun _ _ _ h => h) (Or.inl ⟨by rfl, ?_⟩) (by assumption) ?_
          rotate_left
          · intro w hSw
            (try dsimp only at hSw)
            go_simp
            try (with_reducible rfl)
          try simp only [Act.put, List.setIfInBounds_toArray, List.set_cons_zero, List.set_cons_succ]
          refine wpAnyH_ready (rs := [4]) (by kernel_rfl) (by simp) ?_
          refine AllReadyH.cons (o := { dst := some 52, op := Go.Op.call { callee := Go.Callee.value (Go.Operand.func 20), args := #[Go.Operand.tmp 51], argTypes := #[22] }, type := 24, pos := "law.go:204", after := #[{ on := 3, ground := Go.Ground.data }], guard := none }) rfl (fun K hK => ?_) AllReadyH.nil
          go_simp
          (go_at_call 20; (with_reducible refine Calls.mono (HBy.out ((j : Int) + 2) (by omega) (by omega) _) ?_); rintro e w5 ⟨rfl, hT5⟩; have Y5 := Lib.hid (Yd.out.tch0 hT5); have X5 := Lib.hid (Xd.out.tch0 hT5); have B5 := Lib.hid (Bd.out.tch0 hT5); clear hT5)
          go_wp2_with fail
          refine hK.out _ _ ?_ (fun hHeld => ?_)
          · (first | exact hB.out.blk.c4 | exact Bd.out.blk.c4 | exact B5.out.blk.c4 | exact B6.out.blk.c4)
          clear hK K
          try simp only [Act.put, List.setIfInBounds_toArray, List.set_cons_zero, List.set_cons_succ]
          refine wpAnyH_take (i := 5) (oi := { dst := some 53, op := Go.Op.build 26 #[(0, Go.Operand.const (Go.Value.int Go.IntKind.i64 1)), (2, Go.Operand.tmp 52)], type := 26, pos := "law.go:204", after := #[{ on := 4, ground := Go.Ground.data }], guard := none }) (v := ?_) rfl (by kernel_rfl) (by kernel_rfl) (by kernel_rfl) (fun _ _ _ h => h) (Or.inl ⟨by rfl, ?_⟩) (by assumption) ?_
          rotate_left
          · intro w hSw
            (try dsimp only at hSw)
            go_simp
            try (with_reducible rfl)
          try simp only [Act.put, List.setIfInBounds_toArray, List.set_cons_zero, List.set_cons_succ]
          refine wpAnyH_ready (rs := [6]) (by kernel_rfl) (by simp) ?_
          refine AllReadyH.cons (o := { dst := some 54, op := Go.Op.call { callee := Go.Callee.value (Go.Operand.func 14), args := #[Go.Operand.tmp 48, Go.Operand.tmp 49, Go.Operand.tmp 53], argTypes := #[31, 37, 26] }, type := 40, pos := "law.go:204", after := #[{ on := 0, ground := Go.Ground.data }, { on := 1, ground := Go.Ground.data }, { on := 5, ground := Go.Ground.data }, { on := 4, ground := Go.Ground.chain }], guard := none }) rfl (fun K hK => ?_) AllReadyH.nil
          go_simp
          (go_at_call 14; (with_reducible refine Calls.mono (HPu.out _ Y5.out) ?_); rintro e w6 ⟨rfl, S6, hP6, hg6⟩; have Y6 := Lib.hid (Y5.out.go hP6 hg6); have X6 := Lib.hid (X5.out.go hg6); have B6 := Lib.hid (B5.out.go hg6); clear hP6 hg6)
          go_wp2_with fail
          refine hK.out _ _ ?_ (fun hHeld => ?_)
          · (first | exact hB.out.blk.c4 | exact Bd.out.blk.c4 | exact B5.out.blk.c4 | exact B6.out.blk.c4)
          clear hK K
          try simp only [Act.put, List.setIfInBounds_toArray, List.set_cons_zero, List.set_cons_succ]
          refine wpAnyH_take (i := 7) (oi := { dst := some 13, op := Go.Op.assign (Go.Operand.tmp 54), type := 40, pos := "law.go:204", after := #[{ on := 6, ground := Go.Ground.data }, { on := 6, ground := Go.Ground.chain }, { on := 0, ground := Go.Ground.phase }, { on := 1, ground := Go.Ground.phase }, { on := 2, ground := Go.Ground.phase }, { on := 3, ground := Go.Ground.phase }, { on := 4, ground := Go.Ground.phase }, { on := 5, ground := Go.Ground.phase }, { on := 6, ground := Go.Ground.phase }], guard := none }) (v := ?_) rfl (by kernel_rfl) (by kernel_rfl) (by kernel_rfl) (fun _ _ _ h => h) (Or.inl ⟨by rfl, ?_⟩) (by assumption) ?_
          rotate_left
          · intro w hSw
            (try dsimp only at hSw)
            go_simp
            try (with_reducible rfl)
          try simp only [Act.put, List.setIfInBounds_toArray, List.set_cons_zero, List.set_cons_succ]
          refine wpAnyH_done (by kernel_rfl) ?_ _
          go_wp2
          go_roundw
          case rel => exact ⟨j + 1, S6, L9, rfl, HJ.out, HF9, Y6, X6, B6⟩
          case measure => simp [intOf]; omega
        · obtain rfl : j = 3 := by omega
          have HCn := Lib.hid (fun W (hY : StdR w W p S L) => countP p S L W hY.P)
          have hlen : L.length = 93 := hF.out.len
          have HPa := Lib.hid (fun W (hY : StdR w W p S L) => putV p S L (flP 3) (flX 5) (flP_ok 3 (by decide)) (fl_pa 1 0 5 (by decide) (by decide) (by decide)) pf_3 (pa_k 1 0 5 168361989 rfl) (r := 141) (by rw [fl_a hF.out]) W (hY.env HEn.out) hY.P)
          rw [fl_a hF.out] at HPa
          have HPb := Lib.hid (fun W S (hY : StdR w W p S L) => putV p S L (flP (200 + mo)) (2, 0, byR 6, 0, false) (flP_ok (200 + mo) (by have := HMm.out.2.2; omega)) (fl_pa 2 0 6 (by decide) (by decide) (by decide)) ((pf_v (200 + mo)).trans (show _ = Value.agg #[.bool false, .int .u64 0, .int .u64 ((200 + (mo : Int)) * 65536), .int .i64 16] by rfl)) (pa_k 2 0 6 168361990 rfl) (r := 141) (by rw [fl_b hF.out mo HMm.out.2.2]) W (hY.env HEn.out) hY.P)
          rw [fl_b hF.out mo HMm.out.2.2] at HPb
          have hfc := fl_c hF.out (me : Int) (by have := HMm.out.1.2; omega)
          have HPc := Lib.hid (fun W S (hY : StdR w W p S L) => putV p S L (flP 3) (1, (me : Int), byR 4, 0, false) (flP_ok 3 (by decide)) (fl_pa 1 (me : Int) 4 (by decide) (by have := HMm.out.1.2; omega) (by decide)) pf_3 (pa_k 1 (me : Int) 4 168361988 rfl) hfc.1 W (hY.env HEn.out) hY.P)
          obtain ⟨L4, hL4⟩ : ∃ L4, (putR L (flP 3) (1, (me : Int), byR 4, 0, false)).1 = L4 := ⟨_, rfl⟩
          rw [hL4] at HPc hfc
          have hsm := put_same hfc.2.2.2 (p := flP 3) (x := (a0_0, a0_1, (a0_2, h0, l0), a0_5, a0_6)) (flP_num 3 (by decide)) HXo.out.2.2.1 hfc.2.2.1
          obtain ⟨d, hd⟩ : ∃ d, (putR L4 (flP 3) (a0_0, a0_1, (a0_2, h0, l0), a0_5, a0_6)).2 = d := ⟨_, rfl⟩
          have HPd := Lib.hid (fun W S (hY : StdR w W p S L4) => putV p S L4 (flP 3) (a0_0, a0_1, (a0_2, h0, l0), a0_5, a0_6) (flP_ok 3 (by decide)) HXo.out pf_3 (show paR _ = Value.agg #[.int .i64 a0_0, .int .i64 a0_1, .bool a0_2, .int .u64 (h0 : Int), .int .u64 (l0 : Int), .int .i64 a0_5, .bool a0_6] from rfl) hd W (hY.env HEn.out) hY.P)
          obtain ⟨L5, hL5⟩ : ∃ L5, (putR L4 (flP 3) (a0_0, a0_1, (a0_2, h0, l0), a0_5, a0_6)).1 = L5 := ⟨_, rfl⟩
          rw [hL5] at HPd hsm
          rw [hd] at hsm
          have hl5 : L5.length = 93 := hsm.1.trans hfc.2.1
          have HC5 := Lib.hid (fun W S (hY : StdR w W p S L5) => countP p S L5 W hY.P)
          have HCm := Lib.hid (fun W S (hY : StdR w W p S L) => countP p S L W hY.P)
          rw [hl5] at HC5
          rw [hlen] at HCm
          have HDd := Lib.hid hsm.2.2.1
          have r1 := HMm.out.1.1
          have r2 := HMm.out.2.1
          have r3 : IntKind.i64.wrap (me : Int) = (me : Int) := by have := HMm.out.1.2; rw [IntKind.wrap_i64]; omega
          have r4 : IntKind.i64.wrap (mo : Int) = (mo : Int) := by have := HMm.out.2.2; rw [IntKind.wrap_i64]; omega
          have r5 : IntKind.i64.wrap (200 + (mo : Int)) = 200 + (mo : Int) := by have := HMm.out.2.2; rw [IntKind.wrap_i64]; omega
          have r6 : IntKind.u64.wrap (200 + (mo : Int)) = 200 + (mo : Int) := by have := HMm.out.2.2; rw [IntKind.wrap_u64]; omega
          have r7 : IntKind.u64.wrap ((200 + (mo : Int)) * 65536) = (200 + (mo : Int)) * 65536 := by have := HMm.out.2.2; rw [IntKind.wrap_u64]; omega
          have hc1 := HC.out.1
          have hc2 := HC.out.2
          clear hjl hj hlen hfc hL4 hsm hd hL5 hl5 HCn
          rcases hc1 with ⟨n1, f1, g1, k1⟩ | ⟨n1, f1, g1, k1⟩ <;> rcases hc2 with ⟨n2, f2, g2, k2⟩ | ⟨n2, f2, g2, k2⟩
          all_goals
            go_wp2
            have Yd := Lib.hid (hY.out.tch0 (Tch.refl wr []).drew)
            have Xd := Lib.hid (hX.out.tch0 (Tch.refl wr []).drew)
            have Bd := Lib.hid (hB.out.tch0 (Tch.refl wr []).drew)
            refine wp_region_held_drew (S := (fun W => W.cell? ⟨pb, 0, none⟩ = some (Value.bool false) ∧ W.cell? ⟨pb, 1, none⟩ = some (Value.int .u64 0) ∧ W.cell? ⟨pb, 2, none⟩ = some (Value.int .u64 196608) ∧ W.cell? ⟨pb, 3, none⟩ = some (Value.int .i64 16))) (by kernel_rfl) ?_ (fun hHeld => ?_)
            · (first | exact hB.out.blk.c4 | exact Bd.out.blk.c4 | exact B5.out.blk.c4 | exact B6.out.blk.c4)
            refine wpAnyH_take (i := 0) (oi := { dst := some 67, op := Go.Op.move (Go.Operand.tmp 8), type := 31, pos := "law.go:215", after := #[], guard := none }) (v := ?_) rfl (by kernel_rfl) (by kernel_rfl) (by kernel_rfl) (fun _ _ _ h => h) (Or.inl ⟨by rfl, ?_⟩) (by assumption) ?_
            rotate_left
            · intro w hSw
              (try dsimp only at hSw)
              go_simp
              try (with_reducible rfl)
            try simp only [Act.put, List.setIfInBounds_toArray, List.set_cons_zero, List.set_cons_succ]
            refine wpAnyH_take (i := 1) (oi := { dst := some 68, op := Go.Op.load 37 (Go.Operand.tmp 11), type := 37, pos := "law.go:215", after := #[], guard := none }) (v := ?_) rfl (by kernel_rfl) (by kernel_rfl) (by kernel_rfl) (fun _ _ _ h => h) (Or.inl ⟨by rfl, ?_⟩) (by assumption) ?_
            rotate_left
            · intro w hSw
              (try dsimp only at hSw)
              go_simp
              try (with_reducible rfl)
            try simp only [Act.put, List.setIfInBounds_toArray, List.set_cons_zero, List.set_cons_succ]
            refine wpAnyH_ready (rs := [2]) (by kernel_rfl) (by simp) ?_
            refine AllReadyH.cons (o := { dst := some 69, op := Go.Op.call { callee := Go.Callee.value (Go.Operand.func 20), args := #[Go.Operand.const (Go.Value.int Go.IntKind.u64 5)], argTypes := #[22] }, type := 24, pos := "law.go:215", after := #[], guard := none }) rfl (fun K hK => ?_) AllReadyH.nil
            go_simp
            (go_at_call 20; (with_reducible refine Calls.mono (HBy.out 5 (by omega) (by omega) _) ?_); rintro e w5 ⟨rfl, hT5⟩; have Y5 := Lib.hid (Yd.out.tch0 hT5); have X5 := Lib.hid (Xd.out.tch0 hT5); have B5 := Lib.hid (Bd.out.tch0 hT5); clear hT5)
            go_wp2_with fail
            refine hK.out _ _ ?_ (fun hHeld => ?_)
            · (first | exact hB.out.blk.c4 | exact Bd.out.blk.c4 | exact B5.out.blk.c4 | exact B6.out.blk.c4)
            clear hK K
            try simp only [Act.put, List.setIfInBounds_toArray, List.set_cons_zero, List.set_cons_succ]
            refine wpAnyH_take (i := 3) (oi := { dst := some 70, op := Go.Op.build 26 #[(0, Go.Operand.const (Go.Value.int Go.IntKind.i64 1)), (2, Go.Operand.tmp 69)], type := 26, pos := "law.go:215", after := #[{ on := 2, ground := Go.Ground.data }], guard := none }) (v := ?_) rfl (by kernel_rfl) (by kernel_rfl) (by kernel_rfl) (fun _ _ _ h => h) (Or.inl ⟨by rfl, ?_⟩) (by assumption) ?_
            rotate_left
            · intro w hSw
              (try dsimp only at hSw)
              go_simp
              try (with_reducible rfl)
            try simp only [Act.put, List.setIfInBounds_toArray, List.set_cons_zero, List.set_cons_succ]
            refine wpAnyH_ready (rs := [4]) (by kernel_rfl) (by simp) ?_
            refine AllReadyH.cons (o := { dst := some 71, op := Go.Op.call { callee := Go.Callee.value (Go.Operand.func 14), args := #[Go.Operand.tmp 67, Go.Operand.tmp 68, Go.Operand.tmp 70], argTypes := #[31, 37, 26] }, type := 40, pos := "law.go:215", after := #[{ on := 0, ground := Go.Ground.data }, { on := 1, ground := Go.Ground.data }, { on := 3, ground := Go.Ground.data }, { on := 2, ground := Go.Ground.chain }], guard := none }) rfl (fun K hK => ?_) AllReadyH.nil
            go_simp
            (go_at_call 14; (with_reducible refine Calls.mono (HPa.out _ Y5.out) ?_); rintro e w6 ⟨rfl, S6, hP6, hg6⟩; have Y6 := Lib.hid (Y5.out.go hP6 hg6); have X6 := Lib.hid (X5.out.go hg6); have B6 := Lib.hid (B5.out.go hg6); clear hP6 hg6)
            go_wp2_with fail
            refine hK.out _ _ ?_ (fun hHeld => ?_)
            · (first | exact hB.out.blk.c4 | exact Bd.out.blk.c4 | exact B5.out.blk.c4 | exact B6.out.blk.c4)
            clear hK K
            try simp only [Act.put, List.setIfInBounds_toArray, List.set_cons_zero, List.set_cons_succ]
            refine wpAnyH_take (i := 5) (oi := { dst := some 14, op := Go.Op.assign (Go.Operand.tmp 71), type := 40, pos := "law.go:215", after := #[{ on := 4, ground := Go.Ground.data }, { on := 4, ground := Go.Ground.chain }, { on := 0, ground := Go.Ground.phase }, { on := 1, ground := Go.Ground.phase }, { on := 2, ground := Go.Ground.phase }, { on := 3, ground := Go.Ground.phase }, { on := 4, ground := Go.Ground.phase }], guard := none }) (v := ?_) rfl (by kernel_rfl) (by kernel_rfl) (by kernel_rfl) (fun _ _ _ h => h) (Or.inl ⟨by rfl, ?_⟩) (by assumption) ?_
            rotate_left
            · intro w hSw
              (try dsimp only at hSw)
              go_simp
              try (with_reducible rfl)
            try simp only [Act.put, List.setIfInBounds_toArray, List.set_cons_zero, List.set_cons_succ]
            refine wpAnyH_done (by kernel_rfl) ?_ _
            go_wp2_with fail
            refine Calls.mono (HBy.out 6 (by decide) (by decide) w6) ?_
            rintro e w7 ⟨rfl, hT⟩
            have Y7 := Lib.hid (Y6.out.tch0 hT)
            have X7 := Lib.hid (X6.out.tch0 hT)
            have B7 := Lib.hid (B6.out.tch0 hT)
            clear hT
            go_wp2_with fail
            refine Calls.mono (HPb.out w7 S6 Y7.out) ?_
            rintro e w8 ⟨rfl, S8, hP8, hg8⟩
            have Y8 := Lib.hid (Y7.out.go hP8 hg8)
            have X8 := Lib.hid (X7.out.go hg8)
            have B8 := Lib.hid (B7.out.go hg8)
            clear hP8 hg8
            go_wp2_with fail
            refine Calls.mono (HCm.out w8 S8 Y8.out) ?_
            rintro e w9 ⟨rfl, hP9, hT9⟩
            have Y9 := Lib.hid (Y8.out.read hP9 hT9)
            have X9 := Lib.hid (X8.out.go (Goes.of_tch hT9))
            have B9 := Lib.hid (B8.out.go (Goes.of_tch hT9))
            clear hP9 hT9
            have Ye := Lib.hid (Y9.out.tch0 (Tch.refl w9 []).drew)
            have Xe := Lib.hid (X9.out.tch0 (Tch.refl w9 []).drew)
            have Be := Lib.hid (B9.out.tch0 (Tch.refl w9 []).drew)
            go_wp2
            refine wp_region_held_drew (S := (fun W => W.cell? ⟨pb, 0, none⟩ = some (Value.bool false) ∧ W.cell? ⟨pb, 1, none⟩ = some (Value.int .u64 0) ∧ W.cell? ⟨pb, 2, none⟩ = some (Value.int .u64 196608) ∧ W.cell? ⟨pb, 3, none⟩ = some (Value.int .i64 16))) (by kernel_rfl) ?_ (fun hHeld => ?_)
            · (first | exact B9.out.blk.c4 | exact Be.out.blk.c4 | exact Bf.out.blk.c4 | exact Bg.out.blk.c4)
            refine wpAnyH_take (i := 0) (oi := { dst := some 85, op := Go.Op.move (Go.Operand.tmp 8), type := 31, pos := "law.go:218", after := #[], guard := none }) (v := ?_) rfl (by kernel_rfl) (by kernel_rfl) (by kernel_rfl) (fun _ _ _ h => h) (Or.inl ⟨by rfl, ?_⟩) (by assumption) ?_
            rotate_left
            · intro w hSw
              (try dsimp only at hSw)
              go_simp
              try (with_reducible rfl)
            try simp only [Act.put, List.setIfInBounds_toArray, List.set_cons_zero, List.set_cons_succ]
            refine wpAnyH_take (i := 1) (oi := { dst := some 86, op := Go.Op.load 37 (Go.Operand.tmp 11), type := 37, pos := "law.go:218", after := #[], guard := none }) (v := ?_) rfl (by kernel_rfl) (by kernel_rfl) (by kernel_rfl) (fun _ _ _ h => h) (Or.inl ⟨by rfl, ?_⟩) (by assumption) ?_
            rotate_left
            · intro w hSw
              (try dsimp only at hSw)
              go_simp
              try (with_reducible rfl)
            try simp only [Act.put, List.setIfInBounds_toArray, List.set_cons_zero, List.set_cons_succ]
            refine wpAnyH_take (i := 2) (oi := { dst := some 87, op := Go.Op.move (Go.Operand.tmp 1), type := 3, pos := "law.go:218", after := #[], guard := none }) (v := ?_) rfl (by kernel_rfl) (by kernel_rfl) (by kernel_rfl) (fun _ _ _ h => h) (Or.inl ⟨by rfl, ?_⟩) (by assumption) ?_
            rotate_left
            · intro w hSw
              (try dsimp only at hSw)
              go_simp
              try (with_reducible rfl)
            try simp only [Act.put, List.setIfInBounds_toArray, List.set_cons_zero, List.set_cons_succ]
            refine wpAnyH_take (i := 3) (oi := { dst := some 88, op := Go.Op.binOp Go.BinOp.rem 3 (Go.Operand.tmp 87) (Go.Operand.const (Go.Value.int Go.IntKind.i64 65536)) 3, type := 3, pos := "law.go:218", after := #[{ on := 2, ground := Go.Ground.data }], guard := none }) (v := ?_) rfl (by kernel_rfl) (by kernel_rfl) (by kernel_rfl) (fun _ _ _ h => h) (Or.inl ⟨by rfl, ?_⟩) (by assumption) ?_
            rotate_left
            · intro w hSw
              (try dsimp only at hSw)
              go_simp
              try (with_reducible rfl)
            try simp only [Act.put, List.setIfInBounds_toArray, List.set_cons_zero, List.set_cons_succ]
            refine wpAnyH_ready (rs := [4]) (by kernel_rfl) (by simp) ?_
            refine AllReadyH.cons (o := { dst := some 89, op := Go.Op.call { callee := Go.Callee.value (Go.Operand.func 20), args := #[Go.Operand.const (Go.Value.int Go.IntKind.u64 4)], argTypes := #[22] }, type := 24, pos := "law.go:218", after := #[], guard := none }) rfl (fun K hK => ?_) AllReadyH.nil
            go_simp
            (go_at_call 20; (with_reducible refine Calls.mono (HBy.out 4 (by omega) (by omega) _) ?_); rintro e wf ⟨rfl, hT5⟩; have Yf := Lib.hid (Ye.out.tch0 hT5); have Xf := Lib.hid (Xe.out.tch0 hT5); have Bf := Lib.hid (Be.out.tch0 hT5); clear hT5)
            go_wp2_with fail
            refine hK.out _ _ ?_ (fun hHeld => ?_)
            · (first | exact B9.out.blk.c4 | exact Be.out.blk.c4 | exact Bf.out.blk.c4 | exact Bg.out.blk.c4)
            clear hK K
            try simp only [Act.put, List.setIfInBounds_toArray, List.set_cons_zero, List.set_cons_succ]
            refine wpAnyH_take (i := 5) (oi := { dst := some 90, op := Go.Op.build 26 #[(0, Go.Operand.const (Go.Value.int Go.IntKind.i64 1)), (1, Go.Operand.tmp 88), (2, Go.Operand.tmp 89)], type := 26, pos := "law.go:218", after := #[{ on := 3, ground := Go.Ground.data }, { on := 4, ground := Go.Ground.data }], guard := none }) (v := ?_) rfl (by kernel_rfl) (by kernel_rfl) (by kernel_rfl) (fun _ _ _ h => h) (Or.inl ⟨by rfl, ?_⟩) (by assumption) ?_
            rotate_left
            · intro w hSw
              (try dsimp only at hSw)
              go_simp
              try (with_reducible rfl)
            try simp only [Act.put, List.setIfInBounds_toArray, List.set_cons_zero, List.set_cons_succ]
            refine wpAnyH_ready (rs := [6]) (by kernel_rfl) (by simp) ?_
            refine AllReadyH.cons (o := { dst := some 91, op := Go.Op.call { callee := Go.Callee.value (Go.Operand.func 14), args := #[Go.Operand.tmp 85, Go.Operand.tmp 86, Go.Operand.tmp 90], argTypes := #[31, 37, 26] }, type := 40, pos := "law.go:218", after := #[{ on := 0, ground := Go.Ground.data }, { on := 1, ground := Go.Ground.data }, { on := 5, ground := Go.Ground.data }, { on := 4, ground := Go.Ground.chain }], guard := none }) rfl (fun K hK => ?_) AllReadyH.nil
            go_simp
            (go_at_call 14; (with_reducible refine Calls.mono (HPc.out _ _ Yf.out) ?_); rintro e wg ⟨rfl, Sg, hP6, hg6⟩; have Yg := Lib.hid (Yf.out.go hP6 hg6); have Xg := Lib.hid (Xf.out.go hg6); have Bg := Lib.hid (Bf.out.go hg6); clear hP6 hg6)
            go_wp2_with fail
            refine hK.out _ _ ?_ (fun hHeld => ?_)
            · (first | exact B9.out.blk.c4 | exact Be.out.blk.c4 | exact Bf.out.blk.c4 | exact Bg.out.blk.c4)
            clear hK K
            try simp only [Act.put, List.setIfInBounds_toArray, List.set_cons_zero, List.set_cons_succ]
            refine wpAnyH_take (i := 7) (oi := { dst := some 17, op := Go.Op.assign (Go.Operand.tmp 91), type := 40, pos := "law.go:218", after := #[{ on := 6, ground := Go.Ground.data }, { on := 6, ground := Go.Ground.chain }, { on := 0, ground := Go.Ground.phase }, { on := 1, ground := Go.Ground.phase }, { on := 2, ground := Go.Ground.phase }, { on := 3, ground := Go.Ground.phase }, { on := 4, ground := Go.Ground.phase }, { on := 5, ground := Go.Ground.phase }, { on := 6, ground := Go.Ground.phase }], guard := none }) (v := ?_) rfl (by kernel_rfl) (by kernel_rfl) (by kernel_rfl) (fun _ _ _ h => h) (Or.inl ⟨by rfl, ?_⟩) (by assumption) ?_
            rotate_left
            · intro w hSw
              (try dsimp only at hSw)
              go_simp
              try (with_reducible rfl)
            try simp only [Act.put, List.setIfInBounds_toArray, List.set_cons_zero, List.set_cons_succ]
            refine wpAnyH_done (by kernel_rfl) ?_ _
            obtain ⟨v0, v1, v2, v3, v4, v5, v6⟩ := Xg.out.blk.p7
            obtain ⟨u0, u1, u2, u3⟩ := Bg.out.blk.c4
            go_wp2_with fail
            refine Calls.mono (HPd.out wg Sg Yg.out) ?_
            rintro e wh ⟨rfl, Sh, hPh, hgh⟩
            have Yh := Lib.hid (Yg.out.go hPh hgh)
            clear hPh hgh v0 v1 v2 v3 v4 v5 v6 u0 u1 u2 u3
            go_wp2_with fail
            refine Calls.mono (HC5.out wh Sh Yh.out) ?_
            rintro e wi ⟨rfl, hPi, hTi⟩
            have Yi := Lib.hid (Yh.out.read hPi hTi)
            clear hPi hTi
            rcases HDd.out with rfl | rfl | rfl
            all_goals
              go_wp2
              go_ret
              exact ⟨rfl, Yi.out.bel⟩
set_option maxRecDepth 100000 in
theorem contract (H : Type) (enc : TypeId × Value → H) (W : World) (base : Nat) (args : Array Value) (ds gs : List (DataW H)) (before : List MemPlace)
    (hval0 : ∀ (j : Nat) t v, Tryd.f6.params[j]? = some t → args[j]? = some v → Value.okWide Tryd.prog W .any base t v)
    (hW : DataW.Whole enc Tryd.prog Tryd.f6.params.toList Rows.ribFullSpec.vars false W args.toList ds gs before)
    (hsz0 : (DataW.weightsEach Tryd.prog (Tryd.f6.params.toList ++ Rows.ribFullSpec.plain.varTypes Tryd.prog) (ds ++ gs)).all (· ≤ reachBytes) = true) (hE : EnvR W) :
    Calls Tryd.prog 6 args W fun e W' => ∃ v, e = .returned v ∧ Rows.ribFullSpec.post enc Tryd.prog Tryd.f6 false true false false W args v W' := by
  have hsz := hsz0
  clear hsz0
  have hval := hval0
  clear hval0
  have hW' := hW
  obtain ⟨p, q, hA0, hV, rfl, hfz, hnd⟩ := hW
  have hA : DataW.TrodAll enc Tryd.prog W 0 (fun _ => true) true Tryd.f6.params.toList args.toList ds p := hA0
  rw [Tryd.params6] at hA hval hsz
  obtain ⟨v0, vs0, d0, ds0, p0, q0, hargs, rfl, rfl, h0, r0⟩ := trodAll_cons hA
  obtain ⟨v1, vs1, d1, ds1, p1, q1, rfl, rfl, rfl, h1, r1⟩ := trodAll_cons r0
  obtain ⟨v2, vs2, d2, ds2, p2, q2, rfl, rfl, rfl, h2, r2⟩ := trodAll_cons r1
  obtain ⟨rfl, rfl, rfl⟩ := trodAll_nil r2
  obtain rfl : args = #[v0, v1, v2] := by cases args; simp_all
  obtain ⟨rfl, rfl⟩ := trodVars_none hV
  have k0 := h0
  have lt0 : ∀ x ∈ p0, x.block < W.heap.size := by obtain ⟨m, hm⟩ := k0; exact DataW.trod_lt m _ _ _ hm
  obtain ⟨a0_0, a0_1, a0_2, a0_3, a0_4, a0_5, a0_6, rfl, w0_0, w0_1, w0_3, w0_4, w0_5, ep0⟩ := open_pa (hval 0 26 v0 rfl rfl) h0
  obtain ⟨a1, rfl, rfl, rfl, w1⟩ := open_int Tryd.underlying3 (hval 1 3 v1 rfl rfl) h1
  obtain ⟨a2, rfl, rfl, rfl, w2⟩ := open_int Tryd.underlying3 (hval 2 3 v2 rfl rfl) h2
  clear hA0
  refine (walk W hE a0_0 w0_0 a0_1 w0_1 a0_2 a0_3 w0_3 a0_4 w0_4 a0_5 w0_5 a0_6 a1 w1 a2 w2).mono fun e W' ⟨he, bel⟩ => ?_
  subst he
  exact ⟨_, rfl, _, _, _, [], _, [], hW', trodAll_mk1 (shut_bool Tryd.underlying4 _), (trodAll_cons_mk (Below.trod laidOut (by kernel_rfl) (of_decide_eq_true (by kernel_rfl)) k0 bel lt0) (trodAll_cons_mk (shut_int Tryd.underlying3 w1) (trodAll_cons_mk (shut_int Tryd.underlying3 w2) trodAll_mk0))), rfl, bel.frame _, fun h => by cases h⟩

theorem laid_met (os : Os) (args : Array Value) : laidMet Tryd.prog Rows.ribFullRow.laid ((World.laidAll Tryd.prog os Rows.ribFullRow.laid).forCall (fun _ _ => 0) ⟨#[], args, []⟩).memory :=
  laidMet_laidAll _ (by kernel_rfl) (by kernel_rfl)
set_option maxRecDepth 100000 in
theorem pre_row (os : Os) {H : Type} (enc : TypeId × Value → H) :
    (OpenSpec.ofChange Rows.ribFullSpec).preRow enc Tryd.prog Tryd.f6 Rows.ribFullRow.domain false Rows.ribFullRow.laid ((World.laidAll Tryd.prog os Rows.ribFullRow.laid).forCall (fun _ _ => 0) ⟨#[], #[.agg #[.int .i64 0, .int .i64 0, .bool false, .int .u64 0, .int .u64 0, .int .i64 0, .bool false], .int .i64 0, .int .i64 0], []⟩).memory #[.agg #[.int .i64 0, .int .i64 0, .bool false, .int .u64 0, .int .u64 0, .int .i64 0, .bool false], .int .i64 0, .int .i64 0] := by
  exact ⟨⟨ChangeSpec.pre_of_preB (fuel := 8) (by kernel_rfl), by rw [MakeChecks.laidMetH_plain _ _ _ (by kernel_rfl)]; exact laid_met os _⟩, sizedMet_of_sizedB (fuel := 8) (by kernel_rfl)⟩
set_option maxRecDepth 100000 in
theorem lifted (os : Os) (started : os.Started) (H : Type) (enc : TypeId × Value → H) (F : Stop.Interp) :
    ReturnsInHanded {} Tryd.checked os 6 .any ((OpenSpec.ofChange Rows.ribFullSpec).preRow enc Tryd.prog Tryd.f6 Rows.ribFullRow.domain false Rows.ribFullRow.laid) (((OpenSpec.ofChange Rows.ribFullSpec).at F).post enc Tryd.prog Tryd.f6 false true false false) := by
  refine returnsInHanded_of_row (C := Tryd.checked) (s := (OpenSpec.ofChange Rows.ribFullSpec)) own started (by kernel_rfl) Tryd.func6
    ⟨World.laidAll Tryd.prog os Rows.ribFullRow.laid, fun _ _ => 0, ⟨#[], #[.agg #[.int .i64 0, .int .i64 0, .bool false, .int .u64 0, .int .u64 0, .int .i64 0, .bool false], .int .i64 0, .int .i64 0], []⟩, World.laidAll_os _ _ _, World.shaped_of_ZipB (by kernel_rfl) (by kernel_rfl), rfl, (Input.okWide_of_okWideB (by kernel_rfl)).2, pre_row os enc, (by simp only [Assume.holds]; exact ⟨by simp, by simp, fun _ => Modest.zero, by simp, by simp⟩)⟩ ?_
  intro W base args ds gs before hval hW _ hcond hsz hL hsh _
  rw [MakeChecks.laidMetH_plain _ _ _ (by kernel_rfl)] at hL
  exact contract H enc W base args ds gs before hval hW hsz (envR_of hL)

theorem over : Rows.ribFullRow.holds Tryd.pinned (OpenSpec.ofChange Rows.ribFullSpec) :=
  OpenClaim.holds_of_cond 6 Tryd.f6 rfl rfl rfl rfl rfl rfl rfl ⟨rfl, rfl, rfl, rfl, rfl⟩ rfl rfl rfl rfl rfl (by kernel_rfl) Tryd.func6 (by kernel_rfl)
    (of_decide_eq_true (by kernel_rfl)) (by unfold Func.isWrapper; first | (rw [if_pos (by decide +kernel)]; kernel_rfl) | (rw [if_neg (by decide +kernel)]; exact ⟨rfl, rfl⟩))
    (fun os started H enc _ F => by rw [OpenClaim.pre_eq_preRow]; exact lifted os started H enc F)

theorem proved : Rows.RibFullCardSaid :=
  Claim7.holds_tied_plain_at .later [] Rows.ribFullCard.laidKinds true Rows.ribFullCard.stood.harness Rows.ribFullCard.stood.looks over (fun _ h => by cases h) (by kernel_rfl) (fun _ h => by cases h) ribFull_row_tie rfl ⟨rfl, rfl⟩ (by kernel_rfl) rfl
    (fun f fn hf hfn => by
      obtain rfl : f = 6 := Option.some.inj ((show Tryd.prog.funcNamed Rows.ribFullRow.func = some 6 by kernel_rfl).symm.trans hf) |>.symm
      obtain rfl : fn = Tryd.f6 := (Option.some.inj (Tryd.func6.symm.trans hfn)).symm
      exact ⟨by kernel_rfl, fun j t ht => by
        rw [Tryd.params6] at ht
        have hm : t ∈ [26, 3, 3] := by simpa using Array.mem_of_getElem? ht
        have hall : ([26, 3, 3].all fun u => !Tryd.prog.wantsStandIn u) = true := by kernel_rfl
        exact (show Tryd.prog.wantsStandIn t = false by simpa using List.all_eq_true.1 hall t hm)⟩)
    (by kernel_rfl)
#print axioms proved
end RFul
end Go.Proofs.YtjlmgkdieffjcaaDoor
