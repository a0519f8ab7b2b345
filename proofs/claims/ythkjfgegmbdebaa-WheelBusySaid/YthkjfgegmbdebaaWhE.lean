/-
  The program's own wheel (layer 17): slices.MinFunc over timers, by the time at which one is due.
-/
import Derived.Test.YthkjfgegmbdebaaWhD
import Derived.Laws.Rows
namespace Go.Proofs.Ythkjfgegmbdebaa
open Go.RowKit
set_option linter.unusedVariables false

theorem sizeTm : (Try.prog.info? 57).map (·.size) = some 3 := by kernel_rfl
theorem tm_cells {w : World} {g n c : Nat} {l : List TmI} (h : w.ownsRow 0 57 3 (.slice (some ⟨g, 0, none⟩) n c) n (l.flatMap tmC)) {i : Nat} {x : TmI} (hx : l[i]? = some x) :
    w.cell? ⟨g, i * 3, none⟩ = some (.int .i64 x.1) ∧ w.cell? ⟨g, i * 3 + 1, none⟩ = some (.int .i64 (x.2.1 : Int)) ∧ w.cell? ⟨g, i * 3 + 2, none⟩ = some (.int .i64 (x.2.2 : Int)) := by
  have e := fun k (hk : k < 3) => flatk_at tm_three hx hk
  exact ⟨own_cellN h (by have := e 0 (by decide); rw [Nat.add_zero] at this; rw [this]; rfl), own_cellN h (by rw [e 1 (by decide)]; rfl), own_cellN h (by rw [e 2 (by decide)]; rfl)⟩
theorem Blk.t3 {w : World} {g : Nat} {t : TypeId} {a b c : Value} (h : Blk w g t #[a, b, c]) : w.cell? ⟨g, 0, none⟩ = some a ∧ w.cell? ⟨g, 1, none⟩ = some b ∧ w.cell? ⟨g, 2, none⟩ = some c :=
  ⟨(h.cell 0).trans rfl, (h.cell 1).trans rfl, (h.cell 2).trans rfl⟩
abbrev tmA (x : TmI) : Array Value := #[.int .i64 x.1, .int .i64 (x.2.1 : Int), .int .i64 (x.2.2 : Int)]
theorem cmpI_neg (a b : Int) : (decide (cmpI a b < 0)) = decide (a < b) := by
  unfold cmpI
  split
  · rename_i h; simp [h]
  · rename_i h
    split <;> simp [h]
set_option maxRecDepth 100000 in
set_option maxHeartbeats 4000000 in
theorem minf_any (A : Option Addr) (n c : Nat) (l : List TmI) (hl : l.length = n) (hn : 0 < n) (hn9 : n ≤ 100000) (w : World) (h : w.ownsRow 0 57 3 (.slice A n c) n (l.flatMap tmC)) :
    Calls Try.prog 38 #[.slice A n c, .func (.func 39) #[] #[]] w fun e w' => ∃ x ∈ l, (∀ y ∈ l, x.2.1 ≤ y.2.1) ∧ e = .returned (tmV x) ∧ Tch w w' [] := by
  have eg : ∀ args w, (callFunc 39 args).run Try.prog w = .ok (.enter 39 args) w := enters_of Try.func39 rfl rfl
  obtain ⟨g, rfl⟩ := slice_some h hn
  obtain ⟨x0, hx0⟩ : ∃ x, l[0]? = some x := ⟨_, List.getElem?_eq_getElem (by omega)⟩
  have HRow := Lib.hid (fun W (hT : Tch w W []) => own_tch h hT (by simp))
  have HC := Lib.hid (fun x y W => next1_any x y W)
  have HN := Lib.hid (And.intro hl (And.intro hn hn9))
  obtain ⟨rb, hrb⟩ : ∃ b, w.heap.size = b := ⟨_, rfl⟩
  obtain ⟨W0, hW0⟩ : ∃ W, w.alloc (.cells #[.int .i64 0, .int .i64 0, .int .i64 0] 57) = W := ⟨_, rfl⟩
  have hT0 : Tch w W0 [] := hW0 ▸ (Tch.refl w []).alloc _
  have hB0 : Blk W0 rb 57 #[.int .i64 0, .int .i64 0, .int .i64 0] := hW0 ▸ hrb ▸ Blk.new w _ _
  obtain ⟨z0, z1, z2⟩ := tm_cells (HRow.out W0 hT0) hx0
  simp only [Nat.zero_mul, Nat.zero_add, ← hW0] at z0 z1 z2
  obtain ⟨mb, hmb⟩ : ∃ b, W0.heap.size = b := ⟨_, rfl⟩
  obtain ⟨W1, hW1⟩ : ∃ W, W0.alloc (.cells (tmA x0) 57) = W := ⟨_, rfl⟩
  have hT1 : Tch w W1 [] := hW1 ▸ hT0.alloc _
  have hB1 : Blk W1 mb 57 (tmA x0) := hW1 ▸ hmb ▸ Blk.new W0 _ _
  have hR1 : Blk W1 rb 57 #[.int .i64 0, .int .i64 0, .int .i64 0] := hW1 ▸ hB0.alloc _
  have HB1 := Lib.hid (And.intro hT1 (And.intro hB1 hR1))
  have HW0 := Lib.hid (And.intro hW0 hrb)
  have HW1 : Hid ((w.alloc (.cells #[.int .i64 0, .int .i64 0, .int .i64 0] 57)).alloc (.cells (tmA x0) 57) = W1 ∧ w.heap.size + 1 = mb) := Lib.hid ⟨by rw [hW0]; exact hW1, by rw [← hmb, ← hW0, World.size_alloc]⟩
  have HX0 := Lib.hid hx0
  have HD : Hid (rb ≠ mb ∧ rb < mb ∧ w.heap.size ≤ rb ∧ w.heap.size ≤ mb) := Lib.hid (by have h1 := hB0.lt; have h2 := hT0.size; omega)
  have n1 : ¬ (n : Int) < 1 := by omega
  have n0 : (0 : Int) < (n : Int) := by omega
  obtain ⟨a0, a1, a2⟩ := x0
  clear h hl hn hn9 hx0 hrb hW0 hT0 hB0 hmb hW1 hT1 hB1 hR1
  go_enter Try.func38, Try.ntmps38
  go_wp2_with fail
  rw [HW1.out.1, HW1.out.2, HW0.out.2]
  clear z0 z1 z2
  go_loopw [6] (fun iv wr => ∃ (i : Nat) (x : TmI), iv = .int .i64 (i : Int) ∧ 1 ≤ i ∧ i ≤ n ∧ Hid (x ∈ l ∧ ∀ (j : Nat) (y : TmI), j < i → l[j]? = some y → x.2.1 ≤ y.2.1) ∧ Hid (Blk wr mb 57 (tmA x)) ∧ Hid (Blk wr rb 57 #[.int .i64 0, .int .i64 0, .int .i64 0]) ∧ Hid (Tch w wr [])) (fun iv _ => n - (intOf iv).toNat)
  case atStart => exact ⟨1, (a0, a1, a2), rfl, Nat.le_refl _, HN.out.2.1, Lib.hid ⟨List.mem_of_getElem? HX0.out, fun j y hj hy => by
    obtain rfl : j = 0 := by omega
    rw [HX0.out] at hy; injection hy with hy; subst hy; exact Nat.le_refl _⟩, Lib.hid HB1.out.2.1, Lib.hid HB1.out.2.2, Lib.hid HB1.out.1⟩
  case round =>
    obtain ⟨i, x, rfl, hi1, hi, hx, hM, hR, hT⟩ := hrel
    by_cases hin : i < n
    · have iI : (i : Int) < (n : Int) := by omega
      have i0 : (0 : Int) ≤ (i : Int) := by omega
      have i1 : IntKind.i64.wrap ((i : Int) + 1) = (i : Int) + 1 := by have := HN.out; rw [IntKind.wrap_i64]; omega
      obtain ⟨y, hy⟩ : ∃ y, l[i]? = some y := ⟨_, List.getElem?_eq_getElem (by rw [HN.out.1]; exact hin)⟩
      have HY := Lib.hid hy
      have HXc := Lib.hid (fun W (hT : Tch w W []) => tm_cells (HRow.out W hT) hy)
      have HTd : Hid (Tch w wr.drew []) := Lib.hid hT.out.drew
      have HMd : Hid (Blk wr.drew mb 57 (tmA x)) := Lib.hid ((Tch.refl wr []).drew.blk hM.out (by simp))
      obtain ⟨q, hq⟩ : ∃ q, cmpI (y.2.1 : Int) (x.2.1 : Int) = q := ⟨_, rfl⟩
      have hq0 : q < 0 ↔ y.2.1 < x.2.1 := by
        have := cmpI_neg (y.2.1 : Int) (x.2.1 : Int)
        rw [hq] at this
        rw [decide_eq_decide] at this
        rw [this]; omega
      have HCq := Lib.hid (fun W => HC.out y x W)
      rw [hq] at HCq
      obtain ⟨x0, x1, x2⟩ := x
      obtain ⟨y0, y1, y2⟩ := y
      have HS : Hid (wr.drew.cell? ⟨g, i * 3, none⟩ = some (.int .i64 y0) ∧ wr.drew.cell? ⟨g, i * 3 + 1, none⟩ = some (.int .i64 (y1 : Int)) ∧ wr.drew.cell? ⟨g, i * 3 + 2, none⟩ = some (.int .i64 (y2 : Int)) ∧ wr.drew.cell? ⟨mb, 0, none⟩ = some (.int .i64 x0) ∧ wr.drew.cell? ⟨mb, 1, none⟩ = some (.int .i64 (x1 : Int)) ∧ wr.drew.cell? ⟨mb, 2, none⟩ = some (.int .i64 (x2 : Int))) := Lib.hid (by
        obtain ⟨e0, e1, e2⟩ := HXc.out wr.drew HTd.out
        obtain ⟨f0, f1, f2⟩ := HMd.out.t3
        exact ⟨e0, e1, e2, f0, f1, f2⟩)
      have HI := Lib.hid (And.intro i0 (And.intro iI i1))
      have HQ := Lib.hid hq0
      clear hy hq hq0
      go_wp2
      refine wp_region_held_drew (S := (fun W => W.cell? ⟨g, i * 3, none⟩ = some (.int .i64 y0) ∧ W.cell? ⟨g, i * 3 + 1, none⟩ = some (.int .i64 (y1 : Int)) ∧ W.cell? ⟨g, i * 3 + 2, none⟩ = some (.int .i64 (y2 : Int)) ∧ W.cell? ⟨mb, 0, none⟩ = some (.int .i64 x0) ∧ W.cell? ⟨mb, 1, none⟩ = some (.int .i64 (x1 : Int)) ∧ W.cell? ⟨mb, 2, none⟩ = some (.int .i64 (x2 : Int)))) (by kernel_rfl) ?_ (fun hHeld => ?_)
      · (first | exact HS.out | exact HS2.out)
      refine wpAnyH_take (i := 0) (oi := { dst := some 20, op := Go.Op.move (Go.Operand.tmp 1), type := 64, pos := "sort.go:85", after := #[], guard := none }) (v := ?_) rfl (by kernel_rfl) (by kernel_rfl) (by kernel_rfl) (fun _ _ _ h => h) (Or.inl ⟨by rfl, ?_⟩) (by assumption) ?_
      rotate_left
      · intro w hSw
        (try dsimp only at hSw)
        go_simp
        try (with_reducible rfl)
      try simp only [Act.put, List.setIfInBounds_toArray, List.set_cons_zero, List.set_cons_succ]
      refine wpAnyH_take (i := 1) (oi := { dst := some 21, op := Go.Op.move (Go.Operand.tmp 0), type := 47, pos := "sort.go:85", after := #[], guard := none }) (v := ?_) rfl (by kernel_rfl) (by kernel_rfl) (by kernel_rfl) (fun _ _ _ h => h) (Or.inl ⟨by rfl, ?_⟩) (by assumption) ?_
      rotate_left
      · intro w hSw
        (try dsimp only at hSw)
        go_simp
        try (with_reducible rfl)
      try simp only [Act.put, List.setIfInBounds_toArray, List.set_cons_zero, List.set_cons_succ]
      refine wpAnyH_take (i := 2) (oi := { dst := some 22, op := Go.Op.move (Go.Operand.tmp 6), type := 3, pos := "sort.go:85", after := #[], guard := none }) (v := ?_) rfl (by kernel_rfl) (by kernel_rfl) (by kernel_rfl) (fun _ _ _ h => h) (Or.inl ⟨by rfl, ?_⟩) (by assumption) ?_
      rotate_left
      · intro w hSw
        (try dsimp only at hSw)
        go_simp
        try (with_reducible rfl)
      try simp only [Act.put, List.setIfInBounds_toArray, List.set_cons_zero, List.set_cons_succ]
      refine wpAnyH_take (i := 3) (oi := { dst := some 23, op := Go.Op.indexAddr 47 (Go.Operand.tmp 21) (Go.Operand.tmp 22), type := 0, pos := "sort.go:85", after := #[{ on := 1, ground := Go.Ground.data }, { on := 2, ground := Go.Ground.data }], guard := none }) (v := ?_) rfl (by kernel_rfl) (by kernel_rfl) (by kernel_rfl) (fun _ _ _ h => h) (Or.inl ⟨by rfl, ?_⟩) (by assumption) ?_
      rotate_left
      · intro w hSw
        (try dsimp only at hSw)
        go_simp
        try (with_reducible rfl)
      try simp only [Act.put, List.setIfInBounds_toArray, List.set_cons_zero, List.set_cons_succ]
      refine wpAnyH_take (i := 4) (oi := { dst := some 24, op := Go.Op.load 57 (Go.Operand.tmp 23), type := 57, pos := "sort.go:85", after := #[{ on := 3, ground := Go.Ground.data }], guard := none }) (v := ?_) rfl (by kernel_rfl) (by kernel_rfl) (by kernel_rfl) (fun _ _ _ h => h) (Or.inl ⟨by rfl, ?_⟩) (by assumption) ?_
      rotate_left
      · intro w hSw
        (try dsimp only at hSw)
        go_simp
        try (with_reducible rfl)
      try simp only [Act.put, List.setIfInBounds_toArray, List.set_cons_zero, List.set_cons_succ]
      refine wpAnyH_take (i := 5) (oi := { dst := some 25, op := Go.Op.load 57 (Go.Operand.tmp 5), type := 57, pos := "sort.go:85", after := #[], guard := none }) (v := ?_) rfl (by kernel_rfl) (by kernel_rfl) (by kernel_rfl) (fun _ _ _ h => h) (Or.inl ⟨by rfl, ?_⟩) (by assumption) ?_
      rotate_left
      · intro w hSw
        (try dsimp only at hSw)
        go_simp
        try (with_reducible rfl)
      try simp only [Act.put, List.setIfInBounds_toArray, List.set_cons_zero, List.set_cons_succ]
      refine wpAnyH_ready (rs := [6]) (by kernel_rfl) (by simp) ?_
      refine AllReadyH.cons (o := { dst := some 26, op := Go.Op.call { callee := Go.Callee.value (Go.Operand.tmp 20), args := #[Go.Operand.tmp 24, Go.Operand.tmp 25], argTypes := #[57, 57] }, type := 3, pos := "sort.go:85", after := #[{ on := 0, ground := Go.Ground.data }, { on := 4, ground := Go.Ground.data }, { on := 5, ground := Go.Ground.data }], guard := none }) rfl (fun K hK => ?_) AllReadyH.nil
      go_simp
      (go_at_fn 39; (with_reducible refine Calls.mono (HCq.out _) ?_); rintro e W2 ⟨rfl, hT2⟩; have HT2 : Hid (Tch wr W2 []) := Lib.hid ((Tch.refl wr []).drew.trans hT2); have HT2w : Hid (Tch w W2 []) := Lib.hid (hT.out.trans HT2.out); have HM2 : Hid (Blk W2 mb 57 (tmA (x0, x1, x2))) := Lib.hid (HT2.out.blk hM.out (by simp)); have HS2 : Hid (W2.cell? ⟨g, i * 3, none⟩ = some (.int .i64 y0) ∧ W2.cell? ⟨g, i * 3 + 1, none⟩ = some (.int .i64 (y1 : Int)) ∧ W2.cell? ⟨g, i * 3 + 2, none⟩ = some (.int .i64 (y2 : Int)) ∧ W2.cell? ⟨mb, 0, none⟩ = some (.int .i64 x0) ∧ W2.cell? ⟨mb, 1, none⟩ = some (.int .i64 (x1 : Int)) ∧ W2.cell? ⟨mb, 2, none⟩ = some (.int .i64 (x2 : Int))) := Lib.hid (by obtain ⟨e0, e1, e2⟩ := HXc.out W2 HT2w.out; obtain ⟨f0, f1, f2⟩ := HM2.out.t3; exact ⟨e0, e1, e2, f0, f1, f2⟩); clear hT2)
      go_wp2_with fail
      refine hK.out _ _ ?_ (fun hHeld => ?_)
      · (first | exact HS.out | exact HS2.out)
      clear hK K
      try simp only [Act.put, List.setIfInBounds_toArray, List.set_cons_zero, List.set_cons_succ]
      refine wpAnyH_take (i := 7) (oi := { dst := some 27, op := Go.Op.binOp Go.BinOp.lss 3 (Go.Operand.tmp 26) (Go.Operand.const (Go.Value.int Go.IntKind.i64 0)) 3, type := 4, pos := "sort.go:85", after := #[{ on := 6, ground := Go.Ground.data }], guard := none }) (v := ?_) rfl (by kernel_rfl) (by kernel_rfl) (by kernel_rfl) (fun _ _ _ h => h) (Or.inl ⟨by rfl, ?_⟩) (by assumption) ?_
      rotate_left
      · intro w hSw
        (try dsimp only at hSw)
        go_simp
        try (with_reducible rfl)
      try simp only [Act.put, List.setIfInBounds_toArray, List.set_cons_zero, List.set_cons_succ]
      refine wpAnyH_done (by kernel_rfl) ?_ _
      have HR2 := Lib.hid (HT2.out.blk hR.out (by simp))
      have i0 := HI.out.1
      have iI := HI.out.2.1
      have i1 := HI.out.2.2
      by_cases hlt : y1 < x1
      · have q1 : q < 0 := HQ.out.2 hlt
        obtain ⟨e0, e1, e2⟩ := HXc.out W2 HT2w.out
        go_wp2_with (refine wpList_sta rfl 57 (.tmp 5) (.tmp 31) rfl mb 0 (tmA (y0, y1, y2)) rfl rfl 57 _ HM2.out 3 sizeTm rfl (show 0 + 3 ≤ 3 from by decide) (by simp [Value.oneCell']) ?_; intro w8 hs8; have HM8 := Lib.hid (sta_whole hs8 rfl); have HT8 := Lib.hid hs8.tch; clear hs8 e0 e1 e2)
        go_roundw
        case rel =>
          refine ⟨i + 1, (y0, y1, y2), by go_num, by omega, hin, Lib.hid ⟨List.mem_of_getElem? HY.out, fun j z hj hz => ?_⟩, HM8, Lib.hid (HT8.out.blk HR2.out (by simp; exact HD.out.1)), Lib.hid (HT2w.out.trans_fre HT8.out (fun s hs => .inr (by rw [List.mem_singleton.1 hs]; exact HD.out.2.2.2)))⟩
          by_cases e : j = i
          · subst e; rw [HY.out] at hz; injection hz with hz; subst hz; exact Nat.le_refl _
          · have := hx.out.2 j z (by omega) hz
            exact Nat.le_trans (Nat.le_of_lt hlt) this
        case measure => simp [intOf]; omega
      · have q1 : ¬ q < 0 := fun e => hlt (HQ.out.1 e)
        go_wp2
        go_roundw
        case rel =>
          refine ⟨i + 1, (x0, x1, x2), by go_num, by omega, hin, Lib.hid ⟨hx.out.1, fun j z hj hz => ?_⟩, HM2, HR2, HT2w⟩
          by_cases e : j = i
          · subst e; rw [HY.out] at hz; injection hz with hz; subst hz; exact Nat.le_of_not_lt hlt
          · exact hx.out.2 j z (by omega) hz
        case measure => simp [intOf]; omega
    · have iI : ¬ (i : Int) < (n : Int) := by omega
      obtain ⟨x0, x1, x2⟩ := x
      obtain ⟨f0, f1, f2⟩ := hM.out.t3
      have HE : Hid (∀ y ∈ l, x1 ≤ y.2.1) := Lib.hid (fun y hy => by
        obtain ⟨j, hj⟩ := List.mem_iff_getElem?.1 hy
        have h1 := (List.getElem?_eq_some_iff.1 hj).1
        have h2 := HN.out.1
        exact hx.out.2 j y (by omega) hj)
      go_wp2_with (refine wpList_sta rfl 57 (.tmp 4) (.tmp 32) rfl rb 0 (tmA (x0, x1, x2)) rfl rfl 57 _ hR.out 3 sizeTm rfl (show 0 + 3 ≤ 3 from by decide) (by simp [Value.oneCell']) ?_; intro w8 hs8; have HM8 := Lib.hid (sta_whole hs8 rfl); have HT8 := Lib.hid hs8.tch; clear hs8 f0 f1 f2)
      refine bodyPost_ret (results_cell_row rfl _ _ rb 57 (tmA (x0, x1, x2)) (0, 0) _ rfl HM8.out Try.underlying57 rfl sizeTm) rfl ?_
      exact ⟨x0, x1, x2, hx.out.1, fun a b c h => HE.out (a, b, c) h, rfl, hT.out.trans_fre HT8.out (fun s hs => .inr (by rw [List.mem_singleton.1 hs]; exact HD.out.2.2.1))⟩
end Go.Proofs.Ythkjfgegmbdebaa
