/-
  crosswaylaw16.ResolveUp returns true for every input, and leaves its argument alone.
  Conditions: none of our own.
-/
import Derived.Test.YtgfkmgbcajdcdaaGreatDoorUbb
import Derived.Test.YtgfkmgbcajdcdaaGreatDoorUbe
namespace Go.Proofs.YtgfkmgbcajdcdaaGreatDoor
open Go.ChangeShapes Go.WideShapes Go.ChangeAt Go.RowKit Ifs
set_option linter.unusedVariables false
namespace VUp
theorem goodH_in {st : StI} {h : HpI} (g : GoodH st h) (ha : h.2.2 = false) : thereI st h.1 = true ∧ (portI st h.1).2.2.2 = true := by
  have := g.2 ha
  unfold upI at this
  rw [Bool.and_eq_true] at this
  exact this
theorem hopF_i64 {L : List TdI} {st : StI} (hI : InvR L) (hok : ∀ u ∈ L, PfOk u.1 ∧ PaOk u.2) : ∀ (f : Nat) (x : PaI), I64 x.2.2.2.1 → (hopF L st f x).2 = 0 → I64 (hopF L st f x).1.1
  | 0, x, hx, h0 => by
    unfold hopF at h0 ⊢
    split at h0
    · rename_i hn
      rw [if_pos hn]; exact hx
    · simp at h0
  | f + 1, x, hx, h0 => by
    unfold hopF at h0 ⊢
    split at h0
    · rename_i hn
      rw [if_pos hn]; exact hx
    · rename_i hn
      rw [if_neg hn]
      split at h0
      · simp at h0
      · rename_i y hy
        obtain ⟨-, q, hq⟩ := nxtI_some hI hy
        have hy2 : I64 (folX x y).2.2.2.1 := by
          have := (hok _ hq).2.2.2.2
          unfold folX
          split
          · exact this
          · exact this
        exact hopF_i64 hI hok f _ hy2 h0
theorem hop_i64 {L : List TdI} {st : StI} (hI : InvR L) (hok : ∀ u ∈ L, PfOk u.1 ∧ PaOk u.2) {p : PfI} (h0 : (hopI L st p).2 = 0) : I64 (hopI L st p).1.1 := by
  unfold hopI at h0 ⊢
  cases hp : pathI L st p with
  | none => rw [hp] at h0; simp at h0
  | some x =>
    rw [hp] at h0
    exact hopF_i64 hI hok 8 x (hok _ (pathI_some hI hp).2).2.2.2.2 h0
set_option maxRecDepth 100000 in
set_option maxHeartbeats 8000000 in
theorem walk (w : World) (hE : EnvR w) (a0 b0 : Option Addr) (l0 c0 m0 d0_ : Nat) (z0 : List Ifs.Stp) (y0 : List Stp) (w0 : Ifs.IsStp w a0 l0 z0) (x0 : IsStp w b0 m0 y0) :
    Calls Tryz.prog 5 #[.agg #[.slice a0 l0 c0, .slice b0 m0 d0_]] w fun e w' => e = .returned (.bool true) ∧ Below w.heap.size w w' := by
  have HEn := Lib.hid hE
  have HM := Lib.hid (fun W (hW : Below w.heap.size w W) => made16 w a0 b0 l0 c0 m0 d0_ z0 y0 w0 x0 W hW hE)
  clear hE w0 x0
  obtain ⟨xb, hxb⟩ : ∃ xb, w.heap.size = xb := ⟨_, rfl⟩
  obtain ⟨W0, hW0⟩ : ∃ W, w.alloc (.cells #[.slice a0 l0 c0, .slice b0 m0 d0_] 25) = W := ⟨_, rfl⟩
  have HX : Hid (Blk W0 xb 25 #[.slice a0 l0 c0, .slice b0 m0 d0_]) := Lib.hid (hW0 ▸ hxb ▸ Blk.new w _ _)
  have HB0 : Hid (Below w.heap.size w W0) := Lib.hid (hW0 ▸ (Below.refl _ w).alloc (Nat.le_refl _) _)
  have HEn0 := Lib.hid (HEn.out.below HB0.out)
  have HW0 := Lib.hid (And.intro hW0 hxb)
  clear hW0 hxb
  go_enter Tryz.func5, Tryz.ntmps5
  go_wp2_with fail
  rw [HW0.out.1, HW0.out.2]
  refine Calls.mono (awake16 W0 HEn0.out) ?_
  rintro e x1 ⟨rfl, hb1⟩
  have HB1 := Lib.hid (HB0.out.trans (hb1.mono HB0.out.size))
  have HX1 := Lib.hid (HX.out.below hb1 HX.out.lt)
  clear hb1
  have q0 := (HX1.out.cell 0).trans (show _ = some (Value.slice a0 l0 c0) by rfl)
  have q1 := (HX1.out.cell 1).trans (show _ = some (Value.slice b0 m0 d0_) by rfl)
  go_wp2_with fail
  refine Calls.mono (HM.out x1 HB1.out) ?_
  rintro e x2 ⟨t, p, S, T, rfl, hY⟩
  clear q0 q1
  obtain ⟨L, hL⟩ : ∃ L, plR y0 (min m0 60) = L := ⟨_, rfl⟩
  obtain ⟨st, hst⟩ : ∃ st, plI z0 (min l0 60) = st := ⟨_, rfl⟩
  rw [hL, hst] at hY
  have HYf := Lib.hid (fun W (hW : Tch x2 W []) => hY.tch0 hW)
  have HTa := Lib.hid (rtable_any t p S T L st x2 hY.R hY.I)
  have HI := Lib.hid hY.R.inv
  have HOk := Lib.hid hY.R.ok
  have HBe := Lib.hid (fun W (hW : Tch x2 W []) => HB1.out.trans ((hY.tch0 hW).bel.mono HB1.out.size))
  clear hL hst hY
  have HSr : Hid (SrtE (tabI L st)) := Lib.hid (tabI_SrtE HI.out.inv)
  have HTl := Lib.hid (tabI_len L st)
  have hn90 := HI.out.ninety
  obtain ⟨l, hl⟩ : ∃ l, tabI L st = l := ⟨_, rfl⟩
  obtain ⟨n, hn⟩ : ∃ n, l.length = n := ⟨_, rfl⟩
  have HN9 : Hid (n ≤ 90) := Lib.hid (by have h1 := HTl.out; rw [hl, hn] at h1; omega)
  have HGd : Hid (∀ (i : Nat) (e : EnI), l[i]? = some e → GoodH st e.2) := Lib.hid (fun i e he => by
    have h1 := tabI_mem (L := L) (st := st) (e := e) (by rw [hl]; exact List.mem_of_getElem? he)
    rw [h1.2.2]
    exact hopI_good HI.out.inv h1.2.1)
  have HPo : Hid (∀ (i : Nat) (e : EnI), l[i]? = some e → I64 e.2.1) := Lib.hid (fun i e he => by
    have h1 := tabI_mem (L := L) (st := st) (e := e) (by rw [hl]; exact List.mem_of_getElem? he)
    rw [h1.2.2]
    exact hop_i64 HI.out.inv HOk.out h1.2.1)
  rw [hl, hn] at HTa
  rw [hl] at HSr
  have HN := Lib.hid hn
  have HL := Lib.hid hl
  clear hl hn hn90
  go_wp2_with fail
  refine Calls.mono HTa.out ?_
  rintro e x3 ⟨A, c, rfl, ho, hT⟩
  have HRo := Lib.hid (fun W (hW : Tch x3 W []) => own_tch (own_mono ho (Nat.zero_le _)) hW (by simp))
  have HT3 := Lib.hid hT
  clear ho hT
  go_wp2
  go_loopw [7] (fun iv wr => ∃ i : Nat, iv = .int .i64 (i : Int) ∧ i ≤ n ∧ Hid (Tch x3 wr [])) (fun iv _ => n - (intOf iv).toNat)
  case atStart => exact ⟨0, rfl, Nat.zero_le _, Lib.hid (Tch.refl _ _)⟩
  case round =>
    obtain ⟨i, rfl, hi, hT⟩ := hrel
    have hn9 := HN9.out
    by_cases hin : i < n
    · have iI : (i : Int) < (n : Int) := by omega
      have i0 : (0 : Int) ≤ (i : Int) := by omega
      have i1 : IntKind.i64.wrap ((i : Int) + 1) = (i : Int) + 1 := by rw [IntKind.wrap_i64]; omega
      obtain ⟨x, hx⟩ : ∃ x, l[i]? = some x := ⟨_, List.getElem?_eq_getElem (by rw [HN.out]; exact hin)⟩
      have HXx := Lib.hid hx
      have HG := Lib.hid (HGd.out i x hx)
      have ho2 := HRo.out wr hT.out
      obtain ⟨g, rfl⟩ := slice_some ho2 (by omega)
      obtain ⟨t0, t1, t2, t3, t4, t5, t6, t7, t8⟩ := en_cells ho2 hx
      have HPp := Lib.hid (fun W (hW : Tch x2 W []) => portP0 p T st x.2.1 (HPo.out i x hx) W (HYf.out W hW).I)
      obtain ⟨⟨⟨xs, xh, xl⟩, xn⟩, ⟨hp, ⟨hs, hh, hl⟩, hw⟩⟩ := x
      obtain ⟨th, hth⟩ : ∃ th, thereI st hp = th := ⟨_, rfl⟩
      obtain ⟨⟨qn, qm, qt, qu⟩, hq⟩ : ∃ q, portI st hp = q := ⟨_, rfl⟩
      have hgood : (hw = true ∧ hp = 0 ∧ hs = false ∧ hh = 0 ∧ hl = 0) ∨ (hw = false ∧ th = true ∧ qu = true) := by
        cases hw with
        | true =>
          have h1 := HG.out.1 rfl
          simp only [zeroA, Prod.mk.injEq] at h1
          exact .inl ⟨rfl, h1.1, h1.2.1, h1.2.2.1, h1.2.2.2⟩
        | false =>
          have h1 := goodH_in HG.out rfl
          exact .inr ⟨rfl, hth.symm.trans h1.1, (congrArg (fun q => q.2.2.2) hq).symm.trans h1.2⟩
      simp only [hth, hq, prC] at HPp
      have HGo := Lib.hid hgood
      obtain ⟨vb, hvb⟩ : ∃ vb, wr.heap.size = vb := ⟨_, rfl⟩
      obtain ⟨W3, hW3⟩ : ∃ W, wr.alloc (.cells #[.int .i64 hp, .bool hs, .int .u64 (hh : Int), .int .u64 (hl : Int), .bool hw] 43) = W := ⟨_, rfl⟩
      have HT3' : Hid (Tch x3 W3 []) := Lib.hid (hW3 ▸ hT.out.alloc _)
      have HV := Lib.hid (fun W (hW : Tch W3 W []) => hW.blk (show Blk W3 vb 43 #[.int .i64 hp, .bool hs, .int .u64 (hh : Int), .int .u64 (hl : Int), .bool hw] from hW3 ▸ hvb ▸ Blk.new wr _ _) (by simp))
      have HW3 := Lib.hid (And.intro hW3 hvb)
      clear hx ho2 hth hq hgood hW3 hvb
      go_wp2_with fail
      rw [HW3.out.1, HW3.out.2]
      refine Calls.mono (HPp.out W3 (HT3.out.trans HT3'.out)) ?_
      rintro e w4 ⟨rfl, hT4⟩
      clear t0 t1 t2 t3 t4 t5 t6 t7 t8
      have hT5 : Tch W3 (w4.alloc (.cells #[.string qn, .int .u64 qm, .int .i64 qt, .bool qu] 74)) [] := hT4.alloc _
      obtain ⟨v0, v1, v2, v3, v4⟩ := (HV.out _ hT5).h5
      have v9 := ((Blk.new w4 74 #[.string qn, .int .u64 qm, .int .i64 qt, .bool qu]).cell 3).trans (show _ = some (Value.bool qu) by rfl)
      obtain ⟨W5, hW5⟩ : ∃ W, w4.alloc (.cells #[.string qn, .int .u64 qm, .int .i64 qt, .bool qu] 74) = W := ⟨_, rfl⟩
      have HT5 : Hid (Tch x3 W5 []) := Lib.hid (HT3'.out.trans (hW5 ▸ hT5))
      have HW5 := Lib.hid hW5
      have EZ := eq_neq 28 _ _ (eq_adR zeroA zeroA (decide_eq_true rfl))
      simp only [zeroA, Int.natCast_zero, Bool.not_true] at EZ
      clear hT4 hT5 hW5 HG
      rcases HGo.out with ⟨rfl, rfl, rfl, rfl, rfl⟩ | ⟨rfl, rfl, rfl⟩
      all_goals
        go_wp2
        rw [HW5.out]
        clear v0 v1 v2 v3 v4 v9
        try clear EZ
        by_cases hz : i = 0
        · subst hz
          have HC0 : Hid (Tch x3 W5.drew []) := Lib.hid HT5.out.drew
          refine wp_region_held_drew (S := (fun W => Tch x3 W [])) (by kernel_rfl) ?_ (fun hHeld => ?_)
          · (exact HC0.out)
          refine wpAnyH_take (i := 0) (oi := { dst := some 80, op := Go.Op.move (Go.Operand.tmp 7), type := 3, pos := "law.go:140", after := #[], guard := none }) (v := ?_) rfl (by kernel_rfl) (by kernel_rfl) (by kernel_rfl) (fun _ _ _ h => h) (Or.inl ⟨by rfl, ?_⟩) (by assumption) ?_
          rotate_left
          · intro w hSw
            (try dsimp only at hSw)
            go_simp
            try (with_reducible rfl)
          try simp only [Act.put, List.setIfInBounds_toArray, List.set_cons_zero, List.set_cons_succ]
          refine wpAnyH_take (i := 1) (oi := { dst := some 81, op := Go.Op.binOp Go.BinOp.gtr 3 (Go.Operand.tmp 80) (Go.Operand.const (Go.Value.int Go.IntKind.i64 0)) 3, type := 4, pos := "law.go:140", after := #[{ on := 0, ground := Go.Ground.data }], guard := none }) (v := ?_) rfl (by kernel_rfl) (by kernel_rfl) (by kernel_rfl) (fun _ _ _ h => h) (Or.inl ⟨by rfl, ?_⟩) (by assumption) ?_
          rotate_left
          · intro w hSw
            (try dsimp only at hSw)
            go_simp
            try (with_reducible rfl)
          try simp only [Act.put, List.setIfInBounds_toArray, List.set_cons_zero, List.set_cons_succ]
          refine wpAnyH_take (i := 2) (oi := { dst := some 82, op := Go.Op.move (Go.Operand.tmp 81), type := 4, pos := "law.go:140", after := #[{ on := 1, ground := Go.Ground.data }], guard := none }) (v := ?_) rfl (by kernel_rfl) (by kernel_rfl) (by kernel_rfl) (fun _ _ _ h => h) (Or.inl ⟨by rfl, ?_⟩) (by assumption) ?_
          rotate_left
          · intro w hSw
            (try dsimp only at hSw)
            go_simp
            try (with_reducible rfl)
          try simp only [Act.put, List.setIfInBounds_toArray, List.set_cons_zero, List.set_cons_succ]
          refine wpAnyH_take (i := 3) (oi := { dst := some 83, op := Go.Op.move (Go.Operand.tmp 6), type := 59, pos := "law.go:140", after := #[{ on := 2, ground := Go.Ground.guard }], guard := some (2, true) }) (v := undef) rfl (by kernel_rfl) (by kernel_rfl) (by kernel_rfl) (fun _ _ _ h => h) (Or.inr ⟨by rfl, rfl⟩) (by assumption) ?_
          try simp only [Act.put, List.setIfInBounds_toArray, List.set_cons_zero, List.set_cons_succ]
          refine wpAnyH_take (i := 4) (oi := { dst := some 84, op := Go.Op.move (Go.Operand.tmp 7), type := 3, pos := "law.go:140", after := #[{ on := 2, ground := Go.Ground.guard }], guard := some (2, true) }) (v := undef) rfl (by kernel_rfl) (by kernel_rfl) (by kernel_rfl) (fun _ _ _ h => h) (Or.inr ⟨by rfl, rfl⟩) (by assumption) ?_
          try simp only [Act.put, List.setIfInBounds_toArray, List.set_cons_zero, List.set_cons_succ]
          refine wpAnyH_take (i := 5) (oi := { dst := some 85, op := Go.Op.binOp Go.BinOp.sub 3 (Go.Operand.tmp 84) (Go.Operand.const (Go.Value.int Go.IntKind.i64 1)) 3, type := 3, pos := "law.go:140", after := #[{ on := 4, ground := Go.Ground.data }, { on := 2, ground := Go.Ground.guard }], guard := some (2, true) }) (v := undef) rfl (by kernel_rfl) (by kernel_rfl) (by kernel_rfl) (fun _ _ _ h => h) (Or.inr ⟨by rfl, rfl⟩) (by assumption) ?_
          try simp only [Act.put, List.setIfInBounds_toArray, List.set_cons_zero, List.set_cons_succ]
          refine wpAnyH_take (i := 6) (oi := { dst := some 86, op := Go.Op.indexAddr 59 (Go.Operand.tmp 83) (Go.Operand.tmp 85), type := 0, pos := "law.go:140", after := #[{ on := 3, ground := Go.Ground.data }, { on := 5, ground := Go.Ground.data }, { on := 2, ground := Go.Ground.guard }], guard := some (2, true) }) (v := undef) rfl (by kernel_rfl) (by kernel_rfl) (by kernel_rfl) (fun _ _ _ h => h) (Or.inr ⟨by rfl, rfl⟩) (by assumption) ?_
          try simp only [Act.put, List.setIfInBounds_toArray, List.set_cons_zero, List.set_cons_succ]
          refine wpAnyH_take (i := 7) (oi := { dst := some 87, op := Go.Op.fieldAddr 70 (Go.Operand.tmp 86) 0, type := 0, pos := "law.go:140", after := #[{ on := 6, ground := Go.Ground.data }, { on := 2, ground := Go.Ground.guard }], guard := some (2, true) }) (v := undef) rfl (by kernel_rfl) (by kernel_rfl) (by kernel_rfl) (fun _ _ _ h => h) (Or.inr ⟨by rfl, rfl⟩) (by assumption) ?_
          try simp only [Act.put, List.setIfInBounds_toArray, List.set_cons_zero, List.set_cons_succ]
          refine wpAnyH_take (i := 8) (oi := { dst := some 88, op := Go.Op.load 30 (Go.Operand.tmp 87), type := 30, pos := "law.go:140", after := #[{ on := 7, ground := Go.Ground.data }, { on := 2, ground := Go.Ground.guard }], guard := some (2, true) }) (v := undef) rfl (by kernel_rfl) (by kernel_rfl) (by kernel_rfl) (fun _ _ _ h => h) (Or.inr ⟨by rfl, rfl⟩) (by assumption) ?_
          try simp only [Act.put, List.setIfInBounds_toArray, List.set_cons_zero, List.set_cons_succ]
          refine wpAnyH_take (i := 9) (oi := { dst := some 89, op := Go.Op.move (Go.Operand.tmp 6), type := 59, pos := "law.go:140", after := #[{ on := 2, ground := Go.Ground.guard }], guard := some (2, true) }) (v := undef) rfl (by kernel_rfl) (by kernel_rfl) (by kernel_rfl) (fun _ _ _ h => h) (Or.inr ⟨by rfl, rfl⟩) (by assumption) ?_
          try simp only [Act.put, List.setIfInBounds_toArray, List.set_cons_zero, List.set_cons_succ]
          refine wpAnyH_take (i := 10) (oi := { dst := some 90, op := Go.Op.move (Go.Operand.tmp 7), type := 3, pos := "law.go:140", after := #[{ on := 2, ground := Go.Ground.guard }], guard := some (2, true) }) (v := undef) rfl (by kernel_rfl) (by kernel_rfl) (by kernel_rfl) (fun _ _ _ h => h) (Or.inr ⟨by rfl, rfl⟩) (by assumption) ?_
          try simp only [Act.put, List.setIfInBounds_toArray, List.set_cons_zero, List.set_cons_succ]
          refine wpAnyH_take (i := 11) (oi := { dst := some 91, op := Go.Op.indexAddr 59 (Go.Operand.tmp 89) (Go.Operand.tmp 90), type := 0, pos := "law.go:140", after := #[{ on := 9, ground := Go.Ground.data }, { on := 10, ground := Go.Ground.data }, { on := 2, ground := Go.Ground.guard }], guard := some (2, true) }) (v := undef) rfl (by kernel_rfl) (by kernel_rfl) (by kernel_rfl) (fun _ _ _ h => h) (Or.inr ⟨by rfl, rfl⟩) (by assumption) ?_
          try simp only [Act.put, List.setIfInBounds_toArray, List.set_cons_zero, List.set_cons_succ]
          refine wpAnyH_take (i := 12) (oi := { dst := some 92, op := Go.Op.fieldAddr 70 (Go.Operand.tmp 91) 0, type := 0, pos := "law.go:140", after := #[{ on := 11, ground := Go.Ground.data }, { on := 2, ground := Go.Ground.guard }], guard := some (2, true) }) (v := undef) rfl (by kernel_rfl) (by kernel_rfl) (by kernel_rfl) (fun _ _ _ h => h) (Or.inr ⟨by rfl, rfl⟩) (by assumption) ?_
          try simp only [Act.put, List.setIfInBounds_toArray, List.set_cons_zero, List.set_cons_succ]
          refine wpAnyH_take (i := 13) (oi := { dst := some 93, op := Go.Op.load 30 (Go.Operand.tmp 92), type := 30, pos := "law.go:140", after := #[{ on := 12, ground := Go.Ground.data }, { on := 2, ground := Go.Ground.guard }], guard := some (2, true) }) (v := undef) rfl (by kernel_rfl) (by kernel_rfl) (by kernel_rfl) (fun _ _ _ h => h) (Or.inr ⟨by rfl, rfl⟩) (by assumption) ?_
          try simp only [Act.put, List.setIfInBounds_toArray, List.set_cons_zero, List.set_cons_succ]
          refine wpAnyH_take (i := 14) (oi := { dst := some 94, op := Go.Op.call { callee := Go.Callee.value (Go.Operand.func 27), args := #[Go.Operand.tmp 88, Go.Operand.tmp 93], argTypes := #[30, 30] }, type := 4, pos := "law.go:140", after := #[{ on := 8, ground := Go.Ground.data }, { on := 13, ground := Go.Ground.data }, { on := 2, ground := Go.Ground.chain }, { on := 2, ground := Go.Ground.guard }], guard := some (2, true) }) (v := undef) rfl (by kernel_rfl) (by kernel_rfl) (by kernel_rfl) (fun _ _ _ h => h) (Or.inr ⟨by rfl, rfl⟩) (by assumption) ?_
          try simp only [Act.put, List.setIfInBounds_toArray, List.set_cons_zero, List.set_cons_succ]
          refine wpAnyH_take (i := 15) (oi := { dst := some 95, op := Go.Op.unOp Go.UnOp.not 4 (Go.Operand.tmp 94), type := 4, pos := "law.go:140", after := #[{ on := 14, ground := Go.Ground.data }, { on := 2, ground := Go.Ground.guard }], guard := some (2, true) }) (v := undef) rfl (by kernel_rfl) (by kernel_rfl) (by kernel_rfl) (fun _ _ _ h => h) (Or.inr ⟨by rfl, rfl⟩) (by assumption) ?_
          try simp only [Act.put, List.setIfInBounds_toArray, List.set_cons_zero, List.set_cons_succ]
          refine wpAnyH_take (i := 16) (oi := { dst := some 96, op := Go.Op.pick (Go.Operand.tmp 82) (Go.Operand.tmp 95) (Go.Operand.const (Go.Value.bool false)), type := 4, pos := "law.go:140", after := #[{ on := 2, ground := Go.Ground.data }, { on := 15, ground := Go.Ground.data }], guard := none }) (v := ?_) rfl (by kernel_rfl) (by kernel_rfl) (by kernel_rfl) (fun _ _ _ h => h) (Or.inl ⟨by rfl, ?_⟩) (by assumption) ?_
          rotate_left
          · intro w hSw
            (try dsimp only at hSw)
            go_simp
            try (with_reducible rfl)
          try simp only [Act.put, List.setIfInBounds_toArray, List.set_cons_zero, List.set_cons_succ]
          refine wpAnyH_done (by kernel_rfl) ?_ _
          go_wp2
          go_roundw
          case rel => exact ⟨1, by go_num, by omega, HC0⟩
          case measure => simp [intOf]; omega
        · obtain ⟨j, hj⟩ : ∃ j, i = j + 1 := ⟨i - 1, by omega⟩
          have dI : (0 : Int) < (i : Int) := by omega
          have dN : decide (0 < i) = true := decide_eq_true (by omega)
          have dB : decide ((0 : Int) < (i : Int)) = true := decide_eq_true dI
          have j1 : IntKind.i64.wrap ((i : Int) - 1) = (j : Int) := by rw [IntKind.wrap_i64]; omega
          have j0 : (0 : Int) ≤ (j : Int) := by omega
          have jn : (j : Int) < (n : Int) := by omega
          obtain ⟨y, hy⟩ : ∃ y, l[j]? = some y := ⟨_, List.getElem?_eq_getElem (by rw [HN.out]; omega)⟩
          have hlt : ltP y.1 ((xs, xh, xl), xn) := by
            have h1 := List.pairwise_iff_getElem.1 HSr.out.srt j i (by rw [HN.out]; omega) (by rw [HN.out]; omega) (by omega)
            have e1 := (List.getElem?_eq_some_iff.1 hy).2
            have e2 := (List.getElem?_eq_some_iff.1 HXx.out).2
            rw [e1, e2] at h1
            exact h1
          have hoy := HSr.out.ok y (List.mem_of_getElem? hy)
          have hox := HSr.out.ok _ (List.mem_of_getElem? HXx.out)
          have hle := (hoy.less hox).2 hlt
          have HCy := Lib.hid (fun W (hW : Tch x3 W []) => And.intro (en_cells (HRo.out W hW) hy) (en_cells (HRo.out W hW) HXx.out))
          obtain ⟨⟨⟨ys, yh, yl⟩, yn⟩, yhp⟩ := y
          have HLe := Lib.hid (fun W => rpless_at ys yh yl yn xs xh xl xn hoy.2.2.1 hoy.2.2.2 hox.2.2.1 hox.2.2.2 hle W)
          have HC := Lib.hid (fun W (hW : Tch x3 W []) => show (W.cell? ⟨g, j * 9, none⟩ = some (Value.bool ys) ∧ W.cell? ⟨g, j * 9 + 1, none⟩ = some (Value.int .u64 (yh : Int)) ∧ W.cell? ⟨g, j * 9 + 2, none⟩ = some (Value.int .u64 (yl : Int)) ∧ W.cell? ⟨g, j * 9 + 3, none⟩ = some (Value.int .i64 yn)) ∧ (W.cell? ⟨g, i * 9, none⟩ = some (Value.bool xs) ∧ W.cell? ⟨g, i * 9 + 1, none⟩ = some (Value.int .u64 (xh : Int)) ∧ W.cell? ⟨g, i * 9 + 2, none⟩ = some (Value.int .u64 (xl : Int)) ∧ W.cell? ⟨g, i * 9 + 3, none⟩ = some (Value.int .i64 xn)) from ⟨⟨(HCy.out W hW).1.1, (HCy.out W hW).1.2.1, (HCy.out W hW).1.2.2.1, (HCy.out W hW).1.2.2.2.1⟩, (HCy.out W hW).2.1, (HCy.out W hW).2.2.1, (HCy.out W hW).2.2.2.1, (HCy.out W hW).2.2.2.2.1⟩)
          have HC0 := Lib.hid (HC.out _ HT5.out.drew)
          clear hj hy hlt hoy hox hle hz
          refine wp_region_held_drew (S := (fun W => (W.cell? ⟨g, j * 9, none⟩ = some (Value.bool ys) ∧ W.cell? ⟨g, j * 9 + 1, none⟩ = some (Value.int .u64 (yh : Int)) ∧ W.cell? ⟨g, j * 9 + 2, none⟩ = some (Value.int .u64 (yl : Int)) ∧ W.cell? ⟨g, j * 9 + 3, none⟩ = some (Value.int .i64 yn)) ∧ (W.cell? ⟨g, i * 9, none⟩ = some (Value.bool xs) ∧ W.cell? ⟨g, i * 9 + 1, none⟩ = some (Value.int .u64 (xh : Int)) ∧ W.cell? ⟨g, i * 9 + 2, none⟩ = some (Value.int .u64 (xl : Int)) ∧ W.cell? ⟨g, i * 9 + 3, none⟩ = some (Value.int .i64 xn)))) (by kernel_rfl) ?_ (fun hHeld => ?_)
          · (first | exact HC0.out | exact HC6.out)
          refine wpAnyH_take (i := 0) (oi := { dst := some 80, op := Go.Op.move (Go.Operand.tmp 7), type := 3, pos := "law.go:140", after := #[], guard := none }) (v := ?_) rfl (by kernel_rfl) (by kernel_rfl) (by kernel_rfl) (fun _ _ _ h => h) (Or.inl ⟨by rfl, ?_⟩) (by assumption) ?_
          rotate_left
          · intro w hSw
            (try dsimp only at hSw)
            go_simp
            try (with_reducible rfl)
          try simp only [Act.put, List.setIfInBounds_toArray, List.set_cons_zero, List.set_cons_succ]
          refine wpAnyH_take (i := 1) (oi := { dst := some 81, op := Go.Op.binOp Go.BinOp.gtr 3 (Go.Operand.tmp 80) (Go.Operand.const (Go.Value.int Go.IntKind.i64 0)) 3, type := 4, pos := "law.go:140", after := #[{ on := 0, ground := Go.Ground.data }], guard := none }) (v := ?_) rfl (by kernel_rfl) (by kernel_rfl) (by kernel_rfl) (fun _ _ _ h => h) (Or.inl ⟨by rfl, ?_⟩) (by assumption) ?_
          rotate_left
          · intro w hSw
            (try dsimp only at hSw)
            go_simp
            try (with_reducible rfl)
          try simp only [Act.put, List.setIfInBounds_toArray, List.set_cons_zero, List.set_cons_succ]
          refine wpAnyH_take (i := 2) (oi := { dst := some 82, op := Go.Op.move (Go.Operand.tmp 81), type := 4, pos := "law.go:140", after := #[{ on := 1, ground := Go.Ground.data }], guard := none }) (v := ?_) rfl (by kernel_rfl) (by kernel_rfl) (by kernel_rfl) (fun _ _ _ h => h) (Or.inl ⟨by rfl, ?_⟩) (by assumption) ?_
          rotate_left
          · intro w hSw
            (try dsimp only at hSw)
            go_simp
            try (with_reducible rfl)
          try simp only [Act.put, List.setIfInBounds_toArray, List.set_cons_zero, List.set_cons_succ]
          refine wpAnyH_take (i := 3) (oi := { dst := some 83, op := Go.Op.move (Go.Operand.tmp 6), type := 59, pos := "law.go:140", after := #[{ on := 2, ground := Go.Ground.guard }], guard := some (2, true) }) (v := ?_) rfl (by kernel_rfl) (by kernel_rfl) (by kernel_rfl) (fun _ _ _ h => h) (Or.inl ⟨by rfl, ?_⟩) (by assumption) ?_
          rotate_left
          · intro w hSw
            (try dsimp only at hSw)
            go_simp
            try (with_reducible rfl)
          try simp only [Act.put, List.setIfInBounds_toArray, List.set_cons_zero, List.set_cons_succ]
          refine wpAnyH_take (i := 4) (oi := { dst := some 84, op := Go.Op.move (Go.Operand.tmp 7), type := 3, pos := "law.go:140", after := #[{ on := 2, ground := Go.Ground.guard }], guard := some (2, true) }) (v := ?_) rfl (by kernel_rfl) (by kernel_rfl) (by kernel_rfl) (fun _ _ _ h => h) (Or.inl ⟨by rfl, ?_⟩) (by assumption) ?_
          rotate_left
          · intro w hSw
            (try dsimp only at hSw)
            go_simp
            try (with_reducible rfl)
          try simp only [Act.put, List.setIfInBounds_toArray, List.set_cons_zero, List.set_cons_succ]
          refine wpAnyH_take (i := 5) (oi := { dst := some 85, op := Go.Op.binOp Go.BinOp.sub 3 (Go.Operand.tmp 84) (Go.Operand.const (Go.Value.int Go.IntKind.i64 1)) 3, type := 3, pos := "law.go:140", after := #[{ on := 4, ground := Go.Ground.data }, { on := 2, ground := Go.Ground.guard }], guard := some (2, true) }) (v := ?_) rfl (by kernel_rfl) (by kernel_rfl) (by kernel_rfl) (fun _ _ _ h => h) (Or.inl ⟨by rfl, ?_⟩) (by assumption) ?_
          rotate_left
          · intro w hSw
            (try dsimp only at hSw)
            go_simp
            try (with_reducible rfl)
          try simp only [Act.put, List.setIfInBounds_toArray, List.set_cons_zero, List.set_cons_succ]
          refine wpAnyH_take (i := 6) (oi := { dst := some 86, op := Go.Op.indexAddr 59 (Go.Operand.tmp 83) (Go.Operand.tmp 85), type := 0, pos := "law.go:140", after := #[{ on := 3, ground := Go.Ground.data }, { on := 5, ground := Go.Ground.data }, { on := 2, ground := Go.Ground.guard }], guard := some (2, true) }) (v := ?_) rfl (by kernel_rfl) (by kernel_rfl) (by kernel_rfl) (fun _ _ _ h => h) (Or.inl ⟨by rfl, ?_⟩) (by assumption) ?_
          rotate_left
          · intro w hSw
            (try dsimp only at hSw)
            go_simp
            try (with_reducible rfl)
          try simp only [Act.put, List.setIfInBounds_toArray, List.set_cons_zero, List.set_cons_succ]
          refine wpAnyH_take (i := 7) (oi := { dst := some 87, op := Go.Op.fieldAddr 70 (Go.Operand.tmp 86) 0, type := 0, pos := "law.go:140", after := #[{ on := 6, ground := Go.Ground.data }, { on := 2, ground := Go.Ground.guard }], guard := some (2, true) }) (v := ?_) rfl (by kernel_rfl) (by kernel_rfl) (by kernel_rfl) (fun _ _ _ h => h) (Or.inl ⟨by rfl, ?_⟩) (by assumption) ?_
          rotate_left
          · intro w hSw
            (try dsimp only at hSw)
            go_simp
            try (with_reducible rfl)
          try simp only [Act.put, List.setIfInBounds_toArray, List.set_cons_zero, List.set_cons_succ]
          refine wpAnyH_take (i := 8) (oi := { dst := some 88, op := Go.Op.load 30 (Go.Operand.tmp 87), type := 30, pos := "law.go:140", after := #[{ on := 7, ground := Go.Ground.data }, { on := 2, ground := Go.Ground.guard }], guard := some (2, true) }) (v := ?_) rfl (by kernel_rfl) (by kernel_rfl) (by kernel_rfl) (fun _ _ _ h => h) (Or.inl ⟨by rfl, ?_⟩) (by assumption) ?_
          rotate_left
          · intro w hSw
            (try dsimp only at hSw)
            go_simp
            try (with_reducible rfl)
          try simp only [Act.put, List.setIfInBounds_toArray, List.set_cons_zero, List.set_cons_succ]
          refine wpAnyH_take (i := 9) (oi := { dst := some 89, op := Go.Op.move (Go.Operand.tmp 6), type := 59, pos := "law.go:140", after := #[{ on := 2, ground := Go.Ground.guard }], guard := some (2, true) }) (v := ?_) rfl (by kernel_rfl) (by kernel_rfl) (by kernel_rfl) (fun _ _ _ h => h) (Or.inl ⟨by rfl, ?_⟩) (by assumption) ?_
          rotate_left
          · intro w hSw
            (try dsimp only at hSw)
            go_simp
            try (with_reducible rfl)
          try simp only [Act.put, List.setIfInBounds_toArray, List.set_cons_zero, List.set_cons_succ]
          refine wpAnyH_take (i := 10) (oi := { dst := some 90, op := Go.Op.move (Go.Operand.tmp 7), type := 3, pos := "law.go:140", after := #[{ on := 2, ground := Go.Ground.guard }], guard := some (2, true) }) (v := ?_) rfl (by kernel_rfl) (by kernel_rfl) (by kernel_rfl) (fun _ _ _ h => h) (Or.inl ⟨by rfl, ?_⟩) (by assumption) ?_
          rotate_left
          · intro w hSw
            (try dsimp only at hSw)
            go_simp
            try (with_reducible rfl)
          try simp only [Act.put, List.setIfInBounds_toArray, List.set_cons_zero, List.set_cons_succ]
          refine wpAnyH_take (i := 11) (oi := { dst := some 91, op := Go.Op.indexAddr 59 (Go.Operand.tmp 89) (Go.Operand.tmp 90), type := 0, pos := "law.go:140", after := #[{ on := 9, ground := Go.Ground.data }, { on := 10, ground := Go.Ground.data }, { on := 2, ground := Go.Ground.guard }], guard := some (2, true) }) (v := ?_) rfl (by kernel_rfl) (by kernel_rfl) (by kernel_rfl) (fun _ _ _ h => h) (Or.inl ⟨by rfl, ?_⟩) (by assumption) ?_
          rotate_left
          · intro w hSw
            (try dsimp only at hSw)
            go_simp
            try (with_reducible rfl)
          try simp only [Act.put, List.setIfInBounds_toArray, List.set_cons_zero, List.set_cons_succ]
          refine wpAnyH_take (i := 12) (oi := { dst := some 92, op := Go.Op.fieldAddr 70 (Go.Operand.tmp 91) 0, type := 0, pos := "law.go:140", after := #[{ on := 11, ground := Go.Ground.data }, { on := 2, ground := Go.Ground.guard }], guard := some (2, true) }) (v := ?_) rfl (by kernel_rfl) (by kernel_rfl) (by kernel_rfl) (fun _ _ _ h => h) (Or.inl ⟨by rfl, ?_⟩) (by assumption) ?_
          rotate_left
          · intro w hSw
            (try dsimp only at hSw)
            go_simp
            try (with_reducible rfl)
          try simp only [Act.put, List.setIfInBounds_toArray, List.set_cons_zero, List.set_cons_succ]
          refine wpAnyH_take (i := 13) (oi := { dst := some 93, op := Go.Op.load 30 (Go.Operand.tmp 92), type := 30, pos := "law.go:140", after := #[{ on := 12, ground := Go.Ground.data }, { on := 2, ground := Go.Ground.guard }], guard := some (2, true) }) (v := ?_) rfl (by kernel_rfl) (by kernel_rfl) (by kernel_rfl) (fun _ _ _ h => h) (Or.inl ⟨by rfl, ?_⟩) (by assumption) ?_
          rotate_left
          · intro w hSw
            (try dsimp only at hSw)
            go_simp
            try (with_reducible rfl)
          try simp only [Act.put, List.setIfInBounds_toArray, List.set_cons_zero, List.set_cons_succ]
          refine wpAnyH_ready (rs := [14]) (by kernel_rfl) (by simp) ?_
          refine AllReadyH.cons (o := { dst := some 94, op := Go.Op.call { callee := Go.Callee.value (Go.Operand.func 27), args := #[Go.Operand.tmp 88, Go.Operand.tmp 93], argTypes := #[30, 30] }, type := 4, pos := "law.go:140", after := #[{ on := 8, ground := Go.Ground.data }, { on := 13, ground := Go.Ground.data }, { on := 2, ground := Go.Ground.chain }, { on := 2, ground := Go.Ground.guard }], guard := some (2, true) }) rfl (fun K hK => ?_) AllReadyH.nil
          go_simp
          (go_at_call 27; (with_reducible refine Calls.mono (HLe.out _) ?_); rintro e w6 ⟨rfl, hb6⟩; have HT6 : Hid (Tch x3 w6 []) := Lib.hid (HT5.out.drew.trans (Tch.of_below [] hb6)); have HC6 := Lib.hid (HC.out w6 HT6.out); clear hb6)
          go_wp2_with fail
          refine hK.out _ _ ?_ (fun hHeld => ?_)
          · (first | exact HC0.out | exact HC6.out)
          clear hK K
          try simp only [Act.put, List.setIfInBounds_toArray, List.set_cons_zero, List.set_cons_succ]
          refine wpAnyH_take (i := 15) (oi := { dst := some 95, op := Go.Op.unOp Go.UnOp.not 4 (Go.Operand.tmp 94), type := 4, pos := "law.go:140", after := #[{ on := 14, ground := Go.Ground.data }, { on := 2, ground := Go.Ground.guard }], guard := some (2, true) }) (v := ?_) rfl (by kernel_rfl) (by kernel_rfl) (by kernel_rfl) (fun _ _ _ h => h) (Or.inl ⟨by rfl, ?_⟩) (by assumption) ?_
          rotate_left
          · intro w hSw
            (try dsimp only at hSw)
            go_simp
            try (with_reducible rfl)
          try simp only [Act.put, List.setIfInBounds_toArray, List.set_cons_zero, List.set_cons_succ]
          refine wpAnyH_take (i := 16) (oi := { dst := some 96, op := Go.Op.pick (Go.Operand.tmp 82) (Go.Operand.tmp 95) (Go.Operand.const (Go.Value.bool false)), type := 4, pos := "law.go:140", after := #[{ on := 2, ground := Go.Ground.data }, { on := 15, ground := Go.Ground.data }], guard := none }) (v := ?_) rfl (by kernel_rfl) (by kernel_rfl) (by kernel_rfl) (fun _ _ _ h => h) (Or.inl ⟨by rfl, ?_⟩) (by assumption) ?_
          rotate_left
          · intro w hSw
            (try dsimp only at hSw)
            go_simp
            try (with_reducible rfl)
          try simp only [Act.put, List.setIfInBounds_toArray, List.set_cons_zero, List.set_cons_succ]
          refine wpAnyH_done (by kernel_rfl) ?_ _
          clear dI dN dB j1 j0 jn
          go_wp2
          go_roundw
          case rel => exact ⟨i + 1, by go_num, hin, HT6⟩
          case measure => simp [intOf]; omega
    · have iI : ¬ (i : Int) < (n : Int) := by omega
      have HT9 := Lib.hid (HT3.out.trans hT.out)
      have HTx := Lib.hid hT.out
      have HPr := Lib.hid (prefsP0 t S L wr (HYf.out wr HT9.out).R)
      have hm90 := HI.out.ninety
      have HAt := Lib.hid (fun i z (hz : (prefsI L)[i]? = some z) e (he : entI L st z = some e) => tabI_at hz he)
      have HTs := Lib.hid (fun i z (hz : (prefsI L)[i]? = some z) => tabK_succ (st := st) hz)
      have HTe := Lib.hid (fun i (hi : (prefsI L).length ≤ i) => tabK_all (L := L) (st := st) hi)
      have HOq : Hid (∀ z ∈ prefsI L, PfOk z) := Lib.hid (fun z hz => by
        obtain ⟨u, hu, e⟩ := (prefsI_mem HI.out.inv).1 hz
        rw [← e]; exact (HOk.out u hu).1)
      have HTk := Lib.hid (fun i => tabK_le L st i)
      obtain ⟨ql, hql⟩ : ∃ ql, prefsI L = ql := ⟨_, rfl⟩
      obtain ⟨m, hm⟩ : ∃ m, ql.length = m := ⟨_, rfl⟩
      rw [hql] at HPr hm90 HAt HTs HTe HOq HTk
      rw [hm] at HPr hm90 HTe HTk
      have HMl := Lib.hid hm
      clear hql hm hi hin
      go_wp2_with fail
      refine Calls.mono HPr.out ?_
      rintro e w5 ⟨B, d, rfl, ho5, hT5⟩
      have HRq := Lib.hid (fun W (hW : Tch w5 W []) => own_tch (own_mono ho5 (Nat.zero_le _)) hW (by simp))
      have HT5 := Lib.hid (HT9.out.trans hT5)
      have HT5x := Lib.hid (HTx.out.trans hT5)
      clear ho5 hT5
      go_wp2
      go_loopw [12, 13] (fun kv jv wr2 => ∃ (q k : Nat), kv = .int .i64 (k : Int) ∧ jv = .int .i64 (q : Int) ∧ q ≤ m ∧ k ≤ 90 ∧ Hid ((tabK L st q).length = k) ∧ Hid (Tch w5 wr2 [])) (fun _ jv _ => m - (intOf jv).toNat)
      case atStart => exact ⟨0, 0, rfl, rfl, Nat.zero_le _, Nat.zero_le _, Lib.hid (by rw [tabK_zero]; rfl), Lib.hid (Tch.refl _ _)⟩
      case round =>
        obtain ⟨q, k, rfl, rfl, hq, hk90, hk, hTq⟩ := hrel
        have hn9 := HN9.out
        by_cases hqm : q < m
        · have qI : (q : Int) < (m : Int) := by omega
          have q0 : (0 : Int) ≤ (q : Int) := by omega
          have q1 : IntKind.i64.wrap ((q : Int) + 1) = (q : Int) + 1 := by rw [IntKind.wrap_i64]; omega
          have k1 : IntKind.i64.wrap ((k : Int) + 1) = (k : Int) + 1 := by rw [IntKind.wrap_i64]; omega
          have HQ1 := Lib.hid (And.intro q1 k1)
          obtain ⟨z, hz⟩ : ∃ z, ql[q]? = some z := ⟨_, List.getElem?_eq_getElem (by rw [HMl.out]; exact hqm)⟩
          have HSu := Lib.hid (HTs.out q z hz)
          have HAz := Lib.hid (HAt.out q z hz)
          have ho2 := HRq.out wr hTq.out
          obtain ⟨g2, rfl⟩ := slice_some ho2 (by omega)
          have HZc := Lib.hid (fun W (hW : Tch w5 W []) => pf_cells (HRq.out W hW) hz)
          obtain ⟨c0, c1, c2, c3⟩ := pf_cells ho2 hz
          have HH := Lib.hid (fun W (hW : Tch x2 W []) => rhop_any t p S T L st z (HOq.out z (List.mem_of_getElem? hz)) W (HYf.out W hW).R (HYf.out W hW).I)
          have HEn : Hid (entI L st z = if (hopI L st z).2 = 0 then some (z, (hopI L st z).1) else none) := Lib.hid rfl
          have HEr := Lib.hid (hopI_err L st z)
          have HTw := Lib.hid (HT5.out.trans hTq.out)
          obtain ⟨⟨⟨ho, ⟨hs, hh, hl⟩, ha⟩, he⟩, hD⟩ : ∃ D, hopI L st z = D := ⟨_, rfl⟩
          rw [hD] at HH HEn HEr
          obtain ⟨⟨zs, zh, zl⟩, zb⟩ := z
          clear hz ho2 hD q1 k1
          go_wp2_with fail
          refine Calls.mono (HH.out wr HTw.out) ?_
          rintro e w7 ⟨rfl, hT7⟩
          have hT8 : Tch w5 (w7.alloc (.cells #[.int .i64 ho, .bool hs, .int .u64 (hh : Int), .int .u64 (hl : Int), .bool ha] 43)) [] := (hTq.out.trans hT7).alloc _
          have HV8 := Lib.hid (Blk.new w7 43 #[.int .i64 ho, .bool hs, .int .u64 (hh : Int), .int .u64 (hl : Int), .bool ha])
          have HT8 := Lib.hid hT8
          clear hT7 c0 c1 c2 c3 hT8
          obtain ⟨vb, hvb⟩ : ∃ vb, w7.heap.size = vb := ⟨_, rfl⟩
          obtain ⟨W8, hW8⟩ : ∃ W, w7.alloc (.cells #[.int .i64 ho, .bool hs, .int .u64 (hh : Int), .int .u64 (hl : Int), .bool ha] 43) = W := ⟨_, rfl⟩
          have HW8 := Lib.hid (And.intro hW8 hvb)
          rw [hW8] at HV8 HT8
          rw [hvb] at HV8
          clear hW8 hvb
          by_cases h0 : he = 0
          · subst h0
            have HSu2 : Hid (tabK L st (q + 1) = tabK L st q ++ [(((zs, zh, zl), zb), (ho, (hs, hh, hl), ha))]) := Lib.hid (by rw [HSu.out, HEn.out]; rfl)
            have hat := HAz.out _ (HEn.out.trans (if_pos rfl))
            rw [hk.out, HL.out] at hat
            have hkn : k < n := by have := (List.getElem?_eq_some_iff.1 hat).1; rw [HN.out] at this; exact this
            have kI : (k : Int) < (n : Int) := by omega
            have kG : ¬ (n : Int) ≤ (k : Int) := by omega
            have kGd : decide ((n : Int) ≤ (k : Int)) = false := decide_eq_false kG
            have kGn : decide (n ≤ k) = false := decide_eq_false (by omega)
            have k0 : (0 : Int) ≤ (k : Int) := by omega
            obtain ⟨gA, hgA⟩ := slice_some (HRo.out _ (HT5x.out.trans HT8.out)) (by omega)
            subst hgA
            have HC := Lib.hid (fun W (hW : Tch W8 W []) => And.intro (en_cells (HRo.out W (HT5x.out.trans (HT8.out.trans hW))) hat) (And.intro (HZc.out W (HT8.out.trans hW)) (hW.blk HV8.out (by simp)).h5))
            obtain ⟨⟨a0, a1, a2, a3, a4, a5, a6, a7, a8⟩, ⟨c0, c1, c2, c3⟩, v0, v1, v2, v3, v4⟩ := HC.out W8 (Tch.refl _ _)
            have E1 := eq_neq 30 _ _ (eq_pfR ((zs, zh, zl), zb) ((zs, zh, zl), zb) (decide_eq_true rfl))
            have E2 := eq_neq 43 _ _ (eq_hpR (ho, (hs, hh, hl), ha) (ho, (hs, hh, hl), ha) (decide_eq_true rfl))
            simp only [Bool.not_true] at E1 E2
            have HK2 : Hid ((tabK L st (q + 1)).length = k + 1) := Lib.hid (by rw [HSu2.out, List.length_append, hk.out]; rfl)
            have hk91 : k + 1 ≤ 90 := by have h1 := HTk.out (q + 1); rw [HK2.out] at h1; omega
            have HK91 := Lib.hid hk91
            clear hat hkn hk91
            go_wp2
            rw [HW8.out.1, HW8.out.2]
            go_quiet (fail)
            have HT9 : Hid (Tch w5 (W8.drewN nq) []) := Lib.hid (HT8.out.drewN nq)
            clear a0 a1 a2 a3 a4 a5 a6 a7 a8 c0 c1 c2 c3 v0 v1 v2 v3 v4 E1 E2 kI kG kGd kGn k0
            obtain ⟨q1, k1⟩ := HQ1.out
            go_wp2
            go_roundw
            case rel => exact ⟨q + 1, k + 1, by go_num, by go_num, hqm, HK91.out, HK2, HT9⟩
            case measure => simp [intOf]; omega
          · have b0 : (he == 0) = false := by simpa using h0
            have HSu2 : Hid ((tabK L st (q + 1)).length = k) := Lib.hid (by rw [HSu.out, HEn.out, if_neg h0]; simp; exact hk.out)
            obtain ⟨hee, hz0⟩ := HEr.out.resolve_left h0
            simp only [zeroH, zeroA, Prod.mk.injEq] at hz0
            obtain ⟨rfl, ⟨rfl, rfl, rfl⟩, rfl⟩ := hz0
            obtain ⟨v0, v1, v2, v3, v4⟩ := HV8.out.h5
            have E2 := eq_neq 43 _ _ (eq_hpR zeroH zeroH (decide_eq_true rfl))
            simp only [Bool.not_true, zeroH, hpA, zeroA, Int.natCast_zero] at E2 v2 v3
            obtain ⟨q1, k1⟩ := HQ1.out
            have hW8 := HW8.out.1
            have hvb := HW8.out.2
            rw [← hW8, ← hvb] at v0 v1 v2 v3 v4
            clear h0 hW8 hvb
            rcases hee with rfl | rfl
            all_goals
              clear b0
              go_wp2
              go_roundw
              case rel => exact ⟨q + 1, k, rfl, by go_num, hqm, hk90, HSu2, Lib.hid (by have h9 := HT8.out; rw [← HW8.out.1] at h9; exact h9)⟩
              case measure => simp [intOf]; omega
        · obtain rfl : q = m := by omega
          have qI : ¬ (q : Int) < (q : Int) := by omega
          have hkn : k = n := by rw [← hk.out, HTe.out q (Nat.le_refl _), HL.out, HN.out]
          have HTq := Lib.hid (HT5.out.trans hTq.out)
          have HBx := Lib.hid (HBe.out wr HTq.out)
          clear hk
          subst hkn
          go_wp2
          go_ret
          exact ⟨by simp, HBx.out⟩
set_option maxRecDepth 100000 in
theorem contract (H : Type) (enc : TypeId × Value → H) (W : World) (base : Nat) (args : Array Value) (ds gs : List (DataW H)) (before : List MemPlace)
    (hval0 : ∀ (j : Nat) t v, Tryz.f5.params[j]? = some t → args[j]? = some v → Value.okWide Tryz.prog W .any base t v)
    (hW : DataW.Whole enc Tryz.prog Tryz.f5.params.toList Rows.resolveUpSpec.vars false W args.toList ds gs before)
    (hsz0 : (DataW.weightsEach Tryz.prog (Tryz.f5.params.toList ++ Rows.resolveUpSpec.plain.varTypes Tryz.prog) (ds ++ gs)).all (· ≤ reachBytes) = true) (hE : EnvR W) :
    Calls Tryz.prog 5 args W fun e W' => ∃ v, e = .returned v ∧ Rows.resolveUpSpec.post enc Tryz.prog Tryz.f5 false true false false W args v W' := by
  have hsz := hsz0
  clear hsz0
  have hval := hval0
  clear hval0
  have hW' := hW
  obtain ⟨p, q, hA0, hV, rfl, hfz, hnd⟩ := hW
  have hA : DataW.TrodAll enc Tryz.prog W 0 (fun _ => true) true Tryz.f5.params.toList args.toList ds p := hA0
  rw [Tryz.params5] at hA hval hsz
  obtain ⟨v0, vs0, d0, ds0, p0, q0, hargs, rfl, rfl, h0, r0⟩ := trodAll_cons hA
  obtain ⟨rfl, rfl, rfl⟩ := trodAll_nil r0
  obtain rfl : args = #[v0] := by cases args; simp_all
  obtain ⟨rfl, rfl⟩ := trodVars_none hV
  have k0 := h0
  have lt0 : ∀ x ∈ p0, x.block < W.heap.size := by obtain ⟨m, hm⟩ := k0; exact DataW.trod_lt m _ _ _ hm
  obtain ⟨a0, b0, l0, c0, m0, d0_, z0, y0, rfl, w0, x0⟩ := open_world (hval 0 25 v0 rfl rfl) h0
  clear hA0
  refine (walk W hE a0 b0 l0 c0 m0 d0_ z0 y0 w0 x0).mono fun e W' ⟨he, bel⟩ => ?_
  subst he
  exact ⟨_, rfl, _, _, _, [], _, [], hW', trodAll_mk1 (shut_bool Tryz.underlying4 _), (trodAll_cons_mk (Below.trod laidOut (by kernel_rfl) (of_decide_eq_true (by kernel_rfl)) k0 bel lt0) trodAll_mk0), rfl, bel.frame _, fun h => by cases h⟩

theorem laid_met (os : Os) (args : Array Value) : laidMet Tryz.prog Rows.resolveUpRow.laid ((World.laidAll Tryz.prog os Rows.resolveUpRow.laid).forCall (fun _ _ => 0) ⟨#[], args, []⟩).memory :=
  laidMet_laidAll _ (by kernel_rfl) (by kernel_rfl)
set_option maxRecDepth 100000 in
theorem pre_row (os : Os) {H : Type} (enc : TypeId × Value → H) :
    (OpenSpec.ofChange Rows.resolveUpSpec).preRow enc Tryz.prog Tryz.f5 Rows.resolveUpRow.domain false Rows.resolveUpRow.laid ((World.laidAll Tryz.prog os Rows.resolveUpRow.laid).forCall (fun _ _ => 0) ⟨#[], #[.agg #[.slice none 0 0, .slice none 0 0]], []⟩).memory #[.agg #[.slice none 0 0, .slice none 0 0]] := by
  exact ⟨⟨ChangeSpec.pre_of_preB (fuel := 8) (by kernel_rfl), by rw [MakeChecks.laidMetH_plain _ _ _ (by kernel_rfl)]; exact laid_met os _⟩, sizedMet_of_sizedB (fuel := 8) (by kernel_rfl)⟩
set_option maxRecDepth 100000 in
theorem lifted (os : Os) (started : os.Started) (H : Type) (enc : TypeId × Value → H) (F : Stop.Interp) :
    ReturnsInHanded {} Tryz.checked os 5 .any ((OpenSpec.ofChange Rows.resolveUpSpec).preRow enc Tryz.prog Tryz.f5 Rows.resolveUpRow.domain false Rows.resolveUpRow.laid) (((OpenSpec.ofChange Rows.resolveUpSpec).at F).post enc Tryz.prog Tryz.f5 false true false false) := by
  refine returnsInHanded_of_row (C := Tryz.checked) (s := (OpenSpec.ofChange Rows.resolveUpSpec)) own started (by kernel_rfl) Tryz.func5
    ⟨World.laidAll Tryz.prog os Rows.resolveUpRow.laid, fun _ _ => 0, ⟨#[], #[.agg #[.slice none 0 0, .slice none 0 0]], []⟩, World.laidAll_os _ _ _, World.shaped_of_ZipB (by kernel_rfl) (by kernel_rfl), rfl, (Input.okWide_of_okWideB (by kernel_rfl)).2, pre_row os enc, (by simp only [Assume.holds]; exact ⟨by simp, by simp, fun _ => Modest.zero, by simp, by simp⟩)⟩ ?_
  intro W base args ds gs before hval hW _ hcond hsz hL hsh _
  rw [MakeChecks.laidMetH_plain _ _ _ (by kernel_rfl)] at hL
  exact contract H enc W base args ds gs before hval hW hsz (envR_of hL)

theorem over : Rows.resolveUpRow.holds Tryz.pinned (OpenSpec.ofChange Rows.resolveUpSpec) :=
  OpenClaim.holds_of_cond 5 Tryz.f5 rfl rfl rfl rfl rfl rfl rfl ⟨rfl, rfl, rfl, rfl, rfl⟩ rfl rfl rfl rfl rfl (by kernel_rfl) Tryz.func5 (by kernel_rfl)
    (of_decide_eq_true (by kernel_rfl)) (by unfold Func.isWrapper; first | (rw [if_pos (by decide +kernel)]; kernel_rfl) | (rw [if_neg (by decide +kernel)]; exact ⟨rfl, rfl⟩))
    (fun os started H enc _ F => by rw [OpenClaim.pre_eq_preRow]; exact lifted os started H enc F)

theorem proved : Rows.ResolveUpCardSaid :=
  Claim7.holds_tied_plain_at .later [] Rows.resolveUpCard.laidKinds true Rows.resolveUpCard.stood.harness Rows.resolveUpCard.stood.looks over (fun _ h => by cases h) (by kernel_rfl) (fun _ h => by cases h) resolveUp_row_tie rfl ⟨rfl, rfl⟩ (by kernel_rfl) rfl
    (fun f fn hf hfn => by
      obtain rfl : f = 5 := Option.some.inj ((show Tryz.prog.funcNamed Rows.resolveUpRow.func = some 5 by kernel_rfl).symm.trans hf) |>.symm
      obtain rfl : fn = Tryz.f5 := (Option.some.inj (Tryz.func5.symm.trans hfn)).symm
      exact ⟨by kernel_rfl, fun j t ht => by
        rw [Tryz.params5] at ht
        have hm : t ∈ [25] := by simpa using Array.mem_of_getElem? ht
        have hall : ([25].all fun u => !Tryz.prog.wantsStandIn u) = true := by kernel_rfl
        exact (show Tryz.prog.wantsStandIn t = false by simpa using List.all_eq_true.1 hall t hm)⟩)
    (by kernel_rfl)
#print axioms proved
end VUp
end Go.Proofs.YtgfkmgbcajdcdaaGreatDoor
