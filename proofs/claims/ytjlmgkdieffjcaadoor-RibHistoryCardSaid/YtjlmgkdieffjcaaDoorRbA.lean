/-
  The document's own rib (layer 15): distance, ahead, Better.
-/
import Derived.Test.YtjlmgkdieffjcaaDoorRbN
namespace Go.Proofs.YtjlmgkdieffjcaaDoor
open Go.RowKit
set_option linter.unusedVariables false

abbrev adR (a : AdR) : Value := .agg #[.bool a.1, .int .u64 (a.2.1 : Int), .int .u64 (a.2.2 : Int)]
abbrev pfR (p : PfI) : Value := .agg #[.bool p.1.1, .int .u64 (p.1.2.1 : Int), .int .u64 (p.1.2.2 : Int), .int .i64 p.2]
abbrev paA (x : PaI) : Array Value := #[.int .i64 x.1, .int .i64 x.2.1, .bool x.2.2.1.1, .int .u64 (x.2.2.1.2.1 : Int), .int .u64 (x.2.2.1.2.2 : Int), .int .i64 x.2.2.2.1, .bool x.2.2.2.2]
abbrev paR (x : PaI) : Value := .agg (paA x)
set_option maxHeartbeats 1000000 in
theorem dist_any (p : Int) (w : World) : Calls Tryd.prog 25 #[.int .i64 p] w fun e w' => e = .returned (.int .i64 (distI p)) ∧ w = w' := by
  obtain ⟨R, hR⟩ : ∃ R, distI p = R := ⟨_, rfl⟩
  rw [hR]
  have hcs : (p = 0 ∧ R = 0) ∨ (p = 1 ∧ R = 1) ∨ (p = 2 ∧ R = 20) ∨ (p = 3 ∧ R = 110) ∨ (p = 4 ∧ R = 120) ∨ (¬ p = 0 ∧ ¬ p = 1 ∧ ¬ p = 2 ∧ ¬ p = 3 ∧ ¬ p = 4 ∧ R = 255) := by
    unfold distI at hR
    by_cases h0 : p = 0
    · rw [if_pos h0] at hR; exact .inl ⟨h0, hR.symm⟩
    rw [if_neg h0] at hR
    by_cases h1 : p = 1
    · rw [if_pos h1] at hR; exact .inr (.inl ⟨h1, hR.symm⟩)
    rw [if_neg h1] at hR
    by_cases h2 : p = 2
    · rw [if_pos h2] at hR; exact .inr (.inr (.inl ⟨h2, hR.symm⟩))
    rw [if_neg h2] at hR
    by_cases h3 : p = 3
    · rw [if_pos h3] at hR; exact .inr (.inr (.inr (.inl ⟨h3, hR.symm⟩)))
    rw [if_neg h3] at hR
    by_cases h4 : p = 4
    · rw [if_pos h4] at hR; exact .inr (.inr (.inr (.inr (.inl ⟨h4, hR.symm⟩))))
    rw [if_neg h4] at hR
    exact .inr (.inr (.inr (.inr (.inr ⟨h0, h1, h2, h3, h4, hR.symm⟩))))
  clear hR
  rcases hcs with ⟨rfl, rfl⟩ | ⟨rfl, rfl⟩ | ⟨rfl, rfl⟩ | ⟨rfl, rfl⟩ | ⟨rfl, rfl⟩ | ⟨h0, h1, h2, h3, h4, rfl⟩
  case inr.inr.inr.inr.inr =>
    have b0 : (p == 0) = false := by simpa using h0
    have b1 : (p == 1) = false := by simpa using h1
    have b2 : (p == 2) = false := by simpa using h2
    have b3 : (p == 3) = false := by simpa using h3
    have b4 : (p == 4) = false := by simpa using h4
    clear h0 h1 h2 h3 h4
    go_enter Tryd.func25, Tryd.ntmps25
    go_wp2
    go_ret
    exact ⟨rfl, rfl⟩
  all_goals
    go_enter Tryd.func25, Tryd.ntmps25
    go_wp2
    go_ret
    exact ⟨rfl, rfl⟩
theorem eq_adr (s s' : Bool) (h l h' l' : Int) (W : World) : (Op.equalIn 10000 24 (.agg #[.bool s, .int .u64 h, .int .u64 l]) (.agg #[.bool s', .int .u64 h', .int .u64 l'])).run Tryd.prog W = .ok (decide (s = s' ∧ h = h' ∧ l = l')) W := by
  by_cases h1 : s = s'
  · subst h1
    by_cases h2 : h = h'
    · subst h2
      by_cases h3 : l = l'
      · subst h3
        go_simp
      · have h4 : (l == l') = false := by simpa using h3
        rw [show decide (s = s ∧ h = h ∧ l = l') = false by simp [h3]]
        go_simp
    · have h4 : (h == h') = false := by simpa using h2
      rw [show decide (s = s ∧ h = h' ∧ l = l') = false by simp [h2]]
      go_simp
  · have h4 : (s == s') = false := by simpa using h1
    rw [show decide (s = s' ∧ h = h' ∧ l = l') = false by simp [h1]]
    go_simp
theorem eq_adR (x y : AdR) {b : Bool} (hb : decide (x = y) = b) (W : World) : (Op.equalIn 10000 24 (.agg #[.bool x.1, .int .u64 (x.2.1 : Int), .int .u64 (x.2.2 : Int)]) (.agg #[.bool y.1, .int .u64 (y.2.1 : Int), .int .u64 (y.2.2 : Int)])).run Tryd.prog W = .ok b W := by
  rw [eq_adr, ← hb]
  obtain ⟨s, h, l⟩ := x
  obtain ⟨s', h', l'⟩ := y
  congr 2
  simp [Prod.ext_iff]
  intro _
  constructor <;> (rintro ⟨h1, h2⟩; constructor <;> omega)
set_option maxRecDepth 100000 in
set_option maxHeartbeats 2000000 in
theorem ahead_any (x y : AdR) (w : World) : Calls Tryd.prog 26 #[adR x, adR y] w fun e w' => e = .returned (.int .i64 (ahdI x y)) ∧ Tch w w' [] := by
  obtain ⟨b, hb⟩ : ∃ b, decide (x = y) = b := ⟨_, rfl⟩
  have HQ := eqA_eql 24 _ _ (eq_adR x y hb)
  obtain ⟨R, hR⟩ : ∃ R, ahdI x y = R := ⟨_, rfl⟩
  rw [hR]
  unfold ahdI at hR
  obtain ⟨s, xh, xl⟩ := x
  obtain ⟨s', yh, yl⟩ := y
  have HQ : ∀ W, (binOp .eql 24 (.agg #[.bool s, .int .u64 (xh : Int), .int .u64 (xl : Int)]) (.agg #[.bool s', .int .u64 (yh : Int), .int .u64 (yl : Int)])).run Tryd.prog W = .ok (.bool b) W := HQ
  have HT : Hid (∀ (o o' : Obj), Tch w ((w.alloc o).alloc o') []) := Lib.hid (fun o o' => ((Tch.refl w []).alloc _).alloc _)
  have x0 := ((Blk.new w 24 #[.bool s, .int .u64 (xh : Int), .int .u64 (xl : Int)]).alloc (.cells #[.bool s', .int .u64 (yh : Int), .int .u64 (yl : Int)] 24)).c3
  obtain ⟨x0, x1, x2⟩ := x0
  simp only at hR
  cases b with
  | true =>
    have hR0 : R = 0 := by rw [← hR, if_pos (of_decide_eq_true hb)]
    subst hR0
    clear hR hb
    go_enter Tryd.func26, Tryd.ntmps26
    go_wp2
    go_ret
    exact ⟨rfl, HT.out _ _⟩
  | false =>
    have hne : ¬ ((s, xh, xl) : AdR) = (s', yh, yl) := of_decide_eq_false hb
    rw [if_neg hne] at hR
    by_cases hs : s = s'
    · subst hs
      have bs : (s != s) = false := by simp
      have be : (s == s) = true := by simp
      by_cases h1 : (xh : Int) < (yh : Int)
      · have hR1 : R = -1 := by rw [← hR, if_pos (.inr ⟨rfl, .inl (by omega)⟩)]
        subst hR1
        clear hR hb hne
        go_enter Tryd.func26, Tryd.ntmps26
        go_wp2
        go_ret
        exact ⟨rfl, HT.out _ _⟩
      · by_cases h2 : (xh : Int) = (yh : Int)
        · have b2 : ((xh : Int) == (yh : Int)) = true := by simpa using h2
          by_cases h3 : (xl : Int) < (yl : Int)
          · have hR1 : R = -1 := by rw [← hR, if_pos (.inr ⟨rfl, .inr ⟨by omega, by omega⟩⟩)]
            subst hR1
            clear hR hb hne h2
            go_enter Tryd.func26, Tryd.ntmps26
            go_wp2
            go_ret
            exact ⟨rfl, HT.out _ _⟩
          · have hR1 : R = 1 := by rw [← hR, if_neg (fun z => by rcases z with z | z; exact z.1 rfl; omega)]
            subst hR1
            clear hR hb hne h2
            go_enter Tryd.func26, Tryd.ntmps26
            go_wp2
            go_ret
            exact ⟨rfl, HT.out _ _⟩
        · have b2 : ((xh : Int) == (yh : Int)) = false := by simpa using h2
          have hR1 : R = 1 := by rw [← hR, if_neg (fun z => by rcases z with z | z; exact z.1 rfl; omega)]
          subst hR1
          clear hR hb hne h2
          go_enter Tryd.func26, Tryd.ntmps26
          go_wp2
          go_ret
          exact ⟨rfl, HT.out _ _⟩
    · have bs : (s != s') = true := by simpa using hs
      have be : (s == s') = false := by simpa using hs
      cases s' with
      | true =>
        have hR1 : R = -1 := by rw [← hR, if_pos (.inl ⟨hs, rfl⟩)]
        subst hR1
        clear hR hb hne hs
        go_enter Tryd.func26, Tryd.ntmps26
        go_wp2
        go_ret
        exact ⟨rfl, HT.out _ _⟩
      | false =>
        have hR1 : R = 1 := by rw [← hR, if_neg (fun z => by rcases z with z | z; cases z.2; exact hs z.1)]
        subst hR1
        clear hR hb hne hs
        go_enter Tryd.func26, Tryd.ntmps26
        go_wp2
        go_ret
        exact ⟨rfl, HT.out _ _⟩
set_option maxRecDepth 100000 in
set_option maxHeartbeats 4000000 in
theorem betterD (x y : PaI) (w : World) : Calls Tryd.prog 9 #[paR x, paR y] w fun e w' => e = .returned (.bool (betI x y)) ∧ Tch w w' [] := by
  obtain ⟨R, hR⟩ : ∃ R, betI x y = R := ⟨_, rfl⟩
  rw [hR]
  have HD1 := Lib.hid (fun W => dist_any x.1 W)
  have HD2 := Lib.hid (fun W => dist_any y.1 W)
  have HAh := Lib.hid (fun W => ahead_any x.2.2.1 y.2.2.1 W)
  unfold betI at hR
  obtain ⟨d1, hd1⟩ : ∃ d, distI x.1 = d := ⟨_, rfl⟩
  obtain ⟨d2, hd2⟩ : ∃ d, distI y.1 = d := ⟨_, rfl⟩
  obtain ⟨c, hc⟩ : ∃ c, ahdI x.2.2.1 y.2.2.1 = c := ⟨_, rfl⟩
  rw [hd1, hd2, hc] at hR
  rw [hd1] at HD1
  rw [hd2] at HD2
  rw [hc] at HAh
  clear hd1 hd2 hc
  obtain ⟨xp, xm, ⟨xs, xh, xl⟩, xo, xa⟩ := x
  obtain ⟨yp, ym, ⟨ys, yh, yl⟩, yo, ya⟩ := y
  simp only at hR
  obtain ⟨xb, hxb⟩ : ∃ xb, w.heap.size = xb := ⟨_, rfl⟩
  obtain ⟨yb, hyb⟩ : ∃ yb, xb + 1 = yb := ⟨_, rfl⟩
  obtain ⟨W2, hW2⟩ : ∃ W2, (w.alloc (.cells #[.int .i64 xp, .int .i64 xm, .bool xs, .int .u64 (xh : Int), .int .u64 (xl : Int), .int .i64 xo, .bool xa] 26)).alloc (.cells #[.int .i64 yp, .int .i64 ym, .bool ys, .int .u64 (yh : Int), .int .u64 (yl : Int), .int .i64 yo, .bool ya] 26) = W2 := ⟨_, rfl⟩
  have HX : Hid (Blk W2 xb 26 #[.int .i64 xp, .int .i64 xm, .bool xs, .int .u64 (xh : Int), .int .u64 (xl : Int), .int .i64 xo, .bool xa]) := Lib.hid (hW2 ▸ hxb ▸ (Blk.new w _ _).alloc _)
  have HY : Hid (Blk W2 yb 26 #[.int .i64 yp, .int .i64 ym, .bool ys, .int .u64 (yh : Int), .int .u64 (yl : Int), .int .i64 yo, .bool ya]) := Lib.hid (by
    have := Blk.new (w.alloc (.cells #[.int .i64 xp, .int .i64 xm, .bool xs, .int .u64 (xh : Int), .int .u64 (xl : Int), .int .i64 xo, .bool xa] 26)) 26 #[.int .i64 yp, .int .i64 ym, .bool ys, .int .u64 (yh : Int), .int .u64 (yl : Int), .int .i64 yo, .bool ya]
    rw [World.size_alloc, hxb, hyb, hW2] at this
    exact this)
  have HT2 : Hid (Tch w W2 []) := Lib.hid (hW2 ▸ ((Tch.refl w []).alloc _).alloc _)
  have HW2 := Lib.hid (And.intro hW2 (And.intro hxb hyb))
  have HC0 : Hid (W2.cell? ⟨xb, 0, none⟩ = some (Value.int .i64 xp) ∧ W2.cell? ⟨yb, 0, none⟩ = some (Value.int .i64 yp)) := Lib.hid ⟨(HX.out.cell 0).trans rfl, (HY.out.cell 0).trans rfl⟩
  clear hW2 hxb hyb
  go_enter Tryd.func9, Tryd.ntmps9
  go_wp2
  rw [HW2.out.1, HW2.out.2.1, HW2.out.2.2]
  refine wp_region_held_drew (S := (fun W => W.cell? ⟨xb, 0, none⟩ = some (Value.int .i64 xp) ∧ W.cell? ⟨yb, 0, none⟩ = some (Value.int .i64 yp))) (by kernel_rfl) ?_ (fun hHeld => ?_)
  · (exact HC0.out)
  refine wpAnyH_take (i := 0) (oi := { dst := some 6, op := Go.Op.fieldAddr 26 (Go.Operand.tmp 2) 0, type := 0, pos := "ref.go:52", after := #[], guard := none }) (v := ?_) rfl (by kernel_rfl) (by kernel_rfl) (by kernel_rfl) (fun _ _ _ h => h) (Or.inl ⟨by rfl, ?_⟩) (by assumption) ?_
  rotate_left
  · intro w hSw
    (try dsimp only at hSw)
    go_simp
    try (with_reducible rfl)
  try simp only [Act.put, List.setIfInBounds_toArray, List.set_cons_zero, List.set_cons_succ]
  refine wpAnyH_take (i := 1) (oi := { dst := some 7, op := Go.Op.load 3 (Go.Operand.tmp 6), type := 3, pos := "ref.go:52", after := #[{ on := 0, ground := Go.Ground.data }], guard := none }) (v := ?_) rfl (by kernel_rfl) (by kernel_rfl) (by kernel_rfl) (fun _ _ _ h => h) (Or.inl ⟨by rfl, ?_⟩) (by assumption) ?_
  rotate_left
  · intro w hSw
    (try dsimp only at hSw)
    go_simp
    try (with_reducible rfl)
  try simp only [Act.put, List.setIfInBounds_toArray, List.set_cons_zero, List.set_cons_succ]
  refine wpAnyH_take (i := 3) (oi := { dst := some 9, op := Go.Op.fieldAddr 26 (Go.Operand.tmp 3) 0, type := 0, pos := "ref.go:52", after := #[], guard := none }) (v := ?_) rfl (by kernel_rfl) (by kernel_rfl) (by kernel_rfl) (fun _ _ _ h => h) (Or.inl ⟨by rfl, ?_⟩) (by assumption) ?_
  rotate_left
  · intro w hSw
    (try dsimp only at hSw)
    go_simp
    try (with_reducible rfl)
  try simp only [Act.put, List.setIfInBounds_toArray, List.set_cons_zero, List.set_cons_succ]
  refine wpAnyH_take (i := 4) (oi := { dst := some 10, op := Go.Op.load 3 (Go.Operand.tmp 9), type := 3, pos := "ref.go:52", after := #[{ on := 3, ground := Go.Ground.data }], guard := none }) (v := ?_) rfl (by kernel_rfl) (by kernel_rfl) (by kernel_rfl) (fun _ _ _ h => h) (Or.inl ⟨by rfl, ?_⟩) (by assumption) ?_
  rotate_left
  · intro w hSw
    (try dsimp only at hSw)
    go_simp
    try (with_reducible rfl)
  try simp only [Act.put, List.setIfInBounds_toArray, List.set_cons_zero, List.set_cons_succ]
  refine wpAnyH_ready (rs := [2]) (by kernel_rfl) (by simp) ?_
  refine AllReadyH.cons (o := { dst := some 8, op := Go.Op.call { callee := Go.Callee.value (Go.Operand.func 25), args := #[Go.Operand.tmp 7], argTypes := #[3] }, type := 3, pos := "ref.go:52", after := #[{ on := 1, ground := Go.Ground.data }], guard := none }) rfl (fun K hK => ?_) AllReadyH.nil
  go_simp
  (go_at_call 25; (with_reducible refine Calls.mono (HD1.out _) ?_); rintro e w' ⟨rfl, rfl⟩)
  go_wp2_with fail
  refine hK.out _ _ ?_ (fun hHeld => ?_)
  · (exact HC0.out)
  clear hK K
  try simp only [Act.put, List.setIfInBounds_toArray, List.set_cons_zero, List.set_cons_succ]
  refine wpAnyH_ready (rs := [5]) (by kernel_rfl) (by simp) ?_
  refine AllReadyH.cons (o := { dst := some 11, op := Go.Op.call { callee := Go.Callee.value (Go.Operand.func 25), args := #[Go.Operand.tmp 10], argTypes := #[3] }, type := 3, pos := "ref.go:52", after := #[{ on := 4, ground := Go.Ground.data }, { on := 2, ground := Go.Ground.chain }], guard := none }) rfl (fun K hK => ?_) AllReadyH.nil
  go_simp
  (go_at_call 25; (with_reducible refine Calls.mono (HD2.out _) ?_); rintro e w' ⟨rfl, rfl⟩)
  go_wp2_with fail
  refine hK.out _ _ ?_ (fun hHeld => ?_)
  · (exact HC0.out)
  clear hK K
  try simp only [Act.put, List.setIfInBounds_toArray, List.set_cons_zero, List.set_cons_succ]
  refine wpAnyH_take (i := 6) (oi := { dst := some 12, op := Go.Op.binOp Go.BinOp.neq 3 (Go.Operand.tmp 8) (Go.Operand.tmp 11) 3, type := 4, pos := "ref.go:52", after := #[{ on := 2, ground := Go.Ground.data }, { on := 5, ground := Go.Ground.data }], guard := none }) (v := ?_) rfl (by kernel_rfl) (by kernel_rfl) (by kernel_rfl) (fun _ _ _ h => h) (Or.inl ⟨by rfl, ?_⟩) (by assumption) ?_
  rotate_left
  · intro w hSw
    (try dsimp only at hSw)
    go_simp
    try (with_reducible rfl)
  try simp only [Act.put, List.setIfInBounds_toArray, List.set_cons_zero, List.set_cons_succ]
  refine wpAnyH_done (by kernel_rfl) ?_ _
  have x1 : W2.drew.cell? ⟨xb, 1, none⟩ = some (Value.int .i64 xm) := (HX.out.cell 1).trans rfl
  have y1 : W2.drew.cell? ⟨yb, 1, none⟩ = some (Value.int .i64 ym) := (HY.out.cell 1).trans rfl
  have x5 : W2.drew.cell? ⟨xb, 5, none⟩ = some (Value.int .i64 xo) := (HX.out.cell 5).trans rfl
  have y5 : W2.drew.cell? ⟨yb, 5, none⟩ = some (Value.int .i64 yo) := (HY.out.cell 5).trans rfl
  have x2 : W2.drew.cell? ⟨xb, 2, none⟩ = some (Value.bool xs) := (HX.out.cell 2).trans rfl
  have x3 : W2.drew.cell? ⟨xb, 3, none⟩ = some (Value.int .u64 (xh : Int)) := (HX.out.cell 3).trans rfl
  have x4 : W2.drew.cell? ⟨xb, 4, none⟩ = some (Value.int .u64 (xl : Int)) := (HX.out.cell 4).trans rfl
  have y2 : W2.drew.cell? ⟨yb, 2, none⟩ = some (Value.bool ys) := (HY.out.cell 2).trans rfl
  have y3 : W2.drew.cell? ⟨yb, 3, none⟩ = some (Value.int .u64 (yh : Int)) := (HY.out.cell 3).trans rfl
  have y4 : W2.drew.cell? ⟨yb, 4, none⟩ = some (Value.int .u64 (yl : Int)) := (HY.out.cell 4).trans rfl
  by_cases hd : d1 = d2
  · rw [if_neg (by simpa using hd)] at hR
    have bd : (d1 != d2) = false := by simpa using hd
    clear hd
    by_cases hm : xm = ym
    · rw [if_neg (by simpa using hm)] at hR
      have bm : (xm != ym) = false := by simpa using hm
      clear hm
      by_cases ho : xo = yo
      · rw [if_neg (by simpa using ho)] at hR
        have bo : (xo != yo) = false := by simpa using ho
        have HR := Lib.hid hR
        clear ho hR
        go_wp2_with fail
        refine Calls.mono (HAh.out _) ?_
        rintro e w5 ⟨rfl, hT5⟩
        have hX5 := hT5.blk (w := W2.drew) (show Blk W2.drew xb _ _ from HX.out) (by simp)
        have hY5 := hT5.blk (w := W2.drew) (show Blk W2.drew yb _ _ from HY.out) (by simp)
        have u6 := (hX5.cell 6).trans (show _ = some (Value.bool xa) by rfl)
        have v6 := (hY5.cell 6).trans (show _ = some (Value.bool ya) by rfl)
        have HT5 := Lib.hid (HT2.out.drew.trans hT5)
        clear hT5 hX5 hY5 x1 x2 x3 x4 x5 y1 y2 y3 y4 y5
        by_cases hc0 : c < 0
        · have HE : Hid (R = true) := Lib.hid (by rw [← HR.out, decide_eq_true hc0]; rfl)
          go_wp2
          go_ret
          exact ⟨by rw [HE.out]; rfl, HT5.out⟩
        · by_cases hc1 : c = 0
          · have bc : (c == 0) = true := by simpa using hc1
            have HE : Hid (R = (!xa && ya)) := Lib.hid (by rw [← HR.out, decide_eq_false hc0, decide_eq_true hc1]; simp)
            clear hc1
            have hdc : decide (c < 0) = false := decide_eq_false hc0
            have HDc := Lib.hid hdc
            clear hdc
            cases xa with
            | true =>
              go_wp2
              go_ret
              exact ⟨by rw [HE.out]; show Ending.returned (Value.bool (decide (c < 0))) = _; rw [HDc.out]; rfl, HT5.out⟩
            | false =>
              go_wp2
              go_ret
              exact ⟨by rw [HE.out]; show Ending.returned (Value.bool (decide (c < 0) || ya)) = _; rw [HDc.out]; rfl, HT5.out⟩
          · have bc : (c == 0) = false := by simpa using hc1
            have HE : Hid (R = false) := Lib.hid (by rw [← HR.out, decide_eq_false hc0, decide_eq_false hc1]; rfl)
            have HDc := Lib.hid (decide_eq_false hc0)
            clear hc1
            go_wp2
            go_ret
            exact ⟨by rw [HE.out]; show Ending.returned (Value.bool (decide (c < 0))) = _; rw [HDc.out], HT5.out⟩
      · rw [if_pos ho] at hR
        have bo : (xo != yo) = true := by simpa using ho
        have HR := Lib.hid hR
        clear ho hR
        go_wp2
        go_ret
        exact ⟨by rw [← HR.out]; rfl, HT2.out.drew⟩
    · rw [if_pos hm] at hR
      have bm : (xm != ym) = true := by simpa using hm
      have HR := Lib.hid hR
      clear hm hR
      go_wp2
      go_ret
      exact ⟨by rw [← HR.out]; rfl, HT2.out.drew⟩
  · rw [if_pos hd] at hR
    have bd : (d1 != d2) = true := by simpa using hd
    have HR := Lib.hid hR
    have HC1 : Hid (W2.drew.cell? ⟨xb, 0, none⟩ = some (Value.int .i64 xp) ∧ W2.drew.cell? ⟨yb, 0, none⟩ = some (Value.int .i64 yp)) := Lib.hid HC0.out
    clear hd hR x1 x2 x3 x4 x5 y1 y2 y3 y4 y5
    go_wp2
    refine wp_region_held_drew (S := (fun W => W.cell? ⟨xb, 0, none⟩ = some (Value.int .i64 xp) ∧ W.cell? ⟨yb, 0, none⟩ = some (Value.int .i64 yp))) (by kernel_rfl) ?_ (fun hHeld => ?_)
    · (exact HC1.out)
    refine wpAnyH_take (i := 0) (oi := { dst := some 13, op := Go.Op.fieldAddr 26 (Go.Operand.tmp 2) 0, type := 0, pos := "ref.go:53", after := #[], guard := none }) (v := ?_) rfl (by kernel_rfl) (by kernel_rfl) (by kernel_rfl) (fun _ _ _ h => h) (Or.inl ⟨by rfl, ?_⟩) (by assumption) ?_
    rotate_left
    · intro w hSw
      (try dsimp only at hSw)
      go_simp
      try (with_reducible rfl)
    try simp only [Act.put, List.setIfInBounds_toArray, List.set_cons_zero, List.set_cons_succ]
    refine wpAnyH_take (i := 1) (oi := { dst := some 14, op := Go.Op.load 3 (Go.Operand.tmp 13), type := 3, pos := "ref.go:53", after := #[{ on := 0, ground := Go.Ground.data }], guard := none }) (v := ?_) rfl (by kernel_rfl) (by kernel_rfl) (by kernel_rfl) (fun _ _ _ h => h) (Or.inl ⟨by rfl, ?_⟩) (by assumption) ?_
    rotate_left
    · intro w hSw
      (try dsimp only at hSw)
      go_simp
      try (with_reducible rfl)
    try simp only [Act.put, List.setIfInBounds_toArray, List.set_cons_zero, List.set_cons_succ]
    refine wpAnyH_take (i := 3) (oi := { dst := some 16, op := Go.Op.fieldAddr 26 (Go.Operand.tmp 3) 0, type := 0, pos := "ref.go:53", after := #[], guard := none }) (v := ?_) rfl (by kernel_rfl) (by kernel_rfl) (by kernel_rfl) (fun _ _ _ h => h) (Or.inl ⟨by rfl, ?_⟩) (by assumption) ?_
    rotate_left
    · intro w hSw
      (try dsimp only at hSw)
      go_simp
      try (with_reducible rfl)
    try simp only [Act.put, List.setIfInBounds_toArray, List.set_cons_zero, List.set_cons_succ]
    refine wpAnyH_take (i := 4) (oi := { dst := some 17, op := Go.Op.load 3 (Go.Operand.tmp 16), type := 3, pos := "ref.go:53", after := #[{ on := 3, ground := Go.Ground.data }], guard := none }) (v := ?_) rfl (by kernel_rfl) (by kernel_rfl) (by kernel_rfl) (fun _ _ _ h => h) (Or.inl ⟨by rfl, ?_⟩) (by assumption) ?_
    rotate_left
    · intro w hSw
      (try dsimp only at hSw)
      go_simp
      try (with_reducible rfl)
    try simp only [Act.put, List.setIfInBounds_toArray, List.set_cons_zero, List.set_cons_succ]
    refine wpAnyH_ready (rs := [2]) (by kernel_rfl) (by simp) ?_
    refine AllReadyH.cons (o := { dst := some 15, op := Go.Op.call { callee := Go.Callee.value (Go.Operand.func 25), args := #[Go.Operand.tmp 14], argTypes := #[3] }, type := 3, pos := "ref.go:53", after := #[{ on := 1, ground := Go.Ground.data }], guard := none }) rfl (fun K hK => ?_) AllReadyH.nil
    go_simp
    (go_at_call 25; (with_reducible refine Calls.mono (HD1.out _) ?_); rintro e w' ⟨rfl, rfl⟩)
    go_wp2_with fail
    refine hK.out _ _ ?_ (fun hHeld => ?_)
    · (exact HC1.out)
    clear hK K
    try simp only [Act.put, List.setIfInBounds_toArray, List.set_cons_zero, List.set_cons_succ]
    refine wpAnyH_ready (rs := [5]) (by kernel_rfl) (by simp) ?_
    refine AllReadyH.cons (o := { dst := some 18, op := Go.Op.call { callee := Go.Callee.value (Go.Operand.func 25), args := #[Go.Operand.tmp 17], argTypes := #[3] }, type := 3, pos := "ref.go:53", after := #[{ on := 4, ground := Go.Ground.data }, { on := 2, ground := Go.Ground.chain }], guard := none }) rfl (fun K hK => ?_) AllReadyH.nil
    go_simp
    (go_at_call 25; (with_reducible refine Calls.mono (HD2.out _) ?_); rintro e w' ⟨rfl, rfl⟩)
    go_wp2_with fail
    refine hK.out _ _ ?_ (fun hHeld => ?_)
    · (exact HC1.out)
    clear hK K
    try simp only [Act.put, List.setIfInBounds_toArray, List.set_cons_zero, List.set_cons_succ]
    refine wpAnyH_take (i := 6) (oi := { dst := some 19, op := Go.Op.binOp Go.BinOp.lss 3 (Go.Operand.tmp 15) (Go.Operand.tmp 18) 3, type := 4, pos := "ref.go:53", after := #[{ on := 2, ground := Go.Ground.data }, { on := 5, ground := Go.Ground.data }], guard := none }) (v := ?_) rfl (by kernel_rfl) (by kernel_rfl) (by kernel_rfl) (fun _ _ _ h => h) (Or.inl ⟨by rfl, ?_⟩) (by assumption) ?_
    rotate_left
    · intro w hSw
      (try dsimp only at hSw)
      go_simp
      try (with_reducible rfl)
    try simp only [Act.put, List.setIfInBounds_toArray, List.set_cons_zero, List.set_cons_succ]
    refine wpAnyH_take (i := 7) (oi := { dst := some 4, op := Go.Op.assign (Go.Operand.tmp 19), type := 4, pos := "ref.go:53", after := #[{ on := 6, ground := Go.Ground.data }, { on := 5, ground := Go.Ground.chain }, { on := 0, ground := Go.Ground.phase }, { on := 1, ground := Go.Ground.phase }, { on := 2, ground := Go.Ground.phase }, { on := 3, ground := Go.Ground.phase }, { on := 4, ground := Go.Ground.phase }, { on := 5, ground := Go.Ground.phase }, { on := 6, ground := Go.Ground.phase }], guard := none }) (v := ?_) rfl (by kernel_rfl) (by kernel_rfl) (by kernel_rfl) (fun _ _ _ h => h) (Or.inl ⟨by rfl, ?_⟩) (by assumption) ?_
    rotate_left
    · intro w hSw
      (try dsimp only at hSw)
      go_simp
      try (with_reducible rfl)
    try simp only [Act.put, List.setIfInBounds_toArray, List.set_cons_zero, List.set_cons_succ]
    refine wpAnyH_done (by kernel_rfl) ?_ _
    go_wp2
    go_ret
    exact ⟨by rw [← HR.out]; rfl, HT2.out.drew.drew⟩
end Go.Proofs.YtjlmgkdieffjcaaDoor
