/-
  The document's own epoch (layer 13): New; two rows compared.
-/
import Derived.Test.YtakeodnebegbhaaEpC
namespace Go.Proofs.Ytakeodnebegbhaa
open Go.RowKit
set_option linter.unusedVariables false

theorem own_lit {w : World} {base g : Nat} {t : TypeId} {u : Value} (h : Blk w g t #[u]) (hb : base ≤ g) : w.ownsRow base t 1 (.slice (some ⟨g, 0, none⟩) 1 1) 1 [u] :=
  ⟨rfl, .inr ⟨g, 1, #[u], rfl, hb, h, Nat.le_refl _, by decide, rfl, rfl⟩⟩
set_option maxRecDepth 100000 in
set_option maxHeartbeats 4000000 in
theorem rnew_ok (O : Nat) (f : Int) (h1 : 1 ≤ O) (h2 : O ≤ 16) (w : World) : Calls Try.prog 10 #[.int .i64 (O : Int), .int .i64 f] w fun e w' => ∃ d, e = .returned (.tuple #[.pointer (some ⟨d, 0, none⟩), .int .i64 0]) ∧ ∃ gA gG gI,
    EpD0 w' d gA gG gI [f] 0 (List.replicate O (-1)) ∧ Below w.heap.size w w' ∧ (w.heap.size ≤ d ∧ w.heap.size ≤ gA ∧ w.heap.size ≤ gG ∧ w.heap.size ≤ gI) := by
  have r1 : ¬ (O : Int) < 1 := by omega
  have r2 : ¬ (16 : Int) < (O : Int) := by omega
  obtain ⟨B, hB⟩ : ∃ B, w.heap.size = B := ⟨_, rfl⟩
  obtain ⟨W1, hW1⟩ : ∃ W, w.alloc (.cells #[.int .i64 f] 3) = W := ⟨_, rfl⟩
  obtain ⟨W2, hW2⟩ : ∃ W, W1.alloc (.cells #[.bool false] 4) = W := ⟨_, rfl⟩
  obtain ⟨W3, hW3⟩ : ∃ W, W2.alloc (.cells #[.slice (some ⟨B, 0, none⟩) 1 1, .slice (some ⟨B + 1, 0, none⟩) 1 1, .slice none 0 0] 59) = W := ⟨_, rfl⟩
  have s1 : W1.heap.size = B + 1 := by rw [← hW1, World.size_alloc, hB]
  have s2 : W2.heap.size = B + 2 := by rw [← hW2, World.size_alloc, s1]
  have s3 : W3.heap.size = B + 3 := by rw [← hW3, World.size_alloc, s2]
  have b1 : Blk W1 B 3 #[.int .i64 f] := hW1 ▸ hB ▸ Blk.new w _ _
  have b2 : Blk W2 (B + 1) 4 #[.bool false] := hW2 ▸ s1 ▸ Blk.new W1 _ _
  have b3 : Blk W3 (B + 2) 59 #[.slice (some ⟨B, 0, none⟩) 1 1, .slice (some ⟨B + 1, 0, none⟩) 1 1, .slice none 0 0] := hW3 ▸ s2 ▸ Blk.new W2 _ _
  have HA : Hid (Blk W3 B 3 #[.int .i64 f]) := Lib.hid (hW3 ▸ (hW2 ▸ b1.alloc _ : Blk W2 B _ _).alloc _)
  have HG : Hid (Blk W3 (B + 1) 4 #[.bool false]) := Lib.hid (hW3 ▸ b2.alloc _)
  have HBw : Hid (Below B w W3) := Lib.hid (by
    rw [← hW3, ← hW2, ← hW1]
    exact (((Below.refl B w).alloc (by omega) _).alloc (by simp; omega) _).alloc (by simp; omega) _)
  have HB3 := Lib.hid b3
  have HS := Lib.hid (And.intro s1 (And.intro s2 s3))
  have HW := Lib.hid (And.intro hB (And.intro hW1 (And.intro hW2 hW3)))
  clear hB hW1 hW2 hW3 s1 s2 s3 b1 b2 b3
  go_enter Try.func10, Try.ntmps10
  go_wp2
  rw [HW.out.1, HW.out.2.1, HW.out.2.2.1, HW.out.2.2.2]
  go_loopw [7] (fun iv wr => ∃ (i : Nat) (A : Option Addr) (c : Nat), iv = .int .i64 (i : Int) ∧ i ≤ O ∧ Hid (Blk wr (B + 2) 59 #[.slice (some ⟨B, 0, none⟩) 1 1, .slice (some ⟨B + 1, 0, none⟩) 1 1, .slice A i c]) ∧
    Hid (wr.ownsRow (B + 3) 3 1 (.slice A i c) i (ints (List.replicate i (-1)))) ∧ Hid (Tch W3 wr [B + 2])) (fun iv _ => O - (intOf iv).toNat)
  case atStart => exact ⟨0, none, 0, rfl, Nat.zero_le _, HB3, Lib.hid ⟨rfl, .inl ⟨rfl, rfl⟩⟩, Lib.hid (Tch.refl _ _)⟩
  case round =>
    obtain ⟨i, A, c, rfl, hi, hB, hO, hT⟩ := hrel
    have c2 := (hB.out.cell 2).trans (show _ = some (Value.slice A i c) by rfl)
    have j1 : IntKind.i64.wrap ((i : Int) + 1) = (i : Int) + 1 := by rw [IntKind.wrap_i64]; omega
    by_cases hlt : i < O
    · have i1 : (i : Int) < (O : Int) := by omega
      have HSz : Hid (i ≤ 1000000) := Lib.hid (by omega)
      have hsz : B + 3 ≤ wr.heap.size := by have := hT.out.size; have := HS.out; omega
      have HO2 : Hid ((wr.alloc (.cells #[.int .i64 (-1)] 3)).ownsRow (B + 3) 3 1 (.slice A i c) i (ints (List.replicate i (-1)))) := Lib.hid (hO.out.alloc _)
      have HSrc := Lib.hid (src_new wr 3 [.int .i64 (-1)])
      have HSiz : Hid (B + 3 ≤ (wr.alloc (.cells #[.int .i64 (-1)] 3)).heap.size) := Lib.hid (by simp; omega)
      clear hsz
      go_wp2_with (at_builtin; refine wpList_apc 33 3 (.int .i64 0) 1 8 Try.underlying33 infoInt rfl (by decide) (by decide) _ rfl (.tmp 28) (.tmp 29) rfl (B + 3) (.slice A i c) i (ints (List.replicate i (-1))) rfl HO2.out ⟨wr.heap.size, 0, none⟩ 1 [.int .i64 (-1)] rfl rfl (fun j u hj => HSrc.out j u hj) (by simp [Value.oneCell']) HSz.out HSiz.out ?_; intro v1 w5 hown1 hg1 hv1; obtain ⟨A1, c1', e1, -, -⟩ := own_sl hown1; subst e1; have HO5 := Lib.hid hown1; have HT5 := Lib.hid (tch_app (S0 := B + 3) hg1 HO2.out); have HB5 : Hid (Blk w5 (B + 2) 59 #[.slice (some ⟨B, 0, none⟩) 1 1, .slice (some ⟨B + 1, 0, none⟩) 1 1, .slice A i c]) := Lib.hid (by obtain ⟨S, hS, hs⟩ := HT5.out; exact hS.blk hB.out (fun hm => by have := hs _ hm; omega)); have d2 := (HB5.out.cell 2).trans (show _ = some (Value.slice A i c) by rfl); have d3 := HB5.out.frozen 2; clear hown1 hg1 hv1)
      go_roundw
      case rel =>
        refine ⟨i + 1, A1, c1', by go_num, hlt, Lib.hid (HB5.out.set_ 2 _), Lib.hid ?_, Lib.hid ?_⟩
        · rw [List.replicate_succ', ints_app]
          exact ((Tch.refl w5 [B + 2]).set_ (p := ⟨B + 2, 2, none⟩) (by simp) _).own HO5.out (fun k hk => by have := own_basek HO5.out k hk; simp; omega)
        · obtain ⟨S, hS, hs⟩ := HT5.out
          exact (hT.out.trans_fre hS (fun t ht => .inr (by have := hs t ht; have := HS.out; omega))).set_ (p := ⟨B + 2, 2, none⟩) (by simp) _
      case measure => simp [intOf]; omega
    · obtain rfl : i = O := by omega
      have i1 : ¬ (i : Int) < (i : Int) := by omega
      clear hlt hi
      go_wp2
      obtain ⟨A', c', e, hc, hg⟩ := own_sl hO.out
      injection e with e1 e2 e3
      subst e1 e3
      obtain ⟨gI, rfl, hgI, hgl, -⟩ := hg (by omega)
      have hT4 := hT.out
      have hS := HS.out
      have hA := hT4.blk HA.out (nin1 (by omega : B ≠ B + 2))
      have hG := hT4.blk HG.out (nin1 (by omega : B + 1 ≠ B + 2))
      refine bodyPost_ret (v := .tuple #[.pointer (some ⟨B + 2, 0, none⟩), .int .i64 0]) (by simp [results, Try.results10, go_sem]) rfl ⟨B + 2, rfl, B, B + 1, gI, ⟨1, 1, c, ?_, ?_, ?_, ?_, by omega, InvE.new f ⟨h1, h2⟩⟩, ?_, by have := HW.out.1; omega⟩
      · rw [List.length_replicate]; exact hB.out
      · exact own_lit hA (by omega)
      · exact own_lit hG (by omega)
      · rw [List.length_replicate]; exact own_mono hO.out (Nat.zero_le _)
      · rw [HW.out.1]
        exact HBw.out.trans (hT4.below (by omega) (by simp))
/-- A slice reads as these numbers. -/
def SlI (w : World) (A : Option Addr) (n : Nat) (zs : List Int) : Prop := zs.length = n ∧ ∀ j z, zs[j]? = some z → ∃ g, A = some ⟨g, 0, none⟩ ∧ w.cell? ⟨g, j, none⟩ = some (.int .i64 z)
theorem SlI.of_own {w : World} {base n c : Nat} {A : Option Addr} {t : TypeId} {zs : List Int} (h : w.ownsRow base t 1 (.slice A n c) n (ints zs)) : SlI w A n zs := by
  have hl : zs.length = n := by have := h.1; rw [ints_len] at this; omega
  refine ⟨hl, fun j z hz => ?_⟩
  obtain ⟨A', c', e, -, h1⟩ := own_sl h
  injection e with e1 e2 e3
  subst e1
  obtain ⟨g, e, -, -, h2⟩ := h1 (by have := (List.getElem?_eq_some_iff.1 hz).1; omega)
  exact ⟨g, e, h2 j _ (ints_at hz)⟩
theorem SlI.of_blk {w : World} {g : Nat} {t : TypeId} {zs : List Int} (h : Blk w g t (ints zs).toArray) : SlI w (some ⟨g, 0, none⟩) zs.length zs :=
  ⟨rfl, fun j z hz => ⟨g, rfl, (h.cell j).trans (by simpa using ints_at hz)⟩⟩
theorem take_ne {xs ys : List Int} {i : Nat} {x y : Int} (hx : xs[i]? = some x) (hy : ys[i]? = some y) (hne : x ≠ y) : xs ≠ ys := fun e => by
  subst e
  rw [hx] at hy
  exact hne (Option.some.inj hy)
set_option maxRecDepth 100000 in
set_option maxHeartbeats 4000000 in
theorem same_any (A B : Option Addr) (n m c c' : Nat) (xs ys : List Int) (hn : n ≤ 1000000) (hm : m ≤ 1000000) (w : World) (hx : SlI w A n xs) (hy : SlI w B m ys) :
    Calls Try.prog 13 #[.slice A n c, .slice B m c'] w fun e w' => e = .returned (.bool (decide (xs = ys))) ∧ Tch w w' [] := by
  by_cases hnm : n = m
  · subst hnm
    have HX := Lib.hid hx
    have HY := Lib.hid hy
    have b0 : ((n : Int) != (n : Int)) = false := by simp
    clear hx hy hm
    go_enter Try.func13, Try.ntmps13
    go_wp2
    go_loopw [5] (fun iv wr => ∃ (i k : Nat), iv = .int .i64 (i : Int) ∧ i ≤ n ∧ wr = w.drewN k ∧ Hid (xs.take i = ys.take i)) (fun iv _ => n - (intOf iv).toNat)
    case atStart => exact ⟨0, 0, rfl, Nat.zero_le _, rfl, Lib.hid rfl⟩
    case round =>
      obtain ⟨i, k, rfl, hi, rfl, hT⟩ := hrel
      have j1 : IntKind.i64.wrap ((i : Int) + 1) = (i : Int) + 1 := by rw [IntKind.wrap_i64]; omega
      by_cases hlt : i < n
      · have i1 : (i : Int) < (n : Int) := by omega
        have i0 : (0 : Int) ≤ (i : Int) := by omega
        obtain ⟨x, hx⟩ : ∃ x, xs[i]? = some x := ⟨_, List.getElem?_eq_getElem (by have := HX.out.1; omega)⟩
        obtain ⟨y, hy⟩ : ∃ y, ys[i]? = some y := ⟨_, List.getElem?_eq_getElem (by have := HY.out.1; omega)⟩
        obtain ⟨gx, rfl, cx⟩ := HX.out.2 i x hx
        obtain ⟨gy, rfl, cy⟩ := HY.out.2 i y hy
        have cx' : (w.drewN k).cell? ⟨gx, i, none⟩ = some (.int .i64 x) := cx
        have cy' : (w.drewN k).cell? ⟨gy, i, none⟩ = some (.int .i64 y) := cy
        have HC := Lib.hid (And.intro cx' cy')
        have Hx := Lib.hid hx
        have Hy := Lib.hid hy
        obtain ⟨wk, hwk⟩ : ∃ wk, w.drewN k = wk := ⟨_, rfl⟩
        have HWk := Lib.hid hwk
        rw [hwk] at HC ⊢
        by_cases hxy : x = y
        · subst hxy
          have bx : (x != x) = false := by simp
          clear hx hy cx cy cx' cy' hwk
          go_wp2
          refine wp_region_held_drew (S := (fun W => W.cell? ⟨gx, i, none⟩ = some (.int .i64 x) ∧ W.cell? ⟨gy, i, none⟩ = some (.int .i64 x))) (by kernel_rfl) ?_ (fun hHeld => ?_)
          · (exact HC.out)
          refine wpAnyH_take (i := 0) (oi := { dst := some 17, op := Go.Op.move (Go.Operand.tmp 0), type := 33, pos := "ref.go:258", after := #[], guard := none }) (v := ?_) rfl (by kernel_rfl) (by kernel_rfl) (by kernel_rfl) (fun _ _ _ h => h) (Or.inl ⟨by rfl, ?_⟩) (by assumption) ?_
          rotate_left
          · intro w hSw
            (try dsimp only at hSw)
            go_simp
            try (with_reducible rfl)
          try simp only [Act.put, List.setIfInBounds_toArray, List.set_cons_zero, List.set_cons_succ]
          refine wpAnyH_take (i := 1) (oi := { dst := some 18, op := Go.Op.move (Go.Operand.tmp 5), type := 3, pos := "ref.go:258", after := #[], guard := none }) (v := ?_) rfl (by kernel_rfl) (by kernel_rfl) (by kernel_rfl) (fun _ _ _ h => h) (Or.inl ⟨by rfl, ?_⟩) (by assumption) ?_
          rotate_left
          · intro w hSw
            (try dsimp only at hSw)
            go_simp
            try (with_reducible rfl)
          try simp only [Act.put, List.setIfInBounds_toArray, List.set_cons_zero, List.set_cons_succ]
          refine wpAnyH_take (i := 2) (oi := { dst := some 19, op := Go.Op.indexAddr 33 (Go.Operand.tmp 17) (Go.Operand.tmp 18), type := 0, pos := "ref.go:258", after := #[{ on := 0, ground := Go.Ground.data }, { on := 1, ground := Go.Ground.data }], guard := none }) (v := ?_) rfl (by kernel_rfl) (by kernel_rfl) (by kernel_rfl) (fun _ _ _ h => h) (Or.inl ⟨by rfl, ?_⟩) (by assumption) ?_
          rotate_left
          · intro w hSw
            (try dsimp only at hSw)
            go_simp
            try (with_reducible rfl)
          try simp only [Act.put, List.setIfInBounds_toArray, List.set_cons_zero, List.set_cons_succ]
          refine wpAnyH_take (i := 3) (oi := { dst := some 20, op := Go.Op.load 3 (Go.Operand.tmp 19), type := 3, pos := "ref.go:258", after := #[{ on := 2, ground := Go.Ground.data }], guard := none }) (v := ?_) rfl (by kernel_rfl) (by kernel_rfl) (by kernel_rfl) (fun _ _ _ h => h) (Or.inl ⟨by rfl, ?_⟩) (by assumption) ?_
          rotate_left
          · intro w hSw
            (try dsimp only at hSw)
            go_simp
            try (with_reducible rfl)
          try simp only [Act.put, List.setIfInBounds_toArray, List.set_cons_zero, List.set_cons_succ]
          refine wpAnyH_take (i := 4) (oi := { dst := some 21, op := Go.Op.move (Go.Operand.tmp 1), type := 33, pos := "ref.go:258", after := #[], guard := none }) (v := ?_) rfl (by kernel_rfl) (by kernel_rfl) (by kernel_rfl) (fun _ _ _ h => h) (Or.inl ⟨by rfl, ?_⟩) (by assumption) ?_
          rotate_left
          · intro w hSw
            (try dsimp only at hSw)
            go_simp
            try (with_reducible rfl)
          try simp only [Act.put, List.setIfInBounds_toArray, List.set_cons_zero, List.set_cons_succ]
          refine wpAnyH_take (i := 5) (oi := { dst := some 22, op := Go.Op.move (Go.Operand.tmp 5), type := 3, pos := "ref.go:258", after := #[], guard := none }) (v := ?_) rfl (by kernel_rfl) (by kernel_rfl) (by kernel_rfl) (fun _ _ _ h => h) (Or.inl ⟨by rfl, ?_⟩) (by assumption) ?_
          rotate_left
          · intro w hSw
            (try dsimp only at hSw)
            go_simp
            try (with_reducible rfl)
          try simp only [Act.put, List.setIfInBounds_toArray, List.set_cons_zero, List.set_cons_succ]
          refine wpAnyH_take (i := 6) (oi := { dst := some 23, op := Go.Op.indexAddr 33 (Go.Operand.tmp 21) (Go.Operand.tmp 22), type := 0, pos := "ref.go:258", after := #[{ on := 4, ground := Go.Ground.data }, { on := 5, ground := Go.Ground.data }], guard := none }) (v := ?_) rfl (by kernel_rfl) (by kernel_rfl) (by kernel_rfl) (fun _ _ _ h => h) (Or.inl ⟨by rfl, ?_⟩) (by assumption) ?_
          rotate_left
          · intro w hSw
            (try dsimp only at hSw)
            go_simp
            try (with_reducible rfl)
          try simp only [Act.put, List.setIfInBounds_toArray, List.set_cons_zero, List.set_cons_succ]
          refine wpAnyH_take (i := 7) (oi := { dst := some 24, op := Go.Op.load 3 (Go.Operand.tmp 23), type := 3, pos := "ref.go:258", after := #[{ on := 6, ground := Go.Ground.data }], guard := none }) (v := ?_) rfl (by kernel_rfl) (by kernel_rfl) (by kernel_rfl) (fun _ _ _ h => h) (Or.inl ⟨by rfl, ?_⟩) (by assumption) ?_
          rotate_left
          · intro w hSw
            (try dsimp only at hSw)
            go_simp
            try (with_reducible rfl)
          try simp only [Act.put, List.setIfInBounds_toArray, List.set_cons_zero, List.set_cons_succ]
          refine wpAnyH_take (i := 8) (oi := { dst := some 25, op := Go.Op.binOp Go.BinOp.neq 3 (Go.Operand.tmp 20) (Go.Operand.tmp 24) 3, type := 4, pos := "ref.go:258", after := #[{ on := 3, ground := Go.Ground.data }, { on := 7, ground := Go.Ground.data }], guard := none }) (v := ?_) rfl (by kernel_rfl) (by kernel_rfl) (by kernel_rfl) (fun _ _ _ h => h) (Or.inl ⟨by rfl, ?_⟩) (by assumption) ?_
          rotate_left
          · intro w hSw
            (try dsimp only at hSw)
            go_simp
            try (with_reducible rfl)
          try simp only [Act.put, List.setIfInBounds_toArray, List.set_cons_zero, List.set_cons_succ]
          refine wpAnyH_done (by kernel_rfl) ?_ _
          go_wp2
          go_roundw
          case rel => exact ⟨i + 1, k + 1, by go_num, hlt, by rw [← HWk.out]; rfl, Lib.hid (by rw [List.take_add_one, List.take_add_one, hT.out, Hx.out, Hy.out])⟩
          case measure => simp [intOf]; omega
        · have bx : (x != y) = true := by simpa using hxy
          have HN := Lib.hid (take_ne hx hy hxy)
          clear hx hy cx cy cx' cy' hxy hwk
          go_wp2
          refine wp_region_held_drew (S := (fun W => W.cell? ⟨gx, i, none⟩ = some (.int .i64 x) ∧ W.cell? ⟨gy, i, none⟩ = some (.int .i64 y))) (by kernel_rfl) ?_ (fun hHeld => ?_)
          · (exact HC.out)
          refine wpAnyH_take (i := 0) (oi := { dst := some 17, op := Go.Op.move (Go.Operand.tmp 0), type := 33, pos := "ref.go:258", after := #[], guard := none }) (v := ?_) rfl (by kernel_rfl) (by kernel_rfl) (by kernel_rfl) (fun _ _ _ h => h) (Or.inl ⟨by rfl, ?_⟩) (by assumption) ?_
          rotate_left
          · intro w hSw
            (try dsimp only at hSw)
            go_simp
            try (with_reducible rfl)
          try simp only [Act.put, List.setIfInBounds_toArray, List.set_cons_zero, List.set_cons_succ]
          refine wpAnyH_take (i := 1) (oi := { dst := some 18, op := Go.Op.move (Go.Operand.tmp 5), type := 3, pos := "ref.go:258", after := #[], guard := none }) (v := ?_) rfl (by kernel_rfl) (by kernel_rfl) (by kernel_rfl) (fun _ _ _ h => h) (Or.inl ⟨by rfl, ?_⟩) (by assumption) ?_
          rotate_left
          · intro w hSw
            (try dsimp only at hSw)
            go_simp
            try (with_reducible rfl)
          try simp only [Act.put, List.setIfInBounds_toArray, List.set_cons_zero, List.set_cons_succ]
          refine wpAnyH_take (i := 2) (oi := { dst := some 19, op := Go.Op.indexAddr 33 (Go.Operand.tmp 17) (Go.Operand.tmp 18), type := 0, pos := "ref.go:258", after := #[{ on := 0, ground := Go.Ground.data }, { on := 1, ground := Go.Ground.data }], guard := none }) (v := ?_) rfl (by kernel_rfl) (by kernel_rfl) (by kernel_rfl) (fun _ _ _ h => h) (Or.inl ⟨by rfl, ?_⟩) (by assumption) ?_
          rotate_left
          · intro w hSw
            (try dsimp only at hSw)
            go_simp
            try (with_reducible rfl)
          try simp only [Act.put, List.setIfInBounds_toArray, List.set_cons_zero, List.set_cons_succ]
          refine wpAnyH_take (i := 3) (oi := { dst := some 20, op := Go.Op.load 3 (Go.Operand.tmp 19), type := 3, pos := "ref.go:258", after := #[{ on := 2, ground := Go.Ground.data }], guard := none }) (v := ?_) rfl (by kernel_rfl) (by kernel_rfl) (by kernel_rfl) (fun _ _ _ h => h) (Or.inl ⟨by rfl, ?_⟩) (by assumption) ?_
          rotate_left
          · intro w hSw
            (try dsimp only at hSw)
            go_simp
            try (with_reducible rfl)
          try simp only [Act.put, List.setIfInBounds_toArray, List.set_cons_zero, List.set_cons_succ]
          refine wpAnyH_take (i := 4) (oi := { dst := some 21, op := Go.Op.move (Go.Operand.tmp 1), type := 33, pos := "ref.go:258", after := #[], guard := none }) (v := ?_) rfl (by kernel_rfl) (by kernel_rfl) (by kernel_rfl) (fun _ _ _ h => h) (Or.inl ⟨by rfl, ?_⟩) (by assumption) ?_
          rotate_left
          · intro w hSw
            (try dsimp only at hSw)
            go_simp
            try (with_reducible rfl)
          try simp only [Act.put, List.setIfInBounds_toArray, List.set_cons_zero, List.set_cons_succ]
          refine wpAnyH_take (i := 5) (oi := { dst := some 22, op := Go.Op.move (Go.Operand.tmp 5), type := 3, pos := "ref.go:258", after := #[], guard := none }) (v := ?_) rfl (by kernel_rfl) (by kernel_rfl) (by kernel_rfl) (fun _ _ _ h => h) (Or.inl ⟨by rfl, ?_⟩) (by assumption) ?_
          rotate_left
          · intro w hSw
            (try dsimp only at hSw)
            go_simp
            try (with_reducible rfl)
          try simp only [Act.put, List.setIfInBounds_toArray, List.set_cons_zero, List.set_cons_succ]
          refine wpAnyH_take (i := 6) (oi := { dst := some 23, op := Go.Op.indexAddr 33 (Go.Operand.tmp 21) (Go.Operand.tmp 22), type := 0, pos := "ref.go:258", after := #[{ on := 4, ground := Go.Ground.data }, { on := 5, ground := Go.Ground.data }], guard := none }) (v := ?_) rfl (by kernel_rfl) (by kernel_rfl) (by kernel_rfl) (fun _ _ _ h => h) (Or.inl ⟨by rfl, ?_⟩) (by assumption) ?_
          rotate_left
          · intro w hSw
            (try dsimp only at hSw)
            go_simp
            try (with_reducible rfl)
          try simp only [Act.put, List.setIfInBounds_toArray, List.set_cons_zero, List.set_cons_succ]
          refine wpAnyH_take (i := 7) (oi := { dst := some 24, op := Go.Op.load 3 (Go.Operand.tmp 23), type := 3, pos := "ref.go:258", after := #[{ on := 6, ground := Go.Ground.data }], guard := none }) (v := ?_) rfl (by kernel_rfl) (by kernel_rfl) (by kernel_rfl) (fun _ _ _ h => h) (Or.inl ⟨by rfl, ?_⟩) (by assumption) ?_
          rotate_left
          · intro w hSw
            (try dsimp only at hSw)
            go_simp
            try (with_reducible rfl)
          try simp only [Act.put, List.setIfInBounds_toArray, List.set_cons_zero, List.set_cons_succ]
          refine wpAnyH_take (i := 8) (oi := { dst := some 25, op := Go.Op.binOp Go.BinOp.neq 3 (Go.Operand.tmp 20) (Go.Operand.tmp 24) 3, type := 4, pos := "ref.go:258", after := #[{ on := 3, ground := Go.Ground.data }, { on := 7, ground := Go.Ground.data }], guard := none }) (v := ?_) rfl (by kernel_rfl) (by kernel_rfl) (by kernel_rfl) (fun _ _ _ h => h) (Or.inl ⟨by rfl, ?_⟩) (by assumption) ?_
          rotate_left
          · intro w hSw
            (try dsimp only at hSw)
            go_simp
            try (with_reducible rfl)
          try simp only [Act.put, List.setIfInBounds_toArray, List.set_cons_zero, List.set_cons_succ]
          refine wpAnyH_done (by kernel_rfl) ?_ _
          go_wp2
          go_ret
          exact ⟨by rw [decide_eq_false HN.out]; rfl, by rw [← HWk.out]; exact ((Tch.refl w []).drewN k).drew⟩
      · obtain rfl : i = n := by omega
        have i1 : ¬ (i : Int) < (i : Int) := by omega
        have hxy : xs = ys := by
          have h1 := hT.out
          rwa [List.take_of_length_le (Nat.le_of_eq HX.out.1), List.take_of_length_le (Nat.le_of_eq HY.out.1)] at h1
        have HE := Lib.hid hxy
        clear hxy hlt hi
        go_wp2
        go_ret
        exact ⟨by rw [decide_eq_true HE.out]; rfl, (Tch.refl w []).drewN k⟩
  · have hne : xs ≠ ys := fun e => hnm (by rw [← hx.1, ← hy.1, e])
    have HN := Lib.hid hne
    have b0 : ((n : Int) != (m : Int)) = true := by simp; omega
    clear hx hy hne hnm
    go_enter Try.func13, Try.ntmps13
    go_wp2
    go_ret
    exact ⟨by rw [decide_eq_false HN.out]; rfl, Tch.refl w []⟩
end Go.Proofs.Ytakeodnebegbhaa
