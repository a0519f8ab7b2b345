/-
  The laws' own helpers (layer 10): power, pick, place, same.
-/
import Derived.Test.YtiocdojdncomhaaDoorArW
namespace Go.Proofs.YtiocdojdncomhaaDoor
open Go.RowKit Go.Maps
set_option linter.unusedVariables false

set_option maxHeartbeats 1000000 in
theorem power_any (k : Nat) (hk : k ≤ 16) (w : World) : Calls Tryd.prog 27 #[.int .i64 (k : Int)] w fun e w' => e = .returned (.int .i64 ((2 ^ k : Nat) : Int)) ∧ w = w' := by
  go_enter Tryd.func27, Tryd.ntmps27
  go_wp2
  go_loop [3, 4] (fun n i => ∃ j : Nat, j ≤ k ∧ i = .int .i64 (j : Int) ∧ n = .int .i64 ((2 ^ j : Nat) : Int)) (fun _ i => k - (intOf i).toNat)
  case atStart => exact ⟨0, Nat.zero_le _, rfl, rfl⟩
  case round =>
    obtain ⟨j, hj, rfl, rfl⟩ := hrel
    have hp := pow16 (Nat.le_trans hj hk)
    have hs : 2 ^ (j + 1) = 2 * 2 ^ j := by rw [Nat.pow_succ]; omega
    obtain ⟨P, hP⟩ : ∃ P : Nat, 2 ^ j = P := ⟨_, rfl⟩
    rw [hP] at hp hs ⊢
    by_cases hlt : j < k
    · have h1 : (j : Int) < k := by omega
      have HS := Lib.hid hs
      have j1 : IntKind.i64.wrap (2 * (P : Int)) = 2 * (P : Int) := by rw [IntKind.wrap_i64]; omega
      have j2 : IntKind.i64.wrap ((j : Int) + 1) = (j : Int) + 1 := by rw [IntKind.wrap_i64]; omega
      clear hs hP
      go_wp2
      go_round
      case rel => exact ⟨j + 1, hlt, by go_num, by rw [HS.out]; exact congrArg (Value.int .i64) (by omega)⟩
      case measure => simp [intOf]; omega
    · obtain rfl : j = k := by omega
      have h1 : ¬ (j : Int) < j := by omega
      have HP := Lib.hid hP
      clear hs hP
      go_wp2
      go_ret
      exact ⟨ar_i64 (by rw [← HP.out]; simp), rfl⟩
/-- A raw number as one below n. -/
def pk (x n : Int) : Int := if n < 1 then 0 else (if x < 0 then -(x + 1) else x) % n
theorem pk_bd (x : Int) {n : Int} (h : 1 ≤ n) : 0 ≤ pk x n ∧ pk x n < n := by
  unfold pk
  rw [if_neg (by omega)]
  split
  · exact ⟨Int.emod_nonneg _ (by omega), Int.emod_lt_of_pos _ (by omega)⟩
  · exact ⟨Int.emod_nonneg _ (by omega), Int.emod_lt_of_pos _ (by omega)⟩
set_option maxHeartbeats 1000000 in
theorem pick_any (x n : Int) (hn : 1 ≤ n) (hn2 : n ≤ 1000000) (h1 : -9223372036854775808 ≤ x) (h2 : x ≤ 9223372036854775807) (w : World) :
    Calls Tryd.prog 25 #[.int .i64 x, .int .i64 n] w fun e w' => e = .returned (.int .i64 (pk x n)) ∧ w = w' := by
  have n1 : ¬ n < 1 := by omega
  have hb := pk_bd x hn
  have n0 : (n == 0) = false := by simp; omega
  by_cases hx : x < 0
  · have e1 : pk x n = (-(x + 1)) % n := by unfold pk; rw [if_neg n1, if_pos hx]
    obtain ⟨y, hy⟩ : ∃ y : Int, -(x + 1) = y := ⟨_, rfl⟩
    have y1 : IntKind.i64.wrap (x + 1) = x + 1 := by rw [IntKind.wrap_i64]; omega
    have y2 : wrap64 (-(x + 1)) = y := by unfold wrap64; omega
    have y3 : IntKind.i64.wrap (-(x + 1)) = y := by rw [IntKind.wrap_i64]; omega
    rw [hy] at e1
    rw [e1]
    have y0 : 0 ≤ y := by omega
    have e2 : Int.tmod y n = y % n := Int.tmod_eq_emod_of_nonneg y0
    rw [← e2] at e1 ⊢
    obtain ⟨Z, hZ⟩ : ∃ Z : Int, Int.tmod y n = Z := ⟨_, rfl⟩
    rw [hZ]
    have z1 : IntKind.i64.wrap Z = Z := by rw [e1, hZ] at hb; rw [IntKind.wrap_i64]; omega
    clear e1 e2 hb hy
    go_enter Tryd.func25, Tryd.ntmps25
    go_wp2
    go_ret
    exact ⟨rfl, rfl⟩
  · have e1 : pk x n = x % n := by unfold pk; rw [if_neg n1, if_neg hx]
    rw [e1]
    have e2 : Int.tmod x n = x % n := Int.tmod_eq_emod_of_nonneg (by omega)
    rw [← e2] at e1 ⊢
    obtain ⟨Z, hZ⟩ : ∃ Z : Int, Int.tmod x n = Z := ⟨_, rfl⟩
    rw [hZ]
    have z1 : IntKind.i64.wrap Z = Z := by rw [e1, hZ] at hb; rw [IntKind.wrap_i64]; omega
    clear e1 e2 hb
    go_enter Tryd.func25, Tryd.ntmps25
    go_wp2
    go_ret
    exact ⟨rfl, rfl⟩
/-- A row of ints: what a slice reads as; its block lies at B or behind it. -/
def RdI (W : World) (B : Nat) (A : Option Addr) (n : Nat) (zs : List Int) : Prop :=
  zs.length = n ∧ (0 < n → ∃ g, A = some ⟨g, 0, none⟩ ∧ B ≤ g ∧ g < W.heap.size ∧ ∀ j z, zs[j]? = some z → W.cell? ⟨g, j, none⟩ = some (.int .i64 z))
theorem RdI.of_own {W : World} {B : Nat} {v : Value} {zs : List Int} (h : W.ownsRow B 3 1 v zs.length (zs.map (Value.int .i64))) : ∃ A c, v = .slice A zs.length c ∧ RdI W B A zs.length zs ∧ zs.length ≤ c := by
  rcases h.2 with ⟨hv, h0⟩ | ⟨g, cap, cur, hv, hb, hg, h1, h2, h3, h4⟩
  · exact ⟨none, 0, by rw [hv, h0], ⟨rfl, fun h => absurd h (by omega)⟩, by omega⟩
  · refine ⟨some ⟨g, 0, none⟩, cap, hv, ⟨rfl, fun h0 => ⟨g, rfl, hb, (Array.getElem?_eq_some_iff.1 hg).1, fun j z hj => ?_⟩⟩, by omega⟩
    have hjl := (List.getElem?_eq_some_iff.1 hj).1
    rw [cell_of_row W g j cur _ _ hg]
    have e : (cur.toList.take (zs.length * 1))[j]? = (zs.map (Value.int .i64))[j]? := by rw [h4]
    rw [List.getElem?_take_of_lt (by omega), List.getElem?_map, hj] at e
    rw [← Array.getElem?_toList]
    exact e
theorem RdI.tou {W W' : World} {B r bm bn n : Nat} {A : Option Addr} {zs : List Int} (h : RdI W B A n zs) (ht : Tou W W' r bm bn) (h1 : r < B) (h2 : bm < B) (h3 : bn < B) : RdI W' B A n zs := by
  refine ⟨h.1, fun h0 => ?_⟩
  obtain ⟨g, e, hb, hlt, hc⟩ := h.2 h0
  refine ⟨g, e, hb, by have := ht.size; omega, fun j z hj => ?_⟩
  have := hc j z hj
  unfold World.cell? at this ⊢
  rw [ht.block g hlt (by omega) (by omega) (by omega)]
  exact this
theorem RdI.below {W W' : World} {B n : Nat} {A : Option Addr} {zs : List Int} (h : RdI W B A n zs) (hb : Below W.heap.size W W') : RdI W' B A n zs := by
  refine ⟨h.1, fun h0 => ?_⟩
  obtain ⟨g, e, hB, hlt, hc⟩ := h.2 h0
  exact ⟨g, e, hB, by have := hb.size; omega, fun j z hj => (hb.cell (p := ⟨g, j, none⟩) hlt).trans (hc j z hj)⟩
/-- Which place a step gives back. -/
def plS (x : Bool × Bool × Int) (T : List Int) : Int := if x.2.1 then x.2.2 else if pk x.2.2 ((T.length : Int) + 1) = (T.length : Int) then -1 else T.getD (pk x.2.2 ((T.length : Int) + 1)).toNat 0
set_option maxRecDepth 100000 in
set_option maxHeartbeats 2000000 in
theorem place_any (x : Bool × Bool × Int) (hx1 : -9223372036854775808 ≤ x.2.2) (hx2 : x.2.2 ≤ 9223372036854775807) (B n c : Nat) (A : Option Addr) (T : List Int) (hn : n ≤ 70000) (w : World) (hR : RdI w B A n T) :
    Calls Tryd.prog 11 #[.agg #[.bool x.1, .bool x.2.1, .int .i64 x.2.2], .slice A n c] w fun e w' => e = .returned (.int .i64 (plS x T)) ∧ Below w.heap.size w w' := by
  obtain ⟨x0, x1, N⟩ := x
  simp only at hx1 hx2 ⊢
  have hTn := hR.1
  cases x1 with
  | true =>
    have e : plS (x0, true, N) T = N := by simp [plS]
    rw [e]
    clear e hR hTn
    go_enter Tryd.func11, Tryd.ntmps11
    go_wp2
    go_ret
    exact ⟨rfl, (Below.refl _ _).alloc (Nat.le_refl _) _⟩
  | false =>
    have e : plS (x0, false, N) T = if pk N ((n : Int) + 1) = (n : Int) then -1 else T.getD (pk N ((n : Int) + 1)).toNat 0 := by simp [plS, hTn]
    rw [e]
    have hb := pk_bd N (n := (n : Int) + 1) (by omega)
    have HK := Lib.hid (fun W => pick_any N ((n : Int) + 1) (by omega) (by omega) hx1 hx2 W)
    obtain ⟨K, hK⟩ : ∃ K : Nat, pk N ((n : Int) + 1) = (K : Int) := ⟨(pk N ((n : Int) + 1)).toNat, by omega⟩
    rw [hK] at hb HK ⊢
    have j1 : IntKind.i64.wrap ((n : Int) + 1) = (n : Int) + 1 := by rw [IntKind.wrap_i64]; omega
    by_cases hq : K = n
    · subst hq
      rw [if_pos rfl]
      clear e hK hR hTn hb
      go_enter Tryd.func11, Tryd.ntmps11
      go_wp2_with (go_at_call 25; (with_reducible refine Calls.mono (HK.out _) ?_); rintro e w' ⟨rfl, rfl⟩)
      go_ret
      exact ⟨rfl, (Below.refl _ _).alloc (Nat.le_refl _) _⟩
    · rw [if_neg (by omega)]
      obtain ⟨g, rfl, hB, hlt, hc⟩ := hR.2 (by omega)
      have hKn : K < T.length := by omega
      obtain ⟨z, hz⟩ : ∃ z, T[K]? = some z := ⟨_, List.getElem?_eq_getElem hKn⟩
      have c1 := hc K z hz
      have c1' := (World.cell?_alloc_lt (w := w) (o := .cells #[.bool x0, .bool false, .int .i64 N] 32) (a := ⟨g, K, none⟩) hlt).trans c1
      have e2 : T.getD (Int.toNat (K : Int)) 0 = z := by simp [hz]
      rw [e2]
      have q1 : ((K : Int) == (n : Int)) = false := by simp; omega
      have q2 : (K : Int) < (n : Int) := by omega
      clear e hK hR hTn hb hc e2 hz hKn
      go_enter Tryd.func11, Tryd.ntmps11
      go_wp2_with (go_at_call 25; (with_reducible refine Calls.mono (HK.out _) ?_); rintro e w' ⟨rfl, rfl⟩)
      go_ret
      exact ⟨rfl, (Below.refl _ _).alloc (Nat.le_refl _) _⟩
theorem sm_bool {a b : Bool} (h : a = b) : Ending.returned (.bool a) = .returned (.bool b) := by rw [h]
theorem eq_len {xs ys : List Int} (h : xs.length ≠ ys.length) : decide (xs = ys) = false := by simp; intro e; exact h (by rw [e])
set_option maxRecDepth 100000 in
set_option maxHeartbeats 2000000 in
theorem same_any (B n c : Nat) (A : Option Addr) (xs : List Int) (B' n' c' : Nat) (A' : Option Addr) (ys : List Int) (hn : n ≤ 70000) (w : World) (h1 : RdI w B A n xs) (h2 : RdI w B' A' n' ys) :
    Calls Tryd.prog 19 #[.slice A n c, .slice A' n' c'] w fun e w' => e = .returned (.bool (decide (xs = ys))) ∧ Below w.heap.size w w' := by
  have e1 := h1.1
  have e2 := h2.1
  have H1 := Lib.hid h1
  have H2 := Lib.hid h2
  by_cases hl : n = n'
  · subst hl
    clear h1 h2 e1 e2
    have hq : ((n : Int) != (n : Int)) = false := by simp
    go_enter Tryd.func19, Tryd.ntmps19
    go_wp2
    go_loopw [5] (fun iv wr => ∃ j : Nat, iv = .int .i64 (j : Int) ∧ j ≤ n ∧ Hid (xs.take j = ys.take j) ∧ Hid (Below w.heap.size w wr)) (fun iv _ => n - (intOf iv).toNat)
    case atStart => exact ⟨0, rfl, Nat.zero_le _, Lib.hid (by simp), Lib.hid (Below.refl _ _)⟩
    case round =>
      obtain ⟨j, rfl, hj, hT, hB⟩ := hrel
      by_cases hlt : j < n
      · obtain ⟨g, rfl, -, -, hc⟩ := (H1.out.below hB.out).2 (by omega)
        obtain ⟨g', rfl, -, -, hc'⟩ := (H2.out.below hB.out).2 (by omega)
        obtain ⟨x, hx⟩ : ∃ x, xs[j]? = some x := ⟨_, List.getElem?_eq_getElem (by rw [H1.out.1]; exact hlt)⟩
        obtain ⟨y, hy⟩ : ∃ y, ys[j]? = some y := ⟨_, List.getElem?_eq_getElem (by rw [H2.out.1]; exact hlt)⟩
        have c1 := hc j x hx
        have c2 := hc' j y hy
        have HC := Lib.hid (And.intro c1 c2)
        have hjI : (j : Int) < n := by omega
        have hj0 : (0 : Int) ≤ j := by omega
        have j3 : IntKind.i64.wrap ((j : Int) + 1) = (j : Int) + 1 := by rw [IntKind.wrap_i64]; omega
        have HXY := Lib.hid (And.intro hx hy)
        clear hc hc' hx hy
        by_cases hxy : x = y
        · subst hxy
          have HT2 : Hid (xs.take (j + 1) = ys.take (j + 1)) := Lib.hid (by rw [List.take_add_one, List.take_add_one, hT.out, HXY.out.1, HXY.out.2])
          have hd : (x != x) = false := by simp
          go_wp2
          refine wp_region_held_drew (S := (fun W => W.cell? ⟨g, j, none⟩ = some (.int .i64 x) ∧ W.cell? ⟨g', j, none⟩ = some (.int .i64 x))) (by kernel_rfl) ?_ (fun hHeld => ?_)
          · (exact HC.out)
          refine wpAnyH_take (i := 0) (oi := { dst := some 17, op := Go.Op.move (Go.Operand.tmp 0), type := 34, pos := "law.go:22", after := #[], guard := none }) (v := ?_) rfl (by kernel_rfl) (by kernel_rfl) (by kernel_rfl) (fun _ _ _ h => h) (Or.inl ⟨by rfl, ?_⟩) (by assumption) ?_
          rotate_left
          · intro w hSw
            (try dsimp only at hSw)
            go_simp
            try (with_reducible rfl)
          try simp only [Act.put, List.setIfInBounds_toArray, List.set_cons_zero, List.set_cons_succ]
          refine wpAnyH_take (i := 1) (oi := { dst := some 18, op := Go.Op.move (Go.Operand.tmp 5), type := 3, pos := "law.go:22", after := #[], guard := none }) (v := ?_) rfl (by kernel_rfl) (by kernel_rfl) (by kernel_rfl) (fun _ _ _ h => h) (Or.inl ⟨by rfl, ?_⟩) (by assumption) ?_
          rotate_left
          · intro w hSw
            (try dsimp only at hSw)
            go_simp
            try (with_reducible rfl)
          try simp only [Act.put, List.setIfInBounds_toArray, List.set_cons_zero, List.set_cons_succ]
          refine wpAnyH_take (i := 2) (oi := { dst := some 19, op := Go.Op.indexAddr 34 (Go.Operand.tmp 17) (Go.Operand.tmp 18), type := 0, pos := "law.go:22", after := #[{ on := 0, ground := Go.Ground.data }, { on := 1, ground := Go.Ground.data }], guard := none }) (v := ?_) rfl (by kernel_rfl) (by kernel_rfl) (by kernel_rfl) (fun _ _ _ h => h) (Or.inl ⟨by rfl, ?_⟩) (by assumption) ?_
          rotate_left
          · intro w hSw
            (try dsimp only at hSw)
            go_simp
            try (with_reducible rfl)
          try simp only [Act.put, List.setIfInBounds_toArray, List.set_cons_zero, List.set_cons_succ]
          refine wpAnyH_take (i := 3) (oi := { dst := some 20, op := Go.Op.load 3 (Go.Operand.tmp 19), type := 3, pos := "law.go:22", after := #[{ on := 2, ground := Go.Ground.data }], guard := none }) (v := ?_) rfl (by kernel_rfl) (by kernel_rfl) (by kernel_rfl) (fun _ _ _ h => h) (Or.inl ⟨by rfl, ?_⟩) (by assumption) ?_
          rotate_left
          · intro w hSw
            (try dsimp only at hSw)
            go_simp
            try (with_reducible rfl)
          try simp only [Act.put, List.setIfInBounds_toArray, List.set_cons_zero, List.set_cons_succ]
          refine wpAnyH_take (i := 4) (oi := { dst := some 21, op := Go.Op.move (Go.Operand.tmp 1), type := 34, pos := "law.go:22", after := #[], guard := none }) (v := ?_) rfl (by kernel_rfl) (by kernel_rfl) (by kernel_rfl) (fun _ _ _ h => h) (Or.inl ⟨by rfl, ?_⟩) (by assumption) ?_
          rotate_left
          · intro w hSw
            (try dsimp only at hSw)
            go_simp
            try (with_reducible rfl)
          try simp only [Act.put, List.setIfInBounds_toArray, List.set_cons_zero, List.set_cons_succ]
          refine wpAnyH_take (i := 5) (oi := { dst := some 22, op := Go.Op.move (Go.Operand.tmp 5), type := 3, pos := "law.go:22", after := #[], guard := none }) (v := ?_) rfl (by kernel_rfl) (by kernel_rfl) (by kernel_rfl) (fun _ _ _ h => h) (Or.inl ⟨by rfl, ?_⟩) (by assumption) ?_
          rotate_left
          · intro w hSw
            (try dsimp only at hSw)
            go_simp
            try (with_reducible rfl)
          try simp only [Act.put, List.setIfInBounds_toArray, List.set_cons_zero, List.set_cons_succ]
          refine wpAnyH_take (i := 6) (oi := { dst := some 23, op := Go.Op.indexAddr 34 (Go.Operand.tmp 21) (Go.Operand.tmp 22), type := 0, pos := "law.go:22", after := #[{ on := 4, ground := Go.Ground.data }, { on := 5, ground := Go.Ground.data }], guard := none }) (v := ?_) rfl (by kernel_rfl) (by kernel_rfl) (by kernel_rfl) (fun _ _ _ h => h) (Or.inl ⟨by rfl, ?_⟩) (by assumption) ?_
          rotate_left
          · intro w hSw
            (try dsimp only at hSw)
            go_simp
            try (with_reducible rfl)
          try simp only [Act.put, List.setIfInBounds_toArray, List.set_cons_zero, List.set_cons_succ]
          refine wpAnyH_take (i := 7) (oi := { dst := some 24, op := Go.Op.load 3 (Go.Operand.tmp 23), type := 3, pos := "law.go:22", after := #[{ on := 6, ground := Go.Ground.data }], guard := none }) (v := ?_) rfl (by kernel_rfl) (by kernel_rfl) (by kernel_rfl) (fun _ _ _ h => h) (Or.inl ⟨by rfl, ?_⟩) (by assumption) ?_
          rotate_left
          · intro w hSw
            (try dsimp only at hSw)
            go_simp
            try (with_reducible rfl)
          try simp only [Act.put, List.setIfInBounds_toArray, List.set_cons_zero, List.set_cons_succ]
          refine wpAnyH_take (i := 8) (oi := { dst := some 25, op := Go.Op.binOp Go.BinOp.neq 3 (Go.Operand.tmp 20) (Go.Operand.tmp 24) 3, type := 4, pos := "law.go:22", after := #[{ on := 3, ground := Go.Ground.data }, { on := 7, ground := Go.Ground.data }], guard := none }) (v := ?_) rfl (by kernel_rfl) (by kernel_rfl) (by kernel_rfl) (fun _ _ _ h => h) (Or.inl ⟨by rfl, ?_⟩) (by assumption) ?_
          rotate_left
          · intro w hSw
            (try dsimp only at hSw)
            go_simp
            try (with_reducible rfl)
          try simp only [Act.put, List.setIfInBounds_toArray, List.set_cons_zero, List.set_cons_succ]
          refine wpAnyH_done (by kernel_rfl) ?_ _
          go_wp2
          go_roundw
          case rel => exact ⟨j + 1, by go_num, hlt, HT2, Lib.hid hB.out.drew⟩
          case measure => simp [intOf]; omega
        · have hd : (x != y) = true := by simpa using hxy
          have HN : Hid (decide (xs = ys) = false) := Lib.hid (by
            simp
            intro e
            have h3 := HXY.out.1
            rw [e, HXY.out.2] at h3
            injection h3 with h3
            exact hxy h3.symm)
          clear hxy
          go_wp2
          refine wp_region_held_drew (S := (fun W => W.cell? ⟨g, j, none⟩ = some (.int .i64 x) ∧ W.cell? ⟨g', j, none⟩ = some (.int .i64 y))) (by kernel_rfl) ?_ (fun hHeld => ?_)
          · (exact HC.out)
          refine wpAnyH_take (i := 0) (oi := { dst := some 17, op := Go.Op.move (Go.Operand.tmp 0), type := 34, pos := "law.go:22", after := #[], guard := none }) (v := ?_) rfl (by kernel_rfl) (by kernel_rfl) (by kernel_rfl) (fun _ _ _ h => h) (Or.inl ⟨by rfl, ?_⟩) (by assumption) ?_
          rotate_left
          · intro w hSw
            (try dsimp only at hSw)
            go_simp
            try (with_reducible rfl)
          try simp only [Act.put, List.setIfInBounds_toArray, List.set_cons_zero, List.set_cons_succ]
          refine wpAnyH_take (i := 1) (oi := { dst := some 18, op := Go.Op.move (Go.Operand.tmp 5), type := 3, pos := "law.go:22", after := #[], guard := none }) (v := ?_) rfl (by kernel_rfl) (by kernel_rfl) (by kernel_rfl) (fun _ _ _ h => h) (Or.inl ⟨by rfl, ?_⟩) (by assumption) ?_
          rotate_left
          · intro w hSw
            (try dsimp only at hSw)
            go_simp
            try (with_reducible rfl)
          try simp only [Act.put, List.setIfInBounds_toArray, List.set_cons_zero, List.set_cons_succ]
          refine wpAnyH_take (i := 2) (oi := { dst := some 19, op := Go.Op.indexAddr 34 (Go.Operand.tmp 17) (Go.Operand.tmp 18), type := 0, pos := "law.go:22", after := #[{ on := 0, ground := Go.Ground.data }, { on := 1, ground := Go.Ground.data }], guard := none }) (v := ?_) rfl (by kernel_rfl) (by kernel_rfl) (by kernel_rfl) (fun _ _ _ h => h) (Or.inl ⟨by rfl, ?_⟩) (by assumption) ?_
          rotate_left
          · intro w hSw
            (try dsimp only at hSw)
            go_simp
            try (with_reducible rfl)
          try simp only [Act.put, List.setIfInBounds_toArray, List.set_cons_zero, List.set_cons_succ]
          refine wpAnyH_take (i := 3) (oi := { dst := some 20, op := Go.Op.load 3 (Go.Operand.tmp 19), type := 3, pos := "law.go:22", after := #[{ on := 2, ground := Go.Ground.data }], guard := none }) (v := ?_) rfl (by kernel_rfl) (by kernel_rfl) (by kernel_rfl) (fun _ _ _ h => h) (Or.inl ⟨by rfl, ?_⟩) (by assumption) ?_
          rotate_left
          · intro w hSw
            (try dsimp only at hSw)
            go_simp
            try (with_reducible rfl)
          try simp only [Act.put, List.setIfInBounds_toArray, List.set_cons_zero, List.set_cons_succ]
          refine wpAnyH_take (i := 4) (oi := { dst := some 21, op := Go.Op.move (Go.Operand.tmp 1), type := 34, pos := "law.go:22", after := #[], guard := none }) (v := ?_) rfl (by kernel_rfl) (by kernel_rfl) (by kernel_rfl) (fun _ _ _ h => h) (Or.inl ⟨by rfl, ?_⟩) (by assumption) ?_
          rotate_left
          · intro w hSw
            (try dsimp only at hSw)
            go_simp
            try (with_reducible rfl)
          try simp only [Act.put, List.setIfInBounds_toArray, List.set_cons_zero, List.set_cons_succ]
          refine wpAnyH_take (i := 5) (oi := { dst := some 22, op := Go.Op.move (Go.Operand.tmp 5), type := 3, pos := "law.go:22", after := #[], guard := none }) (v := ?_) rfl (by kernel_rfl) (by kernel_rfl) (by kernel_rfl) (fun _ _ _ h => h) (Or.inl ⟨by rfl, ?_⟩) (by assumption) ?_
          rotate_left
          · intro w hSw
            (try dsimp only at hSw)
            go_simp
            try (with_reducible rfl)
          try simp only [Act.put, List.setIfInBounds_toArray, List.set_cons_zero, List.set_cons_succ]
          refine wpAnyH_take (i := 6) (oi := { dst := some 23, op := Go.Op.indexAddr 34 (Go.Operand.tmp 21) (Go.Operand.tmp 22), type := 0, pos := "law.go:22", after := #[{ on := 4, ground := Go.Ground.data }, { on := 5, ground := Go.Ground.data }], guard := none }) (v := ?_) rfl (by kernel_rfl) (by kernel_rfl) (by kernel_rfl) (fun _ _ _ h => h) (Or.inl ⟨by rfl, ?_⟩) (by assumption) ?_
          rotate_left
          · intro w hSw
            (try dsimp only at hSw)
            go_simp
            try (with_reducible rfl)
          try simp only [Act.put, List.setIfInBounds_toArray, List.set_cons_zero, List.set_cons_succ]
          refine wpAnyH_take (i := 7) (oi := { dst := some 24, op := Go.Op.load 3 (Go.Operand.tmp 23), type := 3, pos := "law.go:22", after := #[{ on := 6, ground := Go.Ground.data }], guard := none }) (v := ?_) rfl (by kernel_rfl) (by kernel_rfl) (by kernel_rfl) (fun _ _ _ h => h) (Or.inl ⟨by rfl, ?_⟩) (by assumption) ?_
          rotate_left
          · intro w hSw
            (try dsimp only at hSw)
            go_simp
            try (with_reducible rfl)
          try simp only [Act.put, List.setIfInBounds_toArray, List.set_cons_zero, List.set_cons_succ]
          refine wpAnyH_take (i := 8) (oi := { dst := some 25, op := Go.Op.binOp Go.BinOp.neq 3 (Go.Operand.tmp 20) (Go.Operand.tmp 24) 3, type := 4, pos := "law.go:22", after := #[{ on := 3, ground := Go.Ground.data }, { on := 7, ground := Go.Ground.data }], guard := none }) (v := ?_) rfl (by kernel_rfl) (by kernel_rfl) (by kernel_rfl) (fun _ _ _ h => h) (Or.inl ⟨by rfl, ?_⟩) (by assumption) ?_
          rotate_left
          · intro w hSw
            (try dsimp only at hSw)
            go_simp
            try (with_reducible rfl)
          try simp only [Act.put, List.setIfInBounds_toArray, List.set_cons_zero, List.set_cons_succ]
          refine wpAnyH_done (by kernel_rfl) ?_ _
          go_wp2
          go_ret
          exact ⟨sm_bool HN.out.symm, hB.out.drew⟩
      · have HN : Hid (decide (xs = ys) = true) := Lib.hid (by
          have h3 := hT.out
          rw [List.take_of_length_le (by rw [H1.out.1]; omega), List.take_of_length_le (by rw [H2.out.1]; omega)] at h3
          simp [h3])
        have hjI : ¬ (j : Int) < n := by omega
        go_wp2
        go_ret
        exact ⟨sm_bool HN.out.symm, hB.out⟩
  · have hq : ((n : Int) != (n' : Int)) = true := by simp; omega
    rw [eq_len (by omega)]
    clear h1 h2 e1 e2 hl
    go_enter Tryd.func19, Tryd.ntmps19
    go_wp2
    go_ret
    exact ⟨rfl, Below.refl _ _⟩
end Go.Proofs.YtiocdojdncomhaaDoor
