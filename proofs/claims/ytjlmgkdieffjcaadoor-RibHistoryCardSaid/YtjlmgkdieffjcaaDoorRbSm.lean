/-
  The document's SamePrefixes, SamePaths (layer 15).
-/
import Derived.Test.YtjlmgkdieffjcaaDoorRbEq
namespace Go.Proofs.YtjlmgkdieffjcaaDoor
open Go.RowKit
set_option linter.unusedVariables false

set_option maxRecDepth 100000 in
set_option maxHeartbeats 4000000 in
theorem samePf (A B : Option Addr) (n m c d : Nat) (x y : List PfI) (hx : x.length = n) (hy : y.length = m) (hn : n ≤ 1000) (hm : m ≤ 1000) (w : World) (h1 : w.ownsRow 0 37 4 (.slice A n c) n (x.flatMap pfC)) (h2 : w.ownsRow 0 37 4 (.slice B m d) m (y.flatMap pfC)) :
    Calls Tryd.prog 16 #[.slice A n c, .slice B m d] w fun e w' => e = .returned (.bool (decide (x = y))) ∧ Tch w w' [] := by
  obtain ⟨R, hR⟩ : ∃ R, decide (x = y) = R := ⟨_, rfl⟩
  rw [hR]
  have HR := Lib.hid hR
  have HX := Lib.hid hx
  have HY := Lib.hid hy
  have H1 := Lib.hid h1
  have H2 := Lib.hid h2
  clear hR
  by_cases hnm : n = m
  · have bn : ((n : Int) != (m : Int)) = false := by simp [hnm]
    clear hx hy h1 h2
    go_enter Tryd.func16, Tryd.ntmps16
    go_wp2
    go_loopw [5] (fun kv wr => ∃ (k q : Nat), kv = .int .i64 (k : Int) ∧ k ≤ n ∧ Hid (∀ j, j < k → x[j]? = y[j]?) ∧ wr = w.drewN q) (fun kv _ => n - (intOf kv).toNat)
    case atStart => exact ⟨0, 0, rfl, Nat.zero_le _, Lib.hid (fun j hj => absurd hj (by omega)), rfl⟩
    case round =>
      obtain ⟨k, q, rfl, hk, hA, rfl⟩ := hrel
      have k1 : IntKind.i64.wrap ((k : Int) + 1) = (k : Int) + 1 := by rw [IntKind.wrap_i64]; omega
      by_cases hkn : k < n
      · have kI : (k : Int) < (n : Int) := by omega
        have kM : (k : Int) < (m : Int) := by omega
        have k0 : (0 : Int) ≤ (k : Int) := by omega
        obtain ⟨u, hu⟩ : ∃ u, x[k]? = some u := ⟨_, List.getElem?_eq_getElem (by rw [HX.out]; exact hkn)⟩
        obtain ⟨v, hv⟩ : ∃ v, y[k]? = some v := ⟨_, List.getElem?_eq_getElem (by rw [HY.out]; omega)⟩
        obtain ⟨g, rfl⟩ := slice_some H1.out (by omega)
        obtain ⟨g', rfl⟩ := slice_some H2.out (by omega)
        obtain ⟨b, hb⟩ : ∃ b, decide (u = v) = b := ⟨_, rfl⟩
        have HQ0 := eq_neq 37 _ _ (eq_pfR u v hb)
        have HCu := Lib.hid (pf_cells H1.out hu)
        have HCv := Lib.hid (pf_cells H2.out hv)
        have Hu := Lib.hid hu
        have Hv := Lib.hid hv
        have HBb := Lib.hid hb
        obtain ⟨⟨us, uh, ul⟩, ub⟩ := u
        obtain ⟨⟨vs, vh, vl⟩, vb⟩ := v
        have HQ : ∀ W, (binOp .neq 37 (.agg #[.bool us, .int .u64 (uh : Int), .int .u64 (ul : Int), .int .i64 ub]) (.agg #[.bool vs, .int .u64 (vh : Int), .int .u64 (vl : Int), .int .i64 vb])).run Tryd.prog W = .ok (.bool (!b)) W := HQ0
        have HCl : Hid (((w.cell? ⟨g, k * 4, none⟩ = some (Value.bool us) ∧ w.cell? ⟨g, k * 4 + 1, none⟩ = some (Value.int .u64 (uh : Int)) ∧ w.cell? ⟨g, k * 4 + 2, none⟩ = some (Value.int .u64 (ul : Int)) ∧ w.cell? ⟨g, k * 4 + 3, none⟩ = some (Value.int .i64 ub)) ∧ (w.cell? ⟨g', k * 4, none⟩ = some (Value.bool vs) ∧ w.cell? ⟨g', k * 4 + 1, none⟩ = some (Value.int .u64 (vh : Int)) ∧ w.cell? ⟨g', k * 4 + 2, none⟩ = some (Value.int .u64 (vl : Int)) ∧ w.cell? ⟨g', k * 4 + 3, none⟩ = some (Value.int .i64 vb)))) := Lib.hid ⟨HCu.out, HCv.out⟩
        clear hu hv hb HQ0 HCu HCv
        go_wp2
        refine wp_region_held_drew (S := (fun W => (W.cell? ⟨g, k * 4, none⟩ = some (Value.bool us) ∧ W.cell? ⟨g, k * 4 + 1, none⟩ = some (Value.int .u64 (uh : Int)) ∧ W.cell? ⟨g, k * 4 + 2, none⟩ = some (Value.int .u64 (ul : Int)) ∧ W.cell? ⟨g, k * 4 + 3, none⟩ = some (Value.int .i64 ub)) ∧ (W.cell? ⟨g', k * 4, none⟩ = some (Value.bool vs) ∧ W.cell? ⟨g', k * 4 + 1, none⟩ = some (Value.int .u64 (vh : Int)) ∧ W.cell? ⟨g', k * 4 + 2, none⟩ = some (Value.int .u64 (vl : Int)) ∧ W.cell? ⟨g', k * 4 + 3, none⟩ = some (Value.int .i64 vb)))) (by kernel_rfl) ?_ (fun hHeld => ?_)
        · (exact HCl.out)
        refine wpAnyH_take (i := 0) (oi := { dst := some 17, op := Go.Op.move (Go.Operand.tmp 0), type := 34, pos := "ref.go:225", after := #[], guard := none }) (v := ?_) rfl (by kernel_rfl) (by kernel_rfl) (by kernel_rfl) (fun _ _ _ h => h) (Or.inl ⟨by rfl, ?_⟩) (by assumption) ?_
        rotate_left
        · intro w hSw
          (try dsimp only at hSw)
          go_simp
          try (with_reducible rfl)
        try simp only [Act.put, List.setIfInBounds_toArray, List.set_cons_zero, List.set_cons_succ]
        refine wpAnyH_take (i := 1) (oi := { dst := some 18, op := Go.Op.move (Go.Operand.tmp 5), type := 3, pos := "ref.go:225", after := #[], guard := none }) (v := ?_) rfl (by kernel_rfl) (by kernel_rfl) (by kernel_rfl) (fun _ _ _ h => h) (Or.inl ⟨by rfl, ?_⟩) (by assumption) ?_
        rotate_left
        · intro w hSw
          (try dsimp only at hSw)
          go_simp
          try (with_reducible rfl)
        try simp only [Act.put, List.setIfInBounds_toArray, List.set_cons_zero, List.set_cons_succ]
        refine wpAnyH_take (i := 2) (oi := { dst := some 19, op := Go.Op.indexAddr 34 (Go.Operand.tmp 17) (Go.Operand.tmp 18), type := 0, pos := "ref.go:225", after := #[{ on := 0, ground := Go.Ground.data }, { on := 1, ground := Go.Ground.data }], guard := none }) (v := ?_) rfl (by kernel_rfl) (by kernel_rfl) (by kernel_rfl) (fun _ _ _ h => h) (Or.inl ⟨by rfl, ?_⟩) (by assumption) ?_
        rotate_left
        · intro w hSw
          (try dsimp only at hSw)
          go_simp
          try (with_reducible rfl)
        try simp only [Act.put, List.setIfInBounds_toArray, List.set_cons_zero, List.set_cons_succ]
        refine wpAnyH_take (i := 3) (oi := { dst := some 20, op := Go.Op.load 37 (Go.Operand.tmp 19), type := 37, pos := "ref.go:225", after := #[{ on := 2, ground := Go.Ground.data }], guard := none }) (v := ?_) rfl (by kernel_rfl) (by kernel_rfl) (by kernel_rfl) (fun _ _ _ h => h) (Or.inl ⟨by rfl, ?_⟩) (by assumption) ?_
        rotate_left
        · intro w hSw
          (try dsimp only at hSw)
          go_simp
          try (with_reducible rfl)
        try simp only [Act.put, List.setIfInBounds_toArray, List.set_cons_zero, List.set_cons_succ]
        refine wpAnyH_take (i := 4) (oi := { dst := some 21, op := Go.Op.move (Go.Operand.tmp 1), type := 34, pos := "ref.go:225", after := #[], guard := none }) (v := ?_) rfl (by kernel_rfl) (by kernel_rfl) (by kernel_rfl) (fun _ _ _ h => h) (Or.inl ⟨by rfl, ?_⟩) (by assumption) ?_
        rotate_left
        · intro w hSw
          (try dsimp only at hSw)
          go_simp
          try (with_reducible rfl)
        try simp only [Act.put, List.setIfInBounds_toArray, List.set_cons_zero, List.set_cons_succ]
        refine wpAnyH_take (i := 5) (oi := { dst := some 22, op := Go.Op.move (Go.Operand.tmp 5), type := 3, pos := "ref.go:225", after := #[], guard := none }) (v := ?_) rfl (by kernel_rfl) (by kernel_rfl) (by kernel_rfl) (fun _ _ _ h => h) (Or.inl ⟨by rfl, ?_⟩) (by assumption) ?_
        rotate_left
        · intro w hSw
          (try dsimp only at hSw)
          go_simp
          try (with_reducible rfl)
        try simp only [Act.put, List.setIfInBounds_toArray, List.set_cons_zero, List.set_cons_succ]
        refine wpAnyH_take (i := 6) (oi := { dst := some 23, op := Go.Op.indexAddr 34 (Go.Operand.tmp 21) (Go.Operand.tmp 22), type := 0, pos := "ref.go:225", after := #[{ on := 4, ground := Go.Ground.data }, { on := 5, ground := Go.Ground.data }], guard := none }) (v := ?_) rfl (by kernel_rfl) (by kernel_rfl) (by kernel_rfl) (fun _ _ _ h => h) (Or.inl ⟨by rfl, ?_⟩) (by assumption) ?_
        rotate_left
        · intro w hSw
          (try dsimp only at hSw)
          go_simp
          try (with_reducible rfl)
        try simp only [Act.put, List.setIfInBounds_toArray, List.set_cons_zero, List.set_cons_succ]
        refine wpAnyH_take (i := 7) (oi := { dst := some 24, op := Go.Op.load 37 (Go.Operand.tmp 23), type := 37, pos := "ref.go:225", after := #[{ on := 6, ground := Go.Ground.data }], guard := none }) (v := ?_) rfl (by kernel_rfl) (by kernel_rfl) (by kernel_rfl) (fun _ _ _ h => h) (Or.inl ⟨by rfl, ?_⟩) (by assumption) ?_
        rotate_left
        · intro w hSw
          (try dsimp only at hSw)
          go_simp
          try (with_reducible rfl)
        try simp only [Act.put, List.setIfInBounds_toArray, List.set_cons_zero, List.set_cons_succ]
        refine wpAnyH_take (i := 8) (oi := { dst := some 25, op := Go.Op.binOp Go.BinOp.neq 37 (Go.Operand.tmp 20) (Go.Operand.tmp 24) 37, type := 4, pos := "ref.go:225", after := #[{ on := 3, ground := Go.Ground.data }, { on := 7, ground := Go.Ground.data }], guard := none }) (v := ?_) rfl (by kernel_rfl) (by kernel_rfl) (by kernel_rfl) (fun _ _ _ h => h) (Or.inl ⟨by rfl, ?_⟩) (by assumption) ?_
        rotate_left
        · intro w hSw
          (try dsimp only at hSw)
          go_simp
          try (with_reducible rfl)
        try simp only [Act.put, List.setIfInBounds_toArray, List.set_cons_zero, List.set_cons_succ]
        refine wpAnyH_done (by kernel_rfl) ?_ _
        cases b with
        | true =>
          go_wp2
          go_roundw
          case rel => exact ⟨k + 1, q + 1, by go_num, hkn, Lib.hid (fun j hj => by
            rcases Nat.lt_or_ge j k with h1 | h1
            · exact hA.out j h1
            · obtain rfl : j = k := by omega
              rw [Hu.out, Hv.out, of_decide_eq_true HBb.out]), by rw [← drewN_add]⟩
          case measure => simp [intOf]; omega
        | false =>
          have HE : Hid (R = false) := Lib.hid (by
            rw [← HR.out]
            exact decide_eq_false (fun e => by
              have h1 := Hu.out
              rw [e, Hv.out] at h1
              injection h1 with h1
              exact of_decide_eq_false HBb.out h1.symm))
          go_wp2
          go_ret
          exact ⟨by rw [HE.out]; rfl, ((Tch.refl w []).drewN q).drew⟩
      · obtain rfl : k = n := by omega
        have kI : ¬ (k : Int) < (k : Int) := by omega
        have HE : Hid (R = true) := Lib.hid (by
          rw [← HR.out]
          refine decide_eq_true (List.ext_getElem? fun j => ?_)
          rcases Nat.lt_or_ge j k with h1 | h1
          · exact hA.out j h1
          · rw [List.getElem?_eq_none (by rw [HX.out]; exact h1), List.getElem?_eq_none (by rw [HY.out]; omega)])
        clear hkn hk hnm
        go_wp2
        go_ret
        exact ⟨by rw [HE.out]; rfl, (Tch.refl w []).drewN q⟩
  · have bn : ((n : Int) != (m : Int)) = true := by simp; omega
    have HE : Hid (R = false) := Lib.hid (by rw [← HR.out]; exact decide_eq_false (fun e => hnm (by rw [← hx, ← hy, e])))
    clear hx hy h1 h2 hnm
    go_enter Tryd.func16, Tryd.ntmps16
    go_wp2
    go_ret
    exact ⟨by rw [HE.out]; rfl, Tch.refl _ _⟩
set_option maxRecDepth 100000 in
set_option maxHeartbeats 4000000 in
theorem samePa (A B : Option Addr) (n m c d : Nat) (x y : List PaI) (hx : x.length = n) (hy : y.length = m) (hn : n ≤ 1000) (hm : m ≤ 1000) (w : World) (h1 : w.ownsRow 0 26 7 (.slice A n c) n (x.flatMap paC)) (h2 : w.ownsRow 0 26 7 (.slice B m d) m (y.flatMap paC)) :
    Calls Tryd.prog 17 #[.slice A n c, .slice B m d] w fun e w' => e = .returned (.bool (decide (x = y))) ∧ Tch w w' [] := by
  obtain ⟨R, hR⟩ : ∃ R, decide (x = y) = R := ⟨_, rfl⟩
  rw [hR]
  have HR := Lib.hid hR
  have HX := Lib.hid hx
  have HY := Lib.hid hy
  have H1 := Lib.hid h1
  have H2 := Lib.hid h2
  clear hR
  by_cases hnm : n = m
  · have bn : ((n : Int) != (m : Int)) = false := by simp [hnm]
    clear hx hy h1 h2
    go_enter Tryd.func17, Tryd.ntmps17
    go_wp2
    go_loopw [5] (fun kv wr => ∃ (k q : Nat), kv = .int .i64 (k : Int) ∧ k ≤ n ∧ Hid (∀ j, j < k → x[j]? = y[j]?) ∧ wr = w.drewN q) (fun kv _ => n - (intOf kv).toNat)
    case atStart => exact ⟨0, 0, rfl, Nat.zero_le _, Lib.hid (fun j hj => absurd hj (by omega)), rfl⟩
    case round =>
      obtain ⟨k, q, rfl, hk, hA, rfl⟩ := hrel
      have k1 : IntKind.i64.wrap ((k : Int) + 1) = (k : Int) + 1 := by rw [IntKind.wrap_i64]; omega
      by_cases hkn : k < n
      · have kI : (k : Int) < (n : Int) := by omega
        have kM : (k : Int) < (m : Int) := by omega
        have k0 : (0 : Int) ≤ (k : Int) := by omega
        obtain ⟨u, hu⟩ : ∃ u, x[k]? = some u := ⟨_, List.getElem?_eq_getElem (by rw [HX.out]; exact hkn)⟩
        obtain ⟨v, hv⟩ : ∃ v, y[k]? = some v := ⟨_, List.getElem?_eq_getElem (by rw [HY.out]; omega)⟩
        obtain ⟨g, rfl⟩ := slice_some H1.out (by omega)
        obtain ⟨g', rfl⟩ := slice_some H2.out (by omega)
        obtain ⟨b, hb⟩ : ∃ b, decide (u = v) = b := ⟨_, rfl⟩
        have HQ0 := eq_neq 26 _ _ (eq_paR u v hb)
        have HCu := Lib.hid (pa_cells H1.out hu)
        have HCv := Lib.hid (pa_cells H2.out hv)
        have Hu := Lib.hid hu
        have Hv := Lib.hid hv
        have HBb := Lib.hid hb
        obtain ⟨upr, ume, ⟨us, uh, ul⟩, upo, uaw⟩ := u
        obtain ⟨vpr, vme, ⟨vs, vh, vl⟩, vpo, vaw⟩ := v
        have HQ : ∀ W, (binOp .neq 26 (.agg #[.int .i64 upr, .int .i64 ume, .bool us, .int .u64 (uh : Int), .int .u64 (ul : Int), .int .i64 upo, .bool uaw]) (.agg #[.int .i64 vpr, .int .i64 vme, .bool vs, .int .u64 (vh : Int), .int .u64 (vl : Int), .int .i64 vpo, .bool vaw])).run Tryd.prog W = .ok (.bool (!b)) W := HQ0
        have HCl : Hid (((w.cell? ⟨g, k * 7, none⟩ = some (Value.int .i64 upr) ∧ w.cell? ⟨g, k * 7 + 1, none⟩ = some (Value.int .i64 ume) ∧ w.cell? ⟨g, k * 7 + 2, none⟩ = some (Value.bool us) ∧ w.cell? ⟨g, k * 7 + 3, none⟩ = some (Value.int .u64 (uh : Int)) ∧ w.cell? ⟨g, k * 7 + 4, none⟩ = some (Value.int .u64 (ul : Int)) ∧ w.cell? ⟨g, k * 7 + 5, none⟩ = some (Value.int .i64 upo) ∧ w.cell? ⟨g, k * 7 + 6, none⟩ = some (Value.bool uaw)) ∧ (w.cell? ⟨g', k * 7, none⟩ = some (Value.int .i64 vpr) ∧ w.cell? ⟨g', k * 7 + 1, none⟩ = some (Value.int .i64 vme) ∧ w.cell? ⟨g', k * 7 + 2, none⟩ = some (Value.bool vs) ∧ w.cell? ⟨g', k * 7 + 3, none⟩ = some (Value.int .u64 (vh : Int)) ∧ w.cell? ⟨g', k * 7 + 4, none⟩ = some (Value.int .u64 (vl : Int)) ∧ w.cell? ⟨g', k * 7 + 5, none⟩ = some (Value.int .i64 vpo) ∧ w.cell? ⟨g', k * 7 + 6, none⟩ = some (Value.bool vaw)))) := Lib.hid ⟨HCu.out, HCv.out⟩
        clear hu hv hb HQ0 HCu HCv
        go_wp2
        refine wp_region_held_drew (S := (fun W => (W.cell? ⟨g, k * 7, none⟩ = some (Value.int .i64 upr) ∧ W.cell? ⟨g, k * 7 + 1, none⟩ = some (Value.int .i64 ume) ∧ W.cell? ⟨g, k * 7 + 2, none⟩ = some (Value.bool us) ∧ W.cell? ⟨g, k * 7 + 3, none⟩ = some (Value.int .u64 (uh : Int)) ∧ W.cell? ⟨g, k * 7 + 4, none⟩ = some (Value.int .u64 (ul : Int)) ∧ W.cell? ⟨g, k * 7 + 5, none⟩ = some (Value.int .i64 upo) ∧ W.cell? ⟨g, k * 7 + 6, none⟩ = some (Value.bool uaw)) ∧ (W.cell? ⟨g', k * 7, none⟩ = some (Value.int .i64 vpr) ∧ W.cell? ⟨g', k * 7 + 1, none⟩ = some (Value.int .i64 vme) ∧ W.cell? ⟨g', k * 7 + 2, none⟩ = some (Value.bool vs) ∧ W.cell? ⟨g', k * 7 + 3, none⟩ = some (Value.int .u64 (vh : Int)) ∧ W.cell? ⟨g', k * 7 + 4, none⟩ = some (Value.int .u64 (vl : Int)) ∧ W.cell? ⟨g', k * 7 + 5, none⟩ = some (Value.int .i64 vpo) ∧ W.cell? ⟨g', k * 7 + 6, none⟩ = some (Value.bool vaw)))) (by kernel_rfl) ?_ (fun hHeld => ?_)
        · (exact HCl.out)
        refine wpAnyH_take (i := 0) (oi := { dst := some 17, op := Go.Op.move (Go.Operand.tmp 0), type := 38, pos := "ref.go:212", after := #[], guard := none }) (v := ?_) rfl (by kernel_rfl) (by kernel_rfl) (by kernel_rfl) (fun _ _ _ h => h) (Or.inl ⟨by rfl, ?_⟩) (by assumption) ?_
        rotate_left
        · intro w hSw
          (try dsimp only at hSw)
          go_simp
          try (with_reducible rfl)
        try simp only [Act.put, List.setIfInBounds_toArray, List.set_cons_zero, List.set_cons_succ]
        refine wpAnyH_take (i := 1) (oi := { dst := some 18, op := Go.Op.move (Go.Operand.tmp 5), type := 3, pos := "ref.go:212", after := #[], guard := none }) (v := ?_) rfl (by kernel_rfl) (by kernel_rfl) (by kernel_rfl) (fun _ _ _ h => h) (Or.inl ⟨by rfl, ?_⟩) (by assumption) ?_
        rotate_left
        · intro w hSw
          (try dsimp only at hSw)
          go_simp
          try (with_reducible rfl)
        try simp only [Act.put, List.setIfInBounds_toArray, List.set_cons_zero, List.set_cons_succ]
        refine wpAnyH_take (i := 2) (oi := { dst := some 19, op := Go.Op.indexAddr 38 (Go.Operand.tmp 17) (Go.Operand.tmp 18), type := 0, pos := "ref.go:212", after := #[{ on := 0, ground := Go.Ground.data }, { on := 1, ground := Go.Ground.data }], guard := none }) (v := ?_) rfl (by kernel_rfl) (by kernel_rfl) (by kernel_rfl) (fun _ _ _ h => h) (Or.inl ⟨by rfl, ?_⟩) (by assumption) ?_
        rotate_left
        · intro w hSw
          (try dsimp only at hSw)
          go_simp
          try (with_reducible rfl)
        try simp only [Act.put, List.setIfInBounds_toArray, List.set_cons_zero, List.set_cons_succ]
        refine wpAnyH_take (i := 3) (oi := { dst := some 20, op := Go.Op.load 26 (Go.Operand.tmp 19), type := 26, pos := "ref.go:212", after := #[{ on := 2, ground := Go.Ground.data }], guard := none }) (v := ?_) rfl (by kernel_rfl) (by kernel_rfl) (by kernel_rfl) (fun _ _ _ h => h) (Or.inl ⟨by rfl, ?_⟩) (by assumption) ?_
        rotate_left
        · intro w hSw
          (try dsimp only at hSw)
          go_simp
          try (with_reducible rfl)
        try simp only [Act.put, List.setIfInBounds_toArray, List.set_cons_zero, List.set_cons_succ]
        refine wpAnyH_take (i := 4) (oi := { dst := some 21, op := Go.Op.move (Go.Operand.tmp 1), type := 38, pos := "ref.go:212", after := #[], guard := none }) (v := ?_) rfl (by kernel_rfl) (by kernel_rfl) (by kernel_rfl) (fun _ _ _ h => h) (Or.inl ⟨by rfl, ?_⟩) (by assumption) ?_
        rotate_left
        · intro w hSw
          (try dsimp only at hSw)
          go_simp
          try (with_reducible rfl)
        try simp only [Act.put, List.setIfInBounds_toArray, List.set_cons_zero, List.set_cons_succ]
        refine wpAnyH_take (i := 5) (oi := { dst := some 22, op := Go.Op.move (Go.Operand.tmp 5), type := 3, pos := "ref.go:212", after := #[], guard := none }) (v := ?_) rfl (by kernel_rfl) (by kernel_rfl) (by kernel_rfl) (fun _ _ _ h => h) (Or.inl ⟨by rfl, ?_⟩) (by assumption) ?_
        rotate_left
        · intro w hSw
          (try dsimp only at hSw)
          go_simp
          try (with_reducible rfl)
        try simp only [Act.put, List.setIfInBounds_toArray, List.set_cons_zero, List.set_cons_succ]
        refine wpAnyH_take (i := 6) (oi := { dst := some 23, op := Go.Op.indexAddr 38 (Go.Operand.tmp 21) (Go.Operand.tmp 22), type := 0, pos := "ref.go:212", after := #[{ on := 4, ground := Go.Ground.data }, { on := 5, ground := Go.Ground.data }], guard := none }) (v := ?_) rfl (by kernel_rfl) (by kernel_rfl) (by kernel_rfl) (fun _ _ _ h => h) (Or.inl ⟨by rfl, ?_⟩) (by assumption) ?_
        rotate_left
        · intro w hSw
          (try dsimp only at hSw)
          go_simp
          try (with_reducible rfl)
        try simp only [Act.put, List.setIfInBounds_toArray, List.set_cons_zero, List.set_cons_succ]
        refine wpAnyH_take (i := 7) (oi := { dst := some 24, op := Go.Op.load 26 (Go.Operand.tmp 23), type := 26, pos := "ref.go:212", after := #[{ on := 6, ground := Go.Ground.data }], guard := none }) (v := ?_) rfl (by kernel_rfl) (by kernel_rfl) (by kernel_rfl) (fun _ _ _ h => h) (Or.inl ⟨by rfl, ?_⟩) (by assumption) ?_
        rotate_left
        · intro w hSw
          (try dsimp only at hSw)
          go_simp
          try (with_reducible rfl)
        try simp only [Act.put, List.setIfInBounds_toArray, List.set_cons_zero, List.set_cons_succ]
        refine wpAnyH_take (i := 8) (oi := { dst := some 25, op := Go.Op.binOp Go.BinOp.neq 26 (Go.Operand.tmp 20) (Go.Operand.tmp 24) 26, type := 4, pos := "ref.go:212", after := #[{ on := 3, ground := Go.Ground.data }, { on := 7, ground := Go.Ground.data }], guard := none }) (v := ?_) rfl (by kernel_rfl) (by kernel_rfl) (by kernel_rfl) (fun _ _ _ h => h) (Or.inl ⟨by rfl, ?_⟩) (by assumption) ?_
        rotate_left
        · intro w hSw
          (try dsimp only at hSw)
          go_simp
          try (with_reducible rfl)
        try simp only [Act.put, List.setIfInBounds_toArray, List.set_cons_zero, List.set_cons_succ]
        refine wpAnyH_done (by kernel_rfl) ?_ _
        cases b with
        | true =>
          go_wp2
          go_roundw
          case rel => exact ⟨k + 1, q + 1, by go_num, hkn, Lib.hid (fun j hj => by
            rcases Nat.lt_or_ge j k with h1 | h1
            · exact hA.out j h1
            · obtain rfl : j = k := by omega
              rw [Hu.out, Hv.out, of_decide_eq_true HBb.out]), by rw [← drewN_add]⟩
          case measure => simp [intOf]; omega
        | false =>
          have HE : Hid (R = false) := Lib.hid (by
            rw [← HR.out]
            exact decide_eq_false (fun e => by
              have h1 := Hu.out
              rw [e, Hv.out] at h1
              injection h1 with h1
              exact of_decide_eq_false HBb.out h1.symm))
          go_wp2
          go_ret
          exact ⟨by rw [HE.out]; rfl, ((Tch.refl w []).drewN q).drew⟩
      · obtain rfl : k = n := by omega
        have kI : ¬ (k : Int) < (k : Int) := by omega
        have HE : Hid (R = true) := Lib.hid (by
          rw [← HR.out]
          refine decide_eq_true (List.ext_getElem? fun j => ?_)
          rcases Nat.lt_or_ge j k with h1 | h1
          · exact hA.out j h1
          · rw [List.getElem?_eq_none (by rw [HX.out]; exact h1), List.getElem?_eq_none (by rw [HY.out]; omega)])
        clear hkn hk hnm
        go_wp2
        go_ret
        exact ⟨by rw [HE.out]; rfl, (Tch.refl w []).drewN q⟩
  · have bn : ((n : Int) != (m : Int)) = true := by simp; omega
    have HE : Hid (R = false) := Lib.hid (by rw [← HR.out]; exact decide_eq_false (fun e => hnm (by rw [← hx, ← hy, e])))
    clear hx hy h1 h2 hnm
    go_enter Tryd.func17, Tryd.ntmps17
    go_wp2
    go_ret
    exact ⟨by rw [HE.out]; rfl, Tch.refl _ _⟩
end Go.Proofs.YtjlmgkdieffjcaaDoor
