/-
  crosswaylaw17.WheelNext returns true for every input, and leaves its arguments alone.
  Conditions: none of our own.
-/
import Derived.Test.YthkjfgegmbdebaaWhK
namespace Go.Proofs.Ythkjfgegmbdebaa
open Go.ChangeShapes Go.WideShapes Go.ChangeAt Go.RowKit
set_option linter.unusedVariables false
namespace WNxt
theorem add_le (L : List TmI) (t a : Nat) (id after : Int) : (addL L t a id after).length ≤ L.length + 1 ∧ addA L a id after ≤ a + 1 := by
  unfold addL addA
  split <;> simp <;> omega
theorem not_due {L : List TmI} {t n : Nat} (h : ∀ x ∈ L, t < x.2.1) (hn : nxtV L t = n) {k : Nat} (hk : t < k) (hkn : k < t + n) : dueL L k = [] ∧ tikL L k = L := by
  have h1 : ∀ x ∈ L, x.2.1 ≠ k := fun x hx e => by
    have := nxtV_le h hx
    have := h x hx
    omega
  constructor
  · unfold dueL; rw [List.filter_eq_nil_iff]; intro x hx; simpa using h1 x hx
  · unfold tikL; rw [List.filter_eq_self]; intro x hx; simpa using h1 x hx
theorem is_due {L : List TmI} {t n : Nat} (h : ∀ x ∈ L, t < x.2.1) (hn : nxtV L t = n) (h0 : 0 < n) : 0 < (dueL L (t + n)).length := by
  have hL : L ≠ [] := fun e => by rw [e] at hn; simp [nxtV] at hn; omega
  obtain ⟨x, hx, e⟩ := nxtV_is h hL
  have := h x hx
  exact List.length_pos_of_mem (dueL_iff.2 ⟨hx, by omega⟩)
set_option maxRecDepth 100000 in
set_option maxHeartbeats 8000000 in
theorem walk (w : World) (a0 : Option Addr) (l0 c0 : Nat) (z0 : List Stp) (w0 : IsStp w a0 l0 z0) :
    Calls Try.prog 5 #[.slice a0 l0 c0] w fun e w' => e = .returned (.bool true) ∧ Below w.heap.size w w' := by
  have HZ := Lib.hid w0
  clear w0
  go_enter Try.func5, Try.ntmps5
  go_wp2_with fail
  refine Calls.mono (awake_yes w) ?_
  rintro e x1 ⟨rfl, hb1⟩
  have B1 := Lib.hid hb1
  have HNw := Lib.hid (newS x1)
  clear hb1
  go_wp2_with fail
  refine Calls.mono HNw.out ?_
  rintro e x2 ⟨p, F2, rfl, hE⟩
  have E2 : Hid (Std w x2 p 0 0 [] F2) := Lib.hid ⟨hE.wh, B1.out.trans (hE.bel.mono B1.out.size), fun s h => Nat.le_trans B1.out.size (hE.abv s h)⟩
  clear hE HNw
  go_wp2
  go_loopw [5] (fun iv wr => ∃ (j t a : Nat) (L : List TmI) (F : List Nat), iv = .int .i64 (j : Int) ∧ j ≤ l0 ∧ j ≤ 60 ∧ Hid (t ≤ 40 * j ∧ a ≤ j ∧ L.length ≤ j) ∧ Hid (Std w wr p t a L F)) (fun iv _ => 60 - (intOf iv).toNat)
  case atStart => exact ⟨0, 0, 0, [], F2, rfl, Nat.zero_le _, by omega, Lib.hid ⟨by omega, by omega, by simp⟩, E2⟩
  case round =>
    obtain ⟨j, t, a, L, F, rfl, hj, hj2, hA, hE⟩ := hrel
    by_cases hlt : j < l0 ∧ j < 60
    · obtain ⟨h1, h2⟩ := hlt
      obtain ⟨g, o, q1, q2, q3, rfl, hg, -, -, -, v3, hcl⟩ := HZ.out.step h1
      have HCl := Lib.hid hcl
      obtain ⟨c0, c1, c2⟩ := hcl wr hE.out.bel
      have hjI : (j : Int) < l0 := by omega
      have hjI2 : (j : Int) < 60 := by omega
      have hj0 : (0 : Int) ≤ j := by omega
      have j3 : IntKind.i64.wrap ((j : Int) + 1) = (j : Int) + 1 := by rw [IntKind.wrap_i64]; omega
      have k3 := i64_and3 q1
      have hm3 : 0 ≤ q1 % 4 ∧ q1 % 4 < 4 := by omega
      obtain ⟨kd, hkd⟩ : ∃ kd, q1 % 4 = kd := ⟨_, rfl⟩
      rw [hkd] at k3 hm3
      have HJ := Lib.hid (And.intro h1 (And.intro h2 (And.intro hjI (And.intro hj0 j3))))
      have HV := Lib.hid v3
      have hcs : (kd = 0 ∨ kd = 1) ∨ kd = 2 ∨ kd = 3 := by omega
      clear hkd hg v3 hcl hm3
      rcases hcs with hcs | rfl | rfl
      · have E1 : Hid (Std w wr.drew p t a L F) := Lib.hid (hE.out.tch0 ((Tch.refl wr []).drew))
        have HA := Lib.hid (E1.out.add q2 q3 (by have := hA.out; omega) (by have := hA.out; omega))
        have HS : Hid (wr.drew.cell? ⟨g, o + j * 3 + 1, none⟩ = some (.int .i64 q2) ∧ wr.drew.cell? ⟨g, o + j * 3 + 2, none⟩ = some (.int .i64 q3)) := Lib.hid ⟨c1, c2⟩
        rcases hcs with rfl | rfl
        all_goals
          clear c1 c2
          go_wp2
          refine wp_region_held_drew (S := (fun W => W.cell? ⟨g, o + j * 3 + 1, none⟩ = some (.int .i64 q2) ∧ W.cell? ⟨g, o + j * 3 + 2, none⟩ = some (.int .i64 q3))) (by kernel_rfl) ?_ (fun hHeld => ?_)
          · (first | exact HS.out | exact (HCl.out _ E4.out.bel).2)
          refine wpAnyH_take (i := 0) (oi := { dst := some 51, op := Go.Op.move (Go.Operand.tmp 4), type := 24, pos := "law.go:138", after := #[], guard := none }) (v := ?_) rfl (by kernel_rfl) (by kernel_rfl) (by kernel_rfl) (fun _ _ _ h => h) (Or.inl ⟨by rfl, ?_⟩) (by assumption) ?_
          rotate_left
          · intro w hSw
            (try dsimp only at hSw)
            go_simp
            try (with_reducible rfl)
          try simp only [Act.put, List.setIfInBounds_toArray, List.set_cons_zero, List.set_cons_succ]
          refine wpAnyH_take (i := 1) (oi := { dst := some 52, op := Go.Op.move (Go.Operand.tmp 0), type := 22, pos := "law.go:138", after := #[], guard := none }) (v := ?_) rfl (by kernel_rfl) (by kernel_rfl) (by kernel_rfl) (fun _ _ _ h => h) (Or.inl ⟨by rfl, ?_⟩) (by assumption) ?_
          rotate_left
          · intro w hSw
            (try dsimp only at hSw)
            go_simp
            try (with_reducible rfl)
          try simp only [Act.put, List.setIfInBounds_toArray, List.set_cons_zero, List.set_cons_succ]
          refine wpAnyH_take (i := 2) (oi := { dst := some 53, op := Go.Op.move (Go.Operand.tmp 5), type := 3, pos := "law.go:138", after := #[], guard := none }) (v := ?_) rfl (by kernel_rfl) (by kernel_rfl) (by kernel_rfl) (fun _ _ _ h => h) (Or.inl ⟨by rfl, ?_⟩) (by assumption) ?_
          rotate_left
          · intro w hSw
            (try dsimp only at hSw)
            go_simp
            try (with_reducible rfl)
          try simp only [Act.put, List.setIfInBounds_toArray, List.set_cons_zero, List.set_cons_succ]
          refine wpAnyH_take (i := 3) (oi := { dst := some 54, op := Go.Op.indexAddr 22 (Go.Operand.tmp 52) (Go.Operand.tmp 53), type := 0, pos := "law.go:138", after := #[{ on := 1, ground := Go.Ground.data }, { on := 2, ground := Go.Ground.data }], guard := none }) (v := ?_) rfl (by kernel_rfl) (by kernel_rfl) (by kernel_rfl) (fun _ _ _ h => h) (Or.inl ⟨by rfl, ?_⟩) (by assumption) ?_
          rotate_left
          · intro w hSw
            (try dsimp only at hSw)
            go_simp
            try (with_reducible rfl)
          try simp only [Act.put, List.setIfInBounds_toArray, List.set_cons_zero, List.set_cons_succ]
          refine wpAnyH_take (i := 4) (oi := { dst := some 55, op := Go.Op.fieldAddr 29 (Go.Operand.tmp 54) 1, type := 0, pos := "law.go:138", after := #[{ on := 3, ground := Go.Ground.data }], guard := none }) (v := ?_) rfl (by kernel_rfl) (by kernel_rfl) (by kernel_rfl) (fun _ _ _ h => h) (Or.inl ⟨by rfl, ?_⟩) (by assumption) ?_
          rotate_left
          · intro w hSw
            (try dsimp only at hSw)
            go_simp
            try (with_reducible rfl)
          try simp only [Act.put, List.setIfInBounds_toArray, List.set_cons_zero, List.set_cons_succ]
          refine wpAnyH_take (i := 5) (oi := { dst := some 56, op := Go.Op.load 3 (Go.Operand.tmp 55), type := 3, pos := "law.go:138", after := #[{ on := 4, ground := Go.Ground.data }], guard := none }) (v := ?_) rfl (by kernel_rfl) (by kernel_rfl) (by kernel_rfl) (fun _ _ _ h => h) (Or.inl ⟨by rfl, ?_⟩) (by assumption) ?_
          rotate_left
          · intro w hSw
            (try dsimp only at hSw)
            go_simp
            try (with_reducible rfl)
          try simp only [Act.put, List.setIfInBounds_toArray, List.set_cons_zero, List.set_cons_succ]
          refine wpAnyH_take (i := 6) (oi := { dst := some 57, op := Go.Op.move (Go.Operand.tmp 0), type := 22, pos := "law.go:138", after := #[], guard := none }) (v := ?_) rfl (by kernel_rfl) (by kernel_rfl) (by kernel_rfl) (fun _ _ _ h => h) (Or.inl ⟨by rfl, ?_⟩) (by assumption) ?_
          rotate_left
          · intro w hSw
            (try dsimp only at hSw)
            go_simp
            try (with_reducible rfl)
          try simp only [Act.put, List.setIfInBounds_toArray, List.set_cons_zero, List.set_cons_succ]
          refine wpAnyH_take (i := 7) (oi := { dst := some 58, op := Go.Op.move (Go.Operand.tmp 5), type := 3, pos := "law.go:138", after := #[], guard := none }) (v := ?_) rfl (by kernel_rfl) (by kernel_rfl) (by kernel_rfl) (fun _ _ _ h => h) (Or.inl ⟨by rfl, ?_⟩) (by assumption) ?_
          rotate_left
          · intro w hSw
            (try dsimp only at hSw)
            go_simp
            try (with_reducible rfl)
          try simp only [Act.put, List.setIfInBounds_toArray, List.set_cons_zero, List.set_cons_succ]
          refine wpAnyH_take (i := 8) (oi := { dst := some 59, op := Go.Op.indexAddr 22 (Go.Operand.tmp 57) (Go.Operand.tmp 58), type := 0, pos := "law.go:138", after := #[{ on := 6, ground := Go.Ground.data }, { on := 7, ground := Go.Ground.data }], guard := none }) (v := ?_) rfl (by kernel_rfl) (by kernel_rfl) (by kernel_rfl) (fun _ _ _ h => h) (Or.inl ⟨by rfl, ?_⟩) (by assumption) ?_
          rotate_left
          · intro w hSw
            (try dsimp only at hSw)
            go_simp
            try (with_reducible rfl)
          try simp only [Act.put, List.setIfInBounds_toArray, List.set_cons_zero, List.set_cons_succ]
          refine wpAnyH_take (i := 9) (oi := { dst := some 60, op := Go.Op.fieldAddr 29 (Go.Operand.tmp 59) 2, type := 0, pos := "law.go:138", after := #[{ on := 8, ground := Go.Ground.data }], guard := none }) (v := ?_) rfl (by kernel_rfl) (by kernel_rfl) (by kernel_rfl) (fun _ _ _ h => h) (Or.inl ⟨by rfl, ?_⟩) (by assumption) ?_
          rotate_left
          · intro w hSw
            (try dsimp only at hSw)
            go_simp
            try (with_reducible rfl)
          try simp only [Act.put, List.setIfInBounds_toArray, List.set_cons_zero, List.set_cons_succ]
          refine wpAnyH_take (i := 10) (oi := { dst := some 61, op := Go.Op.load 3 (Go.Operand.tmp 60), type := 3, pos := "law.go:138", after := #[{ on := 9, ground := Go.Ground.data }], guard := none }) (v := ?_) rfl (by kernel_rfl) (by kernel_rfl) (by kernel_rfl) (fun _ _ _ h => h) (Or.inl ⟨by rfl, ?_⟩) (by assumption) ?_
          rotate_left
          · intro w hSw
            (try dsimp only at hSw)
            go_simp
            try (with_reducible rfl)
          try simp only [Act.put, List.setIfInBounds_toArray, List.set_cons_zero, List.set_cons_succ]
          refine wpAnyH_ready (rs := [11]) (by kernel_rfl) (by simp) ?_
          refine AllReadyH.cons (o := { dst := some 62, op := Go.Op.call { callee := Go.Callee.value (Go.Operand.func 11), args := #[Go.Operand.tmp 51, Go.Operand.tmp 56, Go.Operand.tmp 61], argTypes := #[24, 3, 3] }, type := 30, pos := "law.go:138", after := #[{ on := 0, ground := Go.Ground.data }, { on := 5, ground := Go.Ground.data }, { on := 10, ground := Go.Ground.data }], guard := none }) rfl (fun K hK => ?_) AllReadyH.nil
          go_simp
          (go_at_call 11; (with_reducible refine Calls.mono HA.out ?_); rintro e w4 ⟨rfl, F4, hE4, -⟩; have E4 := Lib.hid hE4; clear hE4)
          go_wp2_with fail
          refine hK.out _ _ ?_ (fun hHeld => ?_)
          · (first | exact HS.out | exact (HCl.out _ E4.out.bel).2)
          clear hK K
          try simp only [Act.put, List.setIfInBounds_toArray, List.set_cons_zero, List.set_cons_succ]
          refine wpAnyH_done (by kernel_rfl) ?_ _
          have j3 := HJ.out.2.2.2.2
          go_wp2
          go_roundw
          case rel => exact ⟨j + 1, t, addA L a q2 q3, addL L t a q2 q3, F4, by go_num, by have := HJ.out; omega, by have := HJ.out; omega, Lib.hid (by have h1 := hA.out; have h2 := add_le L t a q2 q3; omega), E4⟩
          case measure => have := HJ.out; simp [intOf]; omega
      · have HCa := Lib.hid (hE.out.cancel q2 (by have := hA.out; omega))
        go_wp2_with fail
        refine Calls.mono HCa.out ?_
        rintro e w4 ⟨rfl, F4, hE4, -⟩
        have E4 := Lib.hid hE4
        clear hE4 HCa c0 c1 c2
        go_wp2
        go_roundw
        case rel => exact ⟨j + 1, t, a, canL L q2, F4, by go_num, by have := HJ.out; omega, by have := HJ.out; omega, Lib.hid (by have h1 := hA.out; have h2 : (canL L q2).length ≤ L.length := List.length_filter_le _ _; omega), E4⟩
        case measure => have := HJ.out; simp [intOf]; omega
      · obtain ⟨T, hT⟩ : ∃ T, tkI q3 % 40 = T := ⟨_, rfl⟩
        have hT40 : T < 40 := by rw [← hT]; exact Nat.mod_lt _ (by decide)
        have HTk := Lib.hid (fun W => ticks_any q1 q2 q3 HV.out W)
        obtain ⟨tk, htk⟩ : ∃ tk, tkI q3 = tk := ⟨_, rfl⟩
        rw [htk] at HTk hT
        have htk6 : tk < 600 := by rw [← htk]; exact tkI_lt q3
        have r1 : Int.tmod (tk : Int) 40 = (T : Int) := by rw [show (40 : Int) = ((40 : Nat) : Int) from rfl, rem_nat, hT]
        have r2 : IntKind.i64.wrap (T : Int) = (T : Int) := by rw [IntKind.wrap_i64]; omega
        have HR := Lib.hid (And.intro r1 r2)
        clear hT htk htk6
        obtain ⟨n0, hn0⟩ : ∃ n, L.length = n := ⟨_, rfl⟩
        have HN0 := Lib.hid hn0
        clear hn0
        go_wp2
        go_loopw [6] (fun kv w2 => ∃ (k t' : Nat) (L' : List TmI) (F' : List Nat), kv = .int .i64 (k : Int) ∧ k ≤ T ∧ Hid (t' = t + k ∧ L'.length ≤ n0) ∧ Hid (Std w w2 p t' a L' F')) (fun kv _ => T - (intOf kv).toNat)
        case atStart => exact ⟨0, t, L, F, rfl, Nat.zero_le _, Lib.hid ⟨rfl, Nat.le_of_eq HN0.out⟩, hE⟩
        case round =>
          obtain ⟨k, t', L', F', rfl, hk, hA', hE'⟩ := hrel
          clear c0 c1 c2
          obtain ⟨c0, c1, c2⟩ := HCl.out wr hE'.out.bel
          have HTw := Lib.hid (HTk.out wr)
          have hjI := HJ.out.2.2.1
          have hj0 := HJ.out.2.2.2.1
          have r1 := HR.out.1
          have r2 := HR.out.2
          by_cases hkT : k < T
          · have kI : (k : Int) < (T : Int) := by omega
            have k1 : IntKind.i64.wrap ((k : Int) + 1) = (k : Int) + 1 := by rw [IntKind.wrap_i64]; omega
            go_wp2_with fail
            refine Calls.mono HTw.out ?_
            rintro e w3 ⟨rfl, hT3⟩
            have E3 := Lib.hid (hE'.out.tch0 hT3)
            have HTi := Lib.hid (E3.out.tick (by have h1 := hA.out; have h2 := hA'.out; omega))
            clear hT3 HTw c0 c1 c2
            go_wp2_with fail
            refine Calls.mono HTi.out ?_
            rintro e w4 ⟨A4, c4, F4, rfl, hE4, -, -⟩
            have E4 := Lib.hid hE4
            clear hE4 HTi
            go_wp2
            go_roundw
            case rel => exact ⟨k + 1, t' + 1, tikL L' (t' + 1), F4, by go_num, hkT, Lib.hid (by have h1 := hA'.out; have h2 : (tikL L' (t' + 1)).length ≤ L'.length := List.length_filter_le _ _; omega), E4⟩
            case measure => simp [intOf]; omega
          · have kI : ¬ (k : Int) < (T : Int) := by omega
            go_wp2_with fail
            refine Calls.mono HTw.out ?_
            rintro e w3 ⟨rfl, hT3⟩
            have E3 := Lib.hid (hE'.out.tch0 hT3)
            clear hT3 HTw c0 c1 c2
            have j3 := HJ.out.2.2.2.2
            go_wp2
            go_roundw
            case rel => exact ⟨j + 1, t', a, L', F', by go_num, by have := HJ.out; omega, by have := HJ.out; omega, Lib.hid (by have h1 := hA.out; have h2 := hA'.out; have h3 := HN0.out; omega), E3⟩
            case measure => have := HJ.out; simp [intOf]; omega
    · have hA60 : Hid (t ≤ 2400 ∧ a ≤ 60 ∧ L.length ≤ 60) := Lib.hid (by have := hA.out; omega)
      have hc : ¬ (j : Int) < l0 ∨ ¬ (j : Int) < 60 := by omega
      have hE3 := hE
      obtain ⟨t3, ht3⟩ : ∃ x, t = x := ⟨_, rfl⟩
      obtain ⟨a3, ha3⟩ : ∃ x, a = x := ⟨_, rfl⟩
      rw [ht3, ha3] at hA60 hE3
      clear hlt
      by_cases hjl : (j : Int) < l0
      · have hj60 : ¬ (j : Int) < 60 := by omega
        clear hc ht3 ha3
        go_wp2
        go_loopw [7] (fun rv wr7 => ∃ (r t a : Nat) (L : List TmI) (F : List Nat), rv = .int .i64 (r : Int) ∧ r ≤ 60 ∧ Hid (t ≤ 2400 + 4096 * r ∧ a ≤ 60 ∧ L.length + r ≤ 60) ∧ Hid (Std w wr7 p t a L F)) (fun rv _ => 70 - (intOf rv).toNat)
        case atStart => exact ⟨0, t3, a3, L, F, rfl, by omega, Lib.hid (by have := hA60.out; omega), hE3⟩
        case round =>
          obtain ⟨r, t, a, L, F, rfl, hr, hA, hE⟩ := hrel
          have rI : (r : Int) < 70 := by omega
          have HNx := Lib.hid (hE.out.next (by have := hA.out; omega))
          have hdue := hE.out.row.due
          have HDu := Lib.hid hdue
          obtain ⟨n, hn⟩ : ∃ n, nxtV L t = n := ⟨_, rfl⟩
          have HNn := Lib.hid hn
          rw [hn] at HNx
          by_cases hL : L = []
          · subst hL
            have hn0 : n = 0 := by rw [← hn]; rfl
            subst hn0
            clear hn hdue
            go_wp2_with fail
            refine Calls.mono HNx.out ?_
            rintro e w3 ⟨rfl, hE4, -⟩
            have E4 := Lib.hid hE4
            have HLn := Lib.hid (E4.out.len)
            have HTi := Lib.hid (E4.out.tick (by have := hA.out; omega))
            clear hE4 HNx
            go_wp2_with fail
            refine Calls.mono HLn.out ?_
            rintro e w4 ⟨rfl, rfl⟩
            go_wp2
            go_loopw [9] (fun kv wr9 => kv = .int .i64 1 ∧ wr9 = w4) (fun _ _ => 0)
            case atStart => exact ⟨rfl, rfl⟩
            case round =>
              obtain ⟨rfl, rfl⟩ := hrel
              go_wp2_with fail
              refine Calls.mono HTi.out ?_
              rintro e w5 ⟨A5, c5, F5, rfl, hE5, -, -⟩
              have E5 := Lib.hid hE5
              clear hE5 HTi
              have d0 : (dueL [] (t + 1)).length = 0 := rfl
              rw [d0]
              go_wp2
              go_ret
              exact ⟨rfl, E5.out.bel⟩
          · have hlen : 0 < L.length := List.length_pos_iff.2 hL
            have hn0 : 0 < n := by
              rcases Nat.eq_zero_or_pos n with e | e
              · exact absurd ((nxtV_zero (fun x hx => (hdue x hx).1)).1 (by rw [hn, e])) hL
              · exact e
            have hn9 : n ≤ 4095 := by
              obtain ⟨x, hx, e⟩ := nxtV_is (fun x hx => (hdue x hx).1) hL
              have := hdue x hx
              omega
            obtain ⟨ln, hln⟩ : ∃ ln, L.length = ln := ⟨_, rfl⟩
            have z1 : ((n : Int) == 0) = false := by simp; omega
            have z2 : ((ln : Int) == 0) = false := by simp; omega
            have z3 : ¬ (n : Int) < 0 := by omega
            have z4 : ¬ (4095 : Int) < (n : Int) := by omega
            have HZn := Lib.hid (And.intro z1 (And.intro hn0 hn9))
            have HLl := Lib.hid hln
            clear hn hdue hlen hL hln hn0 hn9
            go_wp2_with fail
            refine Calls.mono HNx.out ?_
            rintro e w3 ⟨rfl, hE4, -⟩
            have E4 := Lib.hid hE4
            have hLn := E4.out.len
            rw [HLl.out] at hLn
            have HLn := Lib.hid hLn
            clear hE4 HNx hLn
            go_wp2_with fail
            refine Calls.mono HLn.out ?_
            rintro e w4 ⟨rfl, rfl⟩
            go_wp2
            go_loopw [9] (fun kv wr9 => ∃ (k t' : Nat) (F' : List Nat), kv = .int .i64 ((k : Int) + 1) ∧ k + 1 ≤ n ∧ Hid (t' = t + k) ∧ Hid (Std w wr9 p t' a L F')) (fun kv _ => n - (intOf kv).toNat)
            case atStart => exact ⟨0, t, F, rfl, by have := HZn.out; omega, Lib.hid rfl, E4⟩
            case round =>
              obtain ⟨k, t', F', rfl, hk, ht', hE'⟩ := hrel
              have HTi := Lib.hid (hE'.out.tick (by have h1 := hA.out; have h2 := ht'.out; have h3 := HZn.out; omega))
              by_cases hkn : k + 1 < n
              · have kI : (k : Int) + 1 < (n : Int) := by omega
                have k1 : IntKind.i64.wrap ((k : Int) + 1 + 1) = (k : Int) + 1 + 1 := by have := HZn.out; rw [IntKind.wrap_i64]; omega
                have hnd := not_due (fun x hx => (HDu.out x hx).1) HNn.out (k := t' + 1) (by have := ht'.out; omega) (by have := ht'.out; omega)
                rw [hnd.1, hnd.2] at HTi
                clear hnd
                go_wp2_with fail
                refine Calls.mono HTi.out ?_
                rintro e w5 ⟨A5, c5, F5, rfl, hE5, -, -⟩
                have E5 := Lib.hid hE5
                clear hE5 HTi
                go_wp2
                go_roundw
                case rel => exact ⟨k + 1, t' + 1, F5, by go_num, hkn, Lib.hid (by have := ht'.out; omega), E5⟩
                case measure => simp [intOf]; omega
              · have kI : ¬ (k : Int) + 1 < (n : Int) := by omega
                have z1 := HZn.out.1
                have hdn := is_due (fun x hx => (HDu.out x hx).1) HNn.out HZn.out.2.1
                have hfl := flt_len L (t + n)
                rw [show t + n = t' + 1 by have := ht'.out; omega] at hdn hfl
                obtain ⟨d, hd⟩ : ∃ d, (dueL L (t' + 1)).length = d := ⟨_, rfl⟩
                rw [hd] at hdn hfl HTi
                have z5 : ((d : Int) == 0) = false := by simp; omega
                have hLn := hE'.out.len
                rw [HLl.out] at hLn hfl
                have HLn2 := Lib.hid hLn
                obtain ⟨q, hq⟩ : ∃ q, (tikL L (t' + 1)).length = q := ⟨_, rfl⟩
                rw [hq] at hfl
                have hA' := hA.out
                have hlq := HLl.out
                have z6 : IntKind.i64.wrap ((ln : Int) - (d : Int)) = (q : Int) := by rw [IntKind.wrap_i64]; omega
                have z7 : ((q : Int) != (q : Int)) = false := by simp
                have HFl := Lib.hid (And.intro hfl (And.intro hdn hq))
                have r3 : IntKind.i64.wrap ((r : Int) + 1) = (r : Int) + 1 := by rw [IntKind.wrap_i64]; omega
                clear hdn hfl hd hLn hA' hlq
                go_wp2_with fail
                refine Calls.mono HLn2.out ?_
                rintro e w5 ⟨rfl, rfl⟩
                go_wp2_with fail
                refine Calls.mono HTi.out ?_
                rintro e w6 ⟨A6, c6, F6, rfl, hE6, -, -⟩
                have E6 := Lib.hid hE6
                have hLn3 := E6.out.len
                rw [HFl.out.2.2] at hLn3
                have HLn3 := Lib.hid hLn3
                clear hE6 HTi hLn3 hq
                go_wp2_with fail
                refine Calls.mono HLn3.out ?_
                rintro e w7 ⟨rfl, rfl⟩
                go_wp2
                go_roundw
                case rel => exact ⟨r + 1, t' + 1, a, tikL L (t' + 1), F6, by go_num, by have h1 := hA.out; have h2 := HLl.out; have h3 := HFl.out; omega, Lib.hid (by have h1 := hA.out; have h2 := HLl.out; have h3 := HFl.out; have h4 := ht'.out; have h5 := HZn.out; omega), E6⟩
                case measure => simp [intOf]; omega
      · clear hc ht3 ha3
        go_wp2
        go_loopw [7] (fun rv wr7 => ∃ (r t a : Nat) (L : List TmI) (F : List Nat), rv = .int .i64 (r : Int) ∧ r ≤ 60 ∧ Hid (t ≤ 2400 + 4096 * r ∧ a ≤ 60 ∧ L.length + r ≤ 60) ∧ Hid (Std w wr7 p t a L F)) (fun rv _ => 70 - (intOf rv).toNat)
        case atStart => exact ⟨0, t3, a3, L, F, rfl, by omega, Lib.hid (by have := hA60.out; omega), hE3⟩
        case round =>
          obtain ⟨r, t, a, L, F, rfl, hr, hA, hE⟩ := hrel
          have rI : (r : Int) < 70 := by omega
          have HNx := Lib.hid (hE.out.next (by have := hA.out; omega))
          have hdue := hE.out.row.due
          have HDu := Lib.hid hdue
          obtain ⟨n, hn⟩ : ∃ n, nxtV L t = n := ⟨_, rfl⟩
          have HNn := Lib.hid hn
          rw [hn] at HNx
          by_cases hL : L = []
          · subst hL
            have hn0 : n = 0 := by rw [← hn]; rfl
            subst hn0
            clear hn hdue
            go_wp2_with fail
            refine Calls.mono HNx.out ?_
            rintro e w3 ⟨rfl, hE4, -⟩
            have E4 := Lib.hid hE4
            have HLn := Lib.hid (E4.out.len)
            have HTi := Lib.hid (E4.out.tick (by have := hA.out; omega))
            clear hE4 HNx
            go_wp2_with fail
            refine Calls.mono HLn.out ?_
            rintro e w4 ⟨rfl, rfl⟩
            go_wp2
            go_loopw [9] (fun kv wr9 => kv = .int .i64 1 ∧ wr9 = w4) (fun _ _ => 0)
            case atStart => exact ⟨rfl, rfl⟩
            case round =>
              obtain ⟨rfl, rfl⟩ := hrel
              go_wp2_with fail
              refine Calls.mono HTi.out ?_
              rintro e w5 ⟨A5, c5, F5, rfl, hE5, -, -⟩
              have E5 := Lib.hid hE5
              clear hE5 HTi
              have d0 : (dueL [] (t + 1)).length = 0 := rfl
              rw [d0]
              go_wp2
              go_ret
              exact ⟨rfl, E5.out.bel⟩
          · have hlen : 0 < L.length := List.length_pos_iff.2 hL
            have hn0 : 0 < n := by
              rcases Nat.eq_zero_or_pos n with e | e
              · exact absurd ((nxtV_zero (fun x hx => (hdue x hx).1)).1 (by rw [hn, e])) hL
              · exact e
            have hn9 : n ≤ 4095 := by
              obtain ⟨x, hx, e⟩ := nxtV_is (fun x hx => (hdue x hx).1) hL
              have := hdue x hx
              omega
            obtain ⟨ln, hln⟩ : ∃ ln, L.length = ln := ⟨_, rfl⟩
            have z1 : ((n : Int) == 0) = false := by simp; omega
            have z2 : ((ln : Int) == 0) = false := by simp; omega
            have z3 : ¬ (n : Int) < 0 := by omega
            have z4 : ¬ (4095 : Int) < (n : Int) := by omega
            have HZn := Lib.hid (And.intro z1 (And.intro hn0 hn9))
            have HLl := Lib.hid hln
            clear hn hdue hlen hL hln hn0 hn9
            go_wp2_with fail
            refine Calls.mono HNx.out ?_
            rintro e w3 ⟨rfl, hE4, -⟩
            have E4 := Lib.hid hE4
            have hLn := E4.out.len
            rw [HLl.out] at hLn
            have HLn := Lib.hid hLn
            clear hE4 HNx hLn
            go_wp2_with fail
            refine Calls.mono HLn.out ?_
            rintro e w4 ⟨rfl, rfl⟩
            go_wp2
            go_loopw [9] (fun kv wr9 => ∃ (k t' : Nat) (F' : List Nat), kv = .int .i64 ((k : Int) + 1) ∧ k + 1 ≤ n ∧ Hid (t' = t + k) ∧ Hid (Std w wr9 p t' a L F')) (fun kv _ => n - (intOf kv).toNat)
            case atStart => exact ⟨0, t, F, rfl, by have := HZn.out; omega, Lib.hid rfl, E4⟩
            case round =>
              obtain ⟨k, t', F', rfl, hk, ht', hE'⟩ := hrel
              have HTi := Lib.hid (hE'.out.tick (by have h1 := hA.out; have h2 := ht'.out; have h3 := HZn.out; omega))
              by_cases hkn : k + 1 < n
              · have kI : (k : Int) + 1 < (n : Int) := by omega
                have k1 : IntKind.i64.wrap ((k : Int) + 1 + 1) = (k : Int) + 1 + 1 := by have := HZn.out; rw [IntKind.wrap_i64]; omega
                have hnd := not_due (fun x hx => (HDu.out x hx).1) HNn.out (k := t' + 1) (by have := ht'.out; omega) (by have := ht'.out; omega)
                rw [hnd.1, hnd.2] at HTi
                clear hnd
                go_wp2_with fail
                refine Calls.mono HTi.out ?_
                rintro e w5 ⟨A5, c5, F5, rfl, hE5, -, -⟩
                have E5 := Lib.hid hE5
                clear hE5 HTi
                go_wp2
                go_roundw
                case rel => exact ⟨k + 1, t' + 1, F5, by go_num, hkn, Lib.hid (by have := ht'.out; omega), E5⟩
                case measure => simp [intOf]; omega
              · have kI : ¬ (k : Int) + 1 < (n : Int) := by omega
                have z1 := HZn.out.1
                have hdn := is_due (fun x hx => (HDu.out x hx).1) HNn.out HZn.out.2.1
                have hfl := flt_len L (t + n)
                rw [show t + n = t' + 1 by have := ht'.out; omega] at hdn hfl
                obtain ⟨d, hd⟩ : ∃ d, (dueL L (t' + 1)).length = d := ⟨_, rfl⟩
                rw [hd] at hdn hfl HTi
                have z5 : ((d : Int) == 0) = false := by simp; omega
                have hLn := hE'.out.len
                rw [HLl.out] at hLn hfl
                have HLn2 := Lib.hid hLn
                obtain ⟨q, hq⟩ : ∃ q, (tikL L (t' + 1)).length = q := ⟨_, rfl⟩
                rw [hq] at hfl
                have hA' := hA.out
                have hlq := HLl.out
                have z6 : IntKind.i64.wrap ((ln : Int) - (d : Int)) = (q : Int) := by rw [IntKind.wrap_i64]; omega
                have z7 : ((q : Int) != (q : Int)) = false := by simp
                have HFl := Lib.hid (And.intro hfl (And.intro hdn hq))
                have r3 : IntKind.i64.wrap ((r : Int) + 1) = (r : Int) + 1 := by rw [IntKind.wrap_i64]; omega
                clear hdn hfl hd hLn hA' hlq
                go_wp2_with fail
                refine Calls.mono HLn2.out ?_
                rintro e w5 ⟨rfl, rfl⟩
                go_wp2_with fail
                refine Calls.mono HTi.out ?_
                rintro e w6 ⟨A6, c6, F6, rfl, hE6, -, -⟩
                have E6 := Lib.hid hE6
                have hLn3 := E6.out.len
                rw [HFl.out.2.2] at hLn3
                have HLn3 := Lib.hid hLn3
                clear hE6 HTi hLn3 hq
                go_wp2_with fail
                refine Calls.mono HLn3.out ?_
                rintro e w7 ⟨rfl, rfl⟩
                go_wp2
                go_roundw
                case rel => exact ⟨r + 1, t' + 1, a, tikL L (t' + 1), F6, by go_num, by have h1 := hA.out; have h2 := HLl.out; have h3 := HFl.out; omega, Lib.hid (by have h1 := hA.out; have h2 := HLl.out; have h3 := HFl.out; have h4 := ht'.out; have h5 := HZn.out; omega), E6⟩
                case measure => simp [intOf]; omega
set_option maxRecDepth 100000 in
theorem contract (H : Type) (enc : TypeId × Value → H) (W : World) (base : Nat) (args : Array Value) (ds gs : List (DataW H)) (before : List MemPlace)
    (hval0 : ∀ (j : Nat) t v, Try.f5.params[j]? = some t → args[j]? = some v → Value.okWide Try.prog W .any base t v)
    (hW : DataW.Whole enc Try.prog Try.f5.params.toList Rows.wheelNextSpec.vars false W args.toList ds gs before)
    (hsz0 : (DataW.weightsEach Try.prog (Try.f5.params.toList ++ Rows.wheelNextSpec.plain.varTypes Try.prog) (ds ++ gs)).all (· ≤ reachBytes) = true) :
    Calls Try.prog 5 args W fun e W' => ∃ v, e = .returned v ∧ Rows.wheelNextSpec.post enc Try.prog Try.f5 false true false false W args v W' := by
  have hsz := hsz0
  clear hsz0
  have hval := hval0
  clear hval0
  have hW' := hW
  obtain ⟨p, q, hA0, hV, rfl, hfz, hnd⟩ := hW
  have hA : DataW.TrodAll enc Try.prog W 0 (fun _ => true) true Try.f5.params.toList args.toList ds p := hA0
  rw [Try.params5] at hA hval hsz
  obtain ⟨v0, vs0, d0, ds0, p0, q0, hargs, rfl, rfl, h0, r0⟩ := trodAll_cons hA
  obtain ⟨rfl, rfl, rfl⟩ := trodAll_nil r0
  obtain rfl : args = #[v0] := by cases args; simp_all
  obtain ⟨rfl, rfl⟩ := trodVars_none hV
  obtain ⟨a0, l0, c0, rfl⟩ := okWide_slice Try.underlying22 (hval 0 22 v0 rfl rfl)
  have k0 := h0
  have lt0 : ∀ x ∈ p0, x.block < W.heap.size := by obtain ⟨m, hm⟩ := k0; exact DataW.trod_lt m _ _ _ hm
  obtain ⟨z0, w0⟩ := isStp_of h0
  clear hA0
  refine (walk W a0 l0 c0 z0 w0).mono fun e W' ⟨he, bel⟩ => ?_
  subst he
  exact ⟨_, rfl, _, _, _, [], _, [], hW', trodAll_mk1 (shut_bool Try.underlying4 _), (trodAll_cons_mk (Below.trod laidOut (by kernel_rfl) (of_decide_eq_true (by kernel_rfl)) k0 bel lt0) trodAll_mk0), rfl, bel.frame _, fun h => by cases h⟩

set_option maxRecDepth 100000 in
theorem lifted (os : Os) (started : os.Started) (H : Type) (enc : TypeId × Value → H) :
    ReturnsInHanded {} Try.checked os 5 .any (Rows.wheelNextSpec.pre6 enc Try.prog Try.f5 Rows.wheelNextRow.domain false) (Rows.wheelNextSpec.post enc Try.prog Try.f5 false true false false) := by
  refine returnsInHanded_of_change_sized (C := Try.checked) own started (by kernel_rfl) Try.func5
    (ChangeSpec.witness6 (enc := enc) (C := Try.checked) false ⟨#[], #[.slice none 0 0], []⟩ 8 (by kernel_rfl) (by kernel_rfl) (by kernel_rfl) (by kernel_rfl)) ?_
  intro W base args ds gs before hval hW _ hsz _
  exact contract H enc W base args ds gs before hval hW hsz

theorem over : Rows.wheelNextRow.holds Try.pinned (OpenSpec.ofChange Rows.wheelNextSpec) :=
  OpenClaim.holds_of_wide 5 Try.f5 rfl rfl rfl rfl rfl rfl rfl ⟨rfl, rfl, rfl, rfl, rfl⟩ rfl rfl rfl rfl rfl (by kernel_rfl) Try.func5 (by kernel_rfl)
    (of_decide_eq_true (by kernel_rfl)) (by unfold Func.isWrapper; first | (rw [if_pos (by decide +kernel)]; kernel_rfl) | (rw [if_neg (by decide +kernel)]; exact ⟨rfl, rfl⟩))
    (fun os started H enc _ => lifted os started H enc)

theorem proved : Rows.WheelNextSaid := over
#print axioms proved
end WNxt
end Go.Proofs.Ythkjfgegmbdebaa
