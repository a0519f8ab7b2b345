/-
  The laws' own helpers (layer 10): an arena among a call's own memory; made.
-/
import Derived.Test.YtiocdojdncomhaaDoorALw
import Derived.Test.YtiocdojdncomhaaDoorAEnv
namespace Go.Proofs.YtiocdojdncomhaaDoor
open Go.RowKit Go.Maps
set_option linter.unusedVariables false

/-- An arena that the call itself has made, and what the library's table holds. -/
structure AS (w W : World) (r bm bn N : Nat) (L : List Bl) : Prop where
  ar : ArP W r bm bn N L
  env : EnvA W
  bel : Below w.heap.size w W
  pos : 0 < w.heap.size
  hr : w.heap.size ≤ r
  hm : w.heap.size ≤ bm
  hn : w.heap.size ≤ bn
theorem AS.step {w W W' : World} {r bm bn N : Nat} {L M : List Bl} (h : AS w W r bm bn N L) (ht : Tou W W' r bm bn) (ha : ArP W' r bm bn N M) : AS w W' r bm bn N M := by
  have hb : Below w.heap.size W W' := ht.below h.bel.size h.hr h.hm h.hn
  exact ⟨ha, h.env.below hb h.pos, h.bel.trans hb, h.pos, h.hr, h.hm, h.hn⟩
theorem AS.below {w W W' : World} {r bm bn N : Nat} {L : List Bl} (h : AS w W r bm bn N L) (hb : Below W.heap.size W W') : AS w W' r bm bn N L := h.step (Tou.of_below _ _ _ hb) (h.ar.below hb)
theorem AS.drew {w W : World} {r bm bn N : Nat} {L : List Bl} (h : AS w W r bm bn N L) : AS w W.drew r bm bn N L := h.below (Below.refl _ W).drew
theorem ats_len (L : List Bl) : (ats L).length = L.length := by simp [ats]
theorem as_taken {w W : World} {r bm bn N : Nat} {L : List Bl} (hN : N ≤ 16) (h : AS w W r bm bn N L) {n : Nat} (hn : L.length = n) :
    Calls Tryd.prog 20 #[.pointer (some ⟨r, 0, none⟩)] W fun e W' => ∃ A c, e = .returned (.slice A n c) ∧ RdI W' W.heap.size A n (ats L) ∧ Below W.heap.size W W' ∧ AS w W' r bm bn N L ∧ n ≤ c := by
  refine (ptaken_any r bm bn N hN L W h.ar).mono ?_
  rintro e W' ⟨v, rfl, hrow, hb⟩
  rw [← ats_len L] at hrow
  obtain ⟨A, c, rfl, hR, hc⟩ := RdI.of_own hrow
  rw [ats_len, hn] at hR hc
  exact ⟨A, c, by rw [ats_len, hn], hR, hb, h.below hb, hc⟩
theorem as_take {w W : World} {r bm bn N : Nat} {L : List Bl} (hN : N ≤ 16) (h : AS w W r bm bn N L) (o : Int) :
    Calls Tryd.prog 15 #[.pointer (some ⟨r, 0, none⟩), .int .i64 o] W fun e W' => e = .returned (.tuple #[.int .i64 (tkF N L o).1, .int .i64 (tkF N L o).2.1]) ∧ AS w W' r bm bn N (tkF N L o).2.2 ∧ Tou W W' r bm bn := by
  refine (ptake_any r bm bn N hN L o W h.env h.ar).mono ?_
  rintro e W' ⟨h1, h2, h3⟩
  exact ⟨h1, h.step h3 h2, h3⟩
theorem as_give {w W : World} {r bm bn N : Nat} {L : List Bl} (hN : N ≤ 16) (h : AS w W r bm bn N L) (p : Int) (hp1 : -9223372036854775808 ≤ p) (hp2 : p ≤ 9223372036854775807) :
    Calls Tryd.prog 13 #[.pointer (some ⟨r, 0, none⟩), .int .i64 p] W fun e W' => e = .returned (.int .i64 (gvF L p).1) ∧ AS w W' r bm bn N (gvF L p).2 ∧ Tou W W' r bm bn := by
  refine (pgive_any r bm bn N hN L p hp1 hp2 W h.ar).mono ?_
  rintro e W' ⟨h1, h2, h3⟩
  exact ⟨h1, h.step h3 h2, h3⟩
theorem as_new (N : Nat) (hN : N ≤ 16) {w : World} (hE : EnvA w) : Calls Tryd.prog 9 #[.int .i64 (N : Int)] w fun e w' => ∃ r bm bn, e = .returned (.tuple #[.pointer (some ⟨r, 0, none⟩), .int .i64 0]) ∧ AS w w' r bm bn N [] := by
  refine (pnew_ok N hN w).mono ?_
  rintro e w' ⟨r, bm, bn, h1, h2, h3, h4, h5, h6⟩
  exact ⟨r, bm, bn, h1, h2, hE.below h3 hE.lt, h3, hE.lt, h4, h5, h6⟩
theorem as_great {w W : World} {r bm bn N : Nat} {L : List Bl} (hN : N ≤ 16) (h : AS w W r bm bn N L) :
    Calls Tryd.prog 23 #[.pointer (some ⟨r, 0, none⟩)] W fun e W' => e = .returned (.int .i64 (grS (fre L N 0))) ∧ AS w W' r bm bn N L ∧ Below W.heap.size W W' := by
  refine (pgreatest_any r bm bn N hN L W h.ar).mono ?_
  rintro e W' ⟨h1, h2⟩
  exact ⟨h1, h.below h2, h2⟩
theorem stp_wf {w : World} {a : Option Addr} {l j : Nat} {z : List Stp} {x : Stp} (h : IsStp w a l z) (hx : z[j]? = some x) : -9223372036854775808 ≤ x.2.2 ∧ x.2.2 ≤ 9223372036854775807 := by
  have := h.2.1 x (List.mem_of_getElem? hx)
  exact i64_bd this
theorem plS_bd (x : Stp) (hx1 : -9223372036854775808 ≤ x.2.2) (hx2 : x.2.2 ≤ 9223372036854775807) {N : Nat} {L : List Bl} (hN : N ≤ 16) (hI : InvA N L) : -9223372036854775808 ≤ plS x (ats L) ∧ plS x (ats L) ≤ 9223372036854775807 := by
  unfold plS
  split
  · exact ⟨hx1, hx2⟩
  · split
    · omega
    · have hm : ∀ T : List Int, (∀ t ∈ T, 0 ≤ t ∧ t ≤ 65536) → ∀ i, 0 ≤ T.getD i 0 ∧ T.getD i 0 ≤ 65536 := by
        intro T hT i
        rw [List.getD_eq_getElem?_getD]
        cases h : T[i]? with
        | none => simp
        | some t => exact hT t (List.mem_of_getElem? h)
      have := hm (ats L) (fun t ht => by
        obtain ⟨b, hb, rfl⟩ := List.mem_map.1 ht
        have := ((inv_sml hN hI).2 b hb).1
        omega) (pk x.2.2 ((ats L).length + 1)).toNat
      omega
/-- What a step leaves. -/
def stS (N : Nat) (L : List Bl) (x : Stp) : List Bl := if x.1 then (gvF L (plS x (ats L))).2 else (tkF N L x.2.2).2.2
/-- What so many steps leave. -/
def mdS (N : Nat) (z : List Stp) (k : Nat) : List Bl := (z.take k).foldl (stS N) []
theorem mdS_succ {N k : Nat} {z : List Stp} {x : Stp} (h : z[k]? = some x) : mdS N z (k + 1) = stS N (mdS N z k) x := by
  unfold mdS
  rw [List.take_add_one, h, List.foldl_append]
  rfl
set_option maxRecDepth 100000 in
set_option maxHeartbeats 4000000 in
theorem made_any (N : Nat) (hN : N ≤ 16) (a : Option Addr) (l c : Nat) (z : List Stp) (w : World) (hE : EnvA w) (hz : IsStp w a l z) :
    Calls Tryd.prog 26 #[.int .i64 (N : Int), .slice a l c] w fun e w' => ∃ r bm bn, e = .returned (.pointer (some ⟨r, 0, none⟩)) ∧ AS w w' r bm bn N (mdS N z (min l 120)) := by
  have HN := Lib.hid (as_new N hN hE)
  have HZ := Lib.hid hz
  clear hE hz
  go_enter Tryd.func26, Tryd.ntmps26
  go_wp2_with (go_at_call 9; (with_reducible refine Calls.mono HN.out ?_); rintro e w1 ⟨r, bm, bn, rfl, hA⟩; have HA0 := Lib.hid hA; clear hA)
  go_loopw [7] (fun iv wr => ∃ j : Nat, iv = .int .i64 (j : Int) ∧ j ≤ l ∧ j ≤ 120 ∧ Hid (AS w wr r bm bn N (mdS N z j))) (fun iv _ => 120 - (intOf iv).toNat)
  case atStart => exact ⟨0, rfl, Nat.zero_le _, by omega, HA0⟩
  case round =>
    obtain ⟨j, rfl, hj, hj2, hA⟩ := hrel
    by_cases hlt : j < l ∧ j < 120
    · obtain ⟨h1, h2⟩ := hlt
      have hZ := HZ.out.below hA.out.bel
      obtain ⟨b, o, rfl, hb, hc⟩ := HZ.out.2.2 (by omega)
      obtain ⟨x, hx⟩ : ∃ x, z[j]? = some x := ⟨_, List.getElem?_eq_getElem (by rw [HZ.out.1]; exact h1)⟩
      have hw := stp_wf HZ.out hx
      have HM := Lib.hid (mdS_succ (N := N) hx)
      have hcx := hc j x hx
      have HCX := Lib.hid hcx
      have HBl := Lib.hid hb
      obtain ⟨x0, x1, xn⟩ := x
      simp only at hw
      have c0 := (hA.out.bel.cell (p := ⟨b, o + j * 3, none⟩) hb).trans hcx.1
      have c1 := (hA.out.bel.cell (p := ⟨b, o + j * 3 + 1, none⟩) hb).trans hcx.2.1
      have c2 := (hA.out.bel.cell (p := ⟨b, o + j * 3 + 2, none⟩) hb).trans hcx.2.2
      have hjI : (j : Int) < l := by omega
      have hjI2 : (j : Int) < 120 := by omega
      have j3 : IntKind.i64.wrap ((j : Int) + 1) = (j : Int) + 1 := by rw [IntKind.wrap_i64]; omega
      clear hZ hc hx hcx
      obtain ⟨L, hL⟩ : ∃ L, mdS N z j = L := ⟨_, rfl⟩
      rw [hL] at HM hA
      clear hL
      cases x0 with
      | true =>
        obtain ⟨n, hn⟩ : ∃ n, L.length = n := ⟨_, rfl⟩
        have hn7 : n ≤ 70000 := by rw [← hn]; exact (inv_sml hN hA.out.ar.inv).1
        have HT := Lib.hid (as_taken hN hA.out.drew hn)
        have HPB := Lib.hid (plS_bd (true, x1, xn) hw.1 hw.2 hN hA.out.ar.inv)
        have HPl := Lib.hid (fun A ct W B (hR : RdI W B A n (ats L)) => place_any (true, x1, xn) hw.1 hw.2 B n ct A (ats L) hn7 W hR)
        obtain ⟨p, hp⟩ : ∃ p, plS (true, x1, xn) (ats L) = p := ⟨_, rfl⟩
        simp only [hp] at HPl HPB
        have HPE := Lib.hid hp
        have HC := Lib.hid (And.intro c0 (And.intro c1 c2))
        have HL0 : Hid (b < wr.drew.heap.size) := Lib.hid (by have := hA.out.bel.size; have := HBl.out; show b < wr.heap.size; omega)
        clear hn hp
        go_wp2
        refine wp_region_held_drew (S := (fun W => W.cell? ⟨b, o + j * 3, none⟩ = some (.bool true) ∧ W.cell? ⟨b, o + j * 3 + 1, none⟩ = some (.bool x1) ∧ W.cell? ⟨b, o + j * 3 + 2, none⟩ = some (.int .i64 xn))) (by kernel_rfl) ?_ (fun hHeld => ?_)
        · (first | exact HC.out | exact HC1.out | exact HC2.out | exact HC3.out)
        refine wpAnyH_take (i := 0) (oi := { dst := some 32, op := Go.Op.move (Go.Operand.tmp 5), type := 24, pos := "law.go:110", after := #[], guard := none }) (v := ?_) rfl (by kernel_rfl) (by kernel_rfl) (by kernel_rfl) (fun _ _ _ h => h) (Or.inl ⟨by rfl, ?_⟩) (by assumption) ?_
        rotate_left
        · intro w hSw
          (try dsimp only at hSw)
          go_simp
          try (with_reducible rfl)
        try simp only [Act.put, List.setIfInBounds_toArray, List.set_cons_zero, List.set_cons_succ]
        refine wpAnyH_take (i := 1) (oi := { dst := some 33, op := Go.Op.move (Go.Operand.tmp 1), type := 22, pos := "law.go:110", after := #[], guard := none }) (v := ?_) rfl (by kernel_rfl) (by kernel_rfl) (by kernel_rfl) (fun _ _ _ h => h) (Or.inl ⟨by rfl, ?_⟩) (by assumption) ?_
        rotate_left
        · intro w hSw
          (try dsimp only at hSw)
          go_simp
          try (with_reducible rfl)
        try simp only [Act.put, List.setIfInBounds_toArray, List.set_cons_zero, List.set_cons_succ]
        refine wpAnyH_take (i := 2) (oi := { dst := some 34, op := Go.Op.move (Go.Operand.tmp 7), type := 3, pos := "law.go:110", after := #[], guard := none }) (v := ?_) rfl (by kernel_rfl) (by kernel_rfl) (by kernel_rfl) (fun _ _ _ h => h) (Or.inl ⟨by rfl, ?_⟩) (by assumption) ?_
        rotate_left
        · intro w hSw
          (try dsimp only at hSw)
          go_simp
          try (with_reducible rfl)
        try simp only [Act.put, List.setIfInBounds_toArray, List.set_cons_zero, List.set_cons_succ]
        refine wpAnyH_take (i := 3) (oi := { dst := some 35, op := Go.Op.indexAddr 22 (Go.Operand.tmp 33) (Go.Operand.tmp 34), type := 0, pos := "law.go:110", after := #[{ on := 1, ground := Go.Ground.data }, { on := 2, ground := Go.Ground.data }], guard := none }) (v := ?_) rfl (by kernel_rfl) (by kernel_rfl) (by kernel_rfl) (fun _ _ _ h => h) (Or.inl ⟨by rfl, ?_⟩) (by assumption) ?_
        rotate_left
        · intro w hSw
          (try dsimp only at hSw)
          go_simp
          try (with_reducible rfl)
        try simp only [Act.put, List.setIfInBounds_toArray, List.set_cons_zero, List.set_cons_succ]
        refine wpAnyH_take (i := 4) (oi := { dst := some 36, op := Go.Op.load 32 (Go.Operand.tmp 35), type := 32, pos := "law.go:110", after := #[{ on := 3, ground := Go.Ground.data }], guard := none }) (v := ?_) rfl (by kernel_rfl) (by kernel_rfl) (by kernel_rfl) (fun _ _ _ h => h) (Or.inl ⟨by rfl, ?_⟩) (by assumption) ?_
        rotate_left
        · intro w hSw
          (try dsimp only at hSw)
          go_simp
          try (with_reducible rfl)
        try simp only [Act.put, List.setIfInBounds_toArray, List.set_cons_zero, List.set_cons_succ]
        refine wpAnyH_take (i := 5) (oi := { dst := some 37, op := Go.Op.move (Go.Operand.tmp 5), type := 24, pos := "law.go:110", after := #[], guard := none }) (v := ?_) rfl (by kernel_rfl) (by kernel_rfl) (by kernel_rfl) (fun _ _ _ h => h) (Or.inl ⟨by rfl, ?_⟩) (by assumption) ?_
        rotate_left
        · intro w hSw
          (try dsimp only at hSw)
          go_simp
          try (with_reducible rfl)
        try simp only [Act.put, List.setIfInBounds_toArray, List.set_cons_zero, List.set_cons_succ]
        refine wpAnyH_ready (rs := [6]) (by kernel_rfl) (by simp) ?_
        refine AllReadyH.cons (o := { dst := some 38, op := Go.Op.call { callee := Go.Callee.value (Go.Operand.func 20), args := #[Go.Operand.tmp 37], argTypes := #[24] }, type := 34, pos := "law.go:110", after := #[{ on := 5, ground := Go.Ground.data }], guard := none }) rfl (fun K hK => ?_) AllReadyH.nil
        go_simp
        (go_at_call 20; (with_reducible refine Calls.mono HT.out ?_); rintro e W1 ⟨A1, ct, rfl, hR1, hb1, hA1, -⟩; have HA1 := Lib.hid hA1; have HP1 := Lib.hid (HPl.out A1 ct W1 _ hR1); have HC1 := Lib.hid (And.intro ((hb1.cell (p := ⟨b, o + j * 3, none⟩) HL0.out).trans HC.out.1) (And.intro ((hb1.cell (p := ⟨b, o + j * 3 + 1, none⟩) HL0.out).trans HC.out.2.1) ((hb1.cell (p := ⟨b, o + j * 3 + 2, none⟩) HL0.out).trans HC.out.2.2))); have HL1 : Hid (b < W1.heap.size) := Lib.hid (Nat.lt_of_lt_of_le HL0.out hb1.size); clear hA1 hR1 hb1)
        go_wp2_with fail
        refine hK.out _ _ ?_ (fun hHeld => ?_)
        · (first | exact HC.out | exact HC1.out | exact HC2.out | exact HC3.out)
        clear hK K
        try simp only [Act.put, List.setIfInBounds_toArray, List.set_cons_zero, List.set_cons_succ]
        refine wpAnyH_ready (rs := [7]) (by kernel_rfl) (by simp) ?_
        refine AllReadyH.cons (o := { dst := some 39, op := Go.Op.call { callee := Go.Callee.value (Go.Operand.func 11), args := #[Go.Operand.tmp 36, Go.Operand.tmp 38], argTypes := #[32, 34] }, type := 3, pos := "law.go:110", after := #[{ on := 4, ground := Go.Ground.data }, { on := 6, ground := Go.Ground.data }, { on := 6, ground := Go.Ground.chain }], guard := none }) rfl (fun K hK => ?_) AllReadyH.nil
        go_simp
        (go_at_call 11; (with_reducible refine Calls.mono HP1.out ?_); rintro e W2 ⟨rfl, hb2⟩; have HA2 := Lib.hid (HA1.out.below hb2); have HG2 := Lib.hid (as_give hN HA2.out p HPB.out.1 HPB.out.2); have HC2 := Lib.hid (And.intro ((hb2.cell (p := ⟨b, o + j * 3, none⟩) HL1.out).trans HC1.out.1) (And.intro ((hb2.cell (p := ⟨b, o + j * 3 + 1, none⟩) HL1.out).trans HC1.out.2.1) ((hb2.cell (p := ⟨b, o + j * 3 + 2, none⟩) HL1.out).trans HC1.out.2.2))); clear hb2)
        go_wp2_with fail
        refine hK.out _ _ ?_ (fun hHeld => ?_)
        · (first | exact HC.out | exact HC1.out | exact HC2.out | exact HC3.out)
        clear hK K
        try simp only [Act.put, List.setIfInBounds_toArray, List.set_cons_zero, List.set_cons_succ]
        refine wpAnyH_ready (rs := [8]) (by kernel_rfl) (by simp) ?_
        refine AllReadyH.cons (o := { dst := some 40, op := Go.Op.call { callee := Go.Callee.value (Go.Operand.func 13), args := #[Go.Operand.tmp 32, Go.Operand.tmp 39], argTypes := #[24, 3] }, type := 25, pos := "law.go:110", after := #[{ on := 0, ground := Go.Ground.data }, { on := 7, ground := Go.Ground.data }, { on := 7, ground := Go.Ground.chain }], guard := none }) rfl (fun K hK => ?_) AllReadyH.nil
        go_simp
        (go_at_call 13; (with_reducible refine Calls.mono HG2.out ?_); rintro e W3 ⟨rfl, hA3, ht3⟩; have HA3 := Lib.hid hA3; have hb3 := ht3.below HA2.out.bel.size HA2.out.hr HA2.out.hm HA2.out.hn; have HC3 := Lib.hid (And.intro ((hb3.cell (p := ⟨b, o + j * 3, none⟩) HBl.out).trans HC2.out.1) (And.intro ((hb3.cell (p := ⟨b, o + j * 3 + 1, none⟩) HBl.out).trans HC2.out.2.1) ((hb3.cell (p := ⟨b, o + j * 3 + 2, none⟩) HBl.out).trans HC2.out.2.2))); clear hA3 ht3 hb3)
        go_wp2_with fail
        refine hK.out _ _ ?_ (fun hHeld => ?_)
        · (first | exact HC.out | exact HC1.out | exact HC2.out | exact HC3.out)
        clear hK K
        try simp only [Act.put, List.setIfInBounds_toArray, List.set_cons_zero, List.set_cons_succ]
        refine wpAnyH_done (by kernel_rfl) ?_ _
        go_wp2
        go_roundw
        case rel => exact ⟨j + 1, by go_num, h1, h2, Lib.hid (by rw [HM.out]; unfold stS; rw [if_pos rfl, HPE.out]; exact HA3.out)⟩
        case measure => simp [intOf]; omega
      | false =>
        have HT := Lib.hid (as_take hN hA.out xn)
        go_wp2_with (go_at_call 15; (with_reducible refine Calls.mono HT.out ?_); rintro e w2 ⟨rfl, hA2, -⟩; have HA2 := Lib.hid hA2; clear hA2)
        go_roundw
        case rel => exact ⟨j + 1, by go_num, h1, h2, Lib.hid (by rw [HM.out]; exact HA2.out)⟩
        case measure => simp [intOf]; omega
    · have hmn : min l 120 = j := by omega
      rcases (show ¬ j < l ∨ (j < l ∧ ¬ j < 120) by omega) with h1 | ⟨h1, h2⟩
      · have hjI : ¬ (j : Int) < l := by omega
        go_wp2
        go_ret
        exact ⟨r, rfl, bm, bn, hA.out⟩
      · have hjI : (j : Int) < l := by omega
        have hjI2 : ¬ (j : Int) < 120 := by omega
        go_wp2
        go_ret
        exact ⟨r, rfl, bm, bn, hA.out⟩
end Go.Proofs.YtiocdojdncomhaaDoor
