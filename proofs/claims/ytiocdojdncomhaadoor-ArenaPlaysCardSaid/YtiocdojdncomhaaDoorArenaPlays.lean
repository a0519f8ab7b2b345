/-
  crosswaylaw10.ArenaPlays returns true for every input, and leaves its arguments alone.
  Conditions: none of our own; a tied card: the library's table of math/bits holds what the program's text lays.
-/
import Derived.Test.YtiocdojdncomhaaDoorArQ
namespace Go.Proofs.YtiocdojdncomhaaDoor
open Go.ChangeShapes Go.WideShapes Go.ChangeAt Go.RowKit
set_option linter.unusedVariables false
namespace APly
theorem tk_bd {N : Nat} {L : List Bl} (hN : N ≤ 16) (hI : InvA N L) (o : Int) : 0 ≤ (tkF N L o).1 ∧ (tkF N L o).1 ≤ 65536 := by
  by_cases hb : 0 ≤ o ∧ o ≤ (N : Int)
  · obtain ⟨k, rfl⟩ : ∃ k : Nat, o = (k : Int) := ⟨o.toNat, by omega⟩
    have hk : k ≤ N := by omega
    cases ht : tkS N L k with
    | none => rw [tkF_full hk ht]; exact ⟨by simp, by simp⟩
    | some y =>
      obtain ⟨p, M⟩ := y
      rw [tkF_ok hk ht]
      obtain ⟨hM, hIM, -, -⟩ := tkS_some hI ht
      have h1 := (hIM.each (p, k) (by rw [hM]; exact ins_mem.2 (.inl rfl))).2
      have h2 := (pow16 hN).2
      have h3 := two_pos k
      simp only at h1 ⊢
      omega
  · rw [tkF_bad hb]; exact ⟨by simp, by simp⟩
theorem rtake_all (D rd O : Nat) (hO : O ≤ 16) (L : List Bl) (hI : InvA O L) (o : Int) (w : World) (hD : D ≤ w.heap.size) (h : ArE w D rd O L) :
    Calls Tryd.prog 16 #[.pointer (some ⟨rd, 0, none⟩), .int .i64 o] w fun e w' => e = .returned (.tuple #[.int .i64 (tkF O L o).1, .int .i64 (tkF O L o).2.1]) ∧ ArE w' D rd O (tkF O L o).2.2 ∧ w.grownBy w' (some rd) := by
  by_cases hb : 0 ≤ o ∧ o ≤ (O : Int)
  · obtain ⟨k, rfl⟩ : ∃ k : Nat, o = (k : Int) := ⟨o.toNat, by omega⟩
    exact rtake_any D rd O hO L hI k (by omega) w hD h
  · rw [tkF_bad hb]
    refine (rtake_bad rd O L o hb w h.ard).mono ?_
    rintro e w' ⟨h1, rfl⟩
    exact ⟨h1, h, World.grownBy.refl _ _⟩
theorem rtaken_all (D N : Nat) (L : List Bl) (hL : Sml L) (w : World) (h : ArE w D D N L) {n : Nat} (hn : L.length = n) :
    Calls Tryd.prog 12 #[.pointer (some ⟨D, 0, none⟩)] w fun e w' => ∃ A c, e = .returned (.slice A n c) ∧ RdI w' w.heap.size A n (ats L) ∧ Below w.heap.size w w' := by
  refine (taken_any D N L hL w h.ard).mono ?_
  rintro e w' ⟨v, rfl, hrow, hb⟩
  rw [← ats_len L] at hrow
  obtain ⟨A, c, rfl, hR, hc⟩ := RdI.of_own hrow
  rw [ats_len, hn] at hR
  refine ⟨A, c, by rw [ats_len, hn], hR, hb⟩
set_option maxHeartbeats 1000000 in
theorem rnew_e (O : Nat) (h : O ≤ 16) (w : World) : Calls Tryd.prog 10 #[.int .i64 (O : Int)] w fun e w' => e = .returned (.tuple #[.pointer (some ⟨w.heap.size, 0, none⟩), .int .i64 0]) ∧ ArE w' w.heap.size w.heap.size O [] ∧ Below w.heap.size w w' := by
  have h0 : ¬ (O : Int) < 0 := by omega
  have h1 : ¬ (16 : Int) < O := by omega
  go_enter Tryd.func10, Tryd.ntmps10
  go_wp2
  exact bodyPost_ret (v := .tuple #[.pointer (some ⟨w.heap.size, 0, none⟩), .int .i64 0]) (by simp [results, Tryd.results10, go_sem]) rfl ⟨rfl, ⟨none, 0, 0, Blk.new _ _ _, ⟨rfl, fun h => absurd h (by omega)⟩, Nat.le_refl _, Nat.le_refl _, .inl ⟨rfl, rfl, rfl⟩⟩, (Below.refl _ _).alloc (Nat.le_refl _) _⟩
/-- The program's arena and the document's, beside one another. -/
structure P2 (x1 W : World) (D r bm bn rd N : Nat) (L M : List Bl) : Prop where
  a : AS x1 W r bm bn N L
  d : ArE W D rd N M
  s1 : r < D
  s2 : bm < D
  s3 : bn < D
  s4 : x1.heap.size ≤ D
  s5 : D ≤ rd
  s6 : D ≤ W.heap.size
theorem P2.tou {x1 W W' : World} {D r bm bn rd N : Nat} {L L' M : List Bl} (h : P2 x1 W D r bm bn rd N L M) (ha : AS x1 W' r bm bn N L') (ht : Tou W W' r bm bn) : P2 x1 W' D r bm bn rd N L' M :=
  ⟨ha, h.d.tou ht h.s1 h.s2 h.s3, h.s1, h.s2, h.s3, h.s4, h.s5, Nat.le_trans h.s6 ht.size⟩
theorem P2.doc {x1 W W' : World} {D r bm bn rd N : Nat} {L M M' : List Bl} (h : P2 x1 W D r bm bn rd N L M) (hd : ArE W' D rd N M') (hg : W.grownBy W' (some rd)) : P2 x1 W' D r bm bn rd N L M' :=
  ⟨h.a.doc hg h.s5 h.s1 h.s2 h.s3 h.s4, hd, h.s1, h.s2, h.s3, h.s4, h.s5, Nat.le_trans h.s6 hg.size⟩
theorem P2.below {x1 W W' : World} {D r bm bn rd N : Nat} {L M : List Bl} (h : P2 x1 W D r bm bn rd N L M) (hb : Below W.heap.size W W') : P2 x1 W' D r bm bn rd N L M :=
  ⟨h.a.below hb, h.d.below hb, h.s1, h.s2, h.s3, h.s4, h.s5, Nat.le_trans h.s6 hb.size⟩
/-- The step at hand, in a block of its own. -/
structure P3 (x1 W : World) (D r bm bn rd N : Nat) (L M : List Bl) (xb : Nat) (a b : Bool) (v : Int) : Prop where
  p : P2 x1 W D r bm bn rd N L M
  x : Blk W xb 32 #[.bool a, .bool b, .int .i64 v]
  s : D ≤ xb
  t : xb ≠ rd
theorem P3.tou {x1 W W' : World} {D r bm bn rd N xb : Nat} {L L' M : List Bl} {a b : Bool} {v : Int} (h : P3 x1 W D r bm bn rd N L M xb a b v) (ha : AS x1 W' r bm bn N L') (ht : Tou W W' r bm bn) : P3 x1 W' D r bm bn rd N L' M xb a b v := by
  have h1 := h.p.s1
  have h2 := h.p.s2
  have h3 := h.p.s3
  have h4 := h.s
  exact ⟨h.p.tou ha ht, (ht.block xb h.x.lt (by omega) (by omega) (by omega)).trans h.x, h.s, h.t⟩
theorem P3.doc {x1 W W' : World} {D r bm bn rd N xb : Nat} {L M M' : List Bl} {a b : Bool} {v : Int} (h : P3 x1 W D r bm bn rd N L M xb a b v) (hd : ArE W' D rd N M') (hg : W.grownBy W' (some rd)) : P3 x1 W' D r bm bn rd N L M' xb a b v :=
  ⟨h.p.doc hd hg, h.x.grown hg (fun e => h.t (by injection e)), h.s, h.t⟩
theorem P3.below {x1 W W' : World} {D r bm bn rd N xb : Nat} {L M : List Bl} {a b : Bool} {v : Int} (h : P3 x1 W D r bm bn rd N L M xb a b v) (hb : Below W.heap.size W W') : P3 x1 W' D r bm bn rd N L M xb a b v :=
  ⟨h.p.below hb, h.x.below hb h.x.lt, h.s, h.t⟩
theorem P3.cells {x1 W : World} {D r bm bn rd N xb : Nat} {L M : List Bl} {a b : Bool} {v : Int} (h : P3 x1 W D r bm bn rd N L M xb a b v) : W.cell? ⟨xb, 0, none⟩ = some (.bool a) ∧ W.cell? ⟨xb, 1, none⟩ = some (.bool b) ∧ W.cell? ⟨xb, 2, none⟩ = some (.int .i64 v) := ⟨(h.x.cell 0).trans rfl, (h.x.cell 1).trans rfl, (h.x.cell 2).trans rfl⟩
theorem P3.sml {x1 W : World} {D r bm bn rd N xb : Nat} {L M : List Bl} {a b : Bool} {v : Int} (h : P3 x1 W D r bm bn rd N L M xb a b v) (hN : N ≤ 16) : Sml L := inv_sml hN h.p.a.ar.inv
set_option maxRecDepth 100000 in
set_option maxHeartbeats 4000000 in
theorem walk (w : World) (hE : EnvA w) (a0 : Int) (w0 : (Lit.int .i64 a0).wf = true) (a1 : Option Addr) (l1 c1 : Nat) (z1 : List Stp) (w1 : IsStp w a1 l1 z1) :
    Calls Tryd.prog 3 #[.int .i64 a0, .slice a1 l1 c1] w fun e w' => e = .returned (.bool true) ∧ Below w.heap.size w w' := by
  have HE := Lib.hid hE
  have HZ := Lib.hid w1
  clear hE w0 w1
  by_cases hbad : a0 < 0 ∨ 16 < a0
  · have HB1 := Lib.hid (fun W => pnew_bad a0 hbad W)
    have HB2 := Lib.hid (fun W => rnew_bad a0 hbad W)
    clear hbad
    go_enter Tryd.func3, Tryd.ntmps3
    go_wp2_with fail
    refine Calls.mono (aawake_yes w HE.out) ?_
    rintro e x1 ⟨rfl, hb1⟩
    have B1 := Lib.hid hb1
    clear hb1
    go_wp2_with fail
    refine Calls.mono (HB1.out _) ?_
    rintro e x2 ⟨rfl, rfl⟩
    go_wp2_with fail
    refine Calls.mono (HB2.out _) ?_
    rintro e x2 ⟨rfl, rfl⟩
    go_wp2
    go_ret
    exact ⟨rfl, B1.out⟩
  · obtain ⟨N, rfl⟩ : ∃ N : Nat, a0 = (N : Int) := ⟨a0.toNat, by omega⟩
    have hN16 : N ≤ 16 := by omega
    clear hbad
    go_enter Tryd.func3, Tryd.ntmps3
    go_wp2_with fail
    refine Calls.mono (aawake_yes w HE.out) ?_
    rintro e x1 ⟨rfl, hb1⟩
    have B1 := Lib.hid hb1
    clear hb1
    go_wp2_with fail
    refine Calls.mono (as_new N hN16 (HE.out.below B1.out HE.out.lt)) ?_
    rintro e x2 ⟨r, bm, bn, rfl, hA2⟩
    have A2 := Lib.hid hA2
    clear hA2
    go_wp2_with fail
    refine Calls.mono (rnew_e N hN16 x2) ?_
    rintro e x3 ⟨rfl, hD3, hb3⟩
    have HP3 : Hid (P2 x1 x3 x2.heap.size r bm bn x2.heap.size N [] []) := Lib.hid ⟨A2.out.below hb3, hD3, A2.out.ar.lt.1, A2.out.ar.lt.2.1, A2.out.ar.lt.2.2, A2.out.bel.size, Nat.le_refl _, hb3.size⟩
    obtain ⟨D, hD⟩ : ∃ D, x2.heap.size = D := ⟨_, rfl⟩
    rw [hD] at HP3 ⊢
    clear hD3 hb3
    go_wp2
    go_loopw [10] (fun iv wr => ∃ (i : Nat) (L : List Bl), iv = .int .i64 (i : Int) ∧ i ≤ l1 ∧ i ≤ 120 ∧ Hid (P2 x1 wr D r bm bn D N L L)) (fun iv _ => 121 - (intOf iv).toNat)
    case atStart => exact ⟨0, [], rfl, Nat.zero_le _, by omega, HP3⟩
    case round =>
      obtain ⟨i, L, rfl, hi, hi2, hW⟩ := hrel
      by_cases h1 : i < l1
      · have h1I : (i : Int) < (l1 : Int) := by omega
        by_cases h2 : i < 120
        · have h2I : (i : Int) < 120 := by omega
          have HBel := Lib.hid (B1.out.trans (hW.out.a.bel.mono B1.out.size))
          obtain ⟨b, o, rfl, hb, hc⟩ := HZ.out.2.2 (by omega)
          obtain ⟨x, hx⟩ : ∃ x, z1[i]? = some x := ⟨_, List.getElem?_eq_getElem (by rw [HZ.out.1]; exact h1)⟩
          have hw := stp_wf HZ.out hx
          have hcx := hc i x hx
          obtain ⟨x0, xr, xn⟩ := x
          simp only at hw
          have k0 := (HBel.out.cell (p := ⟨b, o + i * 3, none⟩) hb).trans hcx.1
          have k1 := (HBel.out.cell (p := ⟨b, o + i * 3 + 1, none⟩) hb).trans hcx.2.1
          have k2 := (HBel.out.cell (p := ⟨b, o + i * 3 + 2, none⟩) hb).trans hcx.2.2
          have hi0 : (0 : Int) ≤ (i : Int) := by omega
          have j3 : IntKind.i64.wrap ((i : Int) + 1) = (i : Int) + 1 := by rw [IntKind.wrap_i64]; omega
          have HX3 : Hid (P3 x1 (wr.alloc (.cells #[.bool x0, .bool xr, .int .i64 xn] 32)) D r bm bn D N L L wr.heap.size x0 xr xn) := Lib.hid ⟨hW.out.below ((Below.refl _ wr).alloc (Nat.le_refl _) _), Blk.new _ _ _, hW.out.s6, by obtain ⟨A, n, c, q1, -⟩ := hW.out.d; have := q1.lt; omega⟩
          obtain ⟨xb, hxb⟩ : ∃ xb, wr.heap.size = xb := ⟨_, rfl⟩
          clear hc hx hcx
          rw [hxb] at HX3
          have hN0 := HX3.out.p.a.ar.inv
          have HI := Lib.hid hN0
          clear hN0
          cases x0 with
          | true =>
            obtain ⟨m0, hm0⟩ : ∃ m, L.length = m := ⟨_, rfl⟩
            have hm70 : m0 ≤ 70000 := by rw [← hm0]; exact (inv_sml hN16 HI.out).1
            have X4 := Lib.hid (HX3.out.below (Below.refl _ _).drew)
            have HT0 := Lib.hid (rtaken_all D N L (X4.out.sml hN16) _ X4.out.p.d hm0)
            have HPB := Lib.hid (plS_bd (true, xr, xn) hw.1 hw.2 hN16 HI.out)
            have HPl := Lib.hid (fun A ct W B (hR : RdI W B A m0 (ats L)) => place_any (true, xr, xn) hw.1 hw.2 B m0 ct A (ats L) hm70 W hR)
            obtain ⟨p, hp⟩ : ∃ p, plS (true, xr, xn) (ats L) = p := ⟨_, rfl⟩
            simp only [hp] at HPl HPB
            have HC := Lib.hid HX3.out.cells
            clear hm0 hp
            go_wp2
            refine wp_region_held_drew (S := (fun W => W.cell? ⟨xb, 0, none⟩ = some (.bool true) ∧ W.cell? ⟨xb, 1, none⟩ = some (.bool xr) ∧ W.cell? ⟨xb, 2, none⟩ = some (.int .i64 xn))) (by kernel_rfl) ?_ (fun hHeld => ?_)
            · (first | exact HC.out | exact HCa.out | exact HCb.out)
            refine wpAnyH_take (i := 0) (oi := { dst := some 63, op := Go.Op.load 32 (Go.Operand.tmp 11), type := 32, pos := "law.go:84", after := #[], guard := none }) (v := ?_) rfl (by kernel_rfl) (by kernel_rfl) (by kernel_rfl) (fun _ _ _ h => h) (Or.inl ⟨by rfl, ?_⟩) (by assumption) ?_
            rotate_left
            · intro w hSw
              (try dsimp only at hSw)
              go_simp
              try (with_reducible rfl)
            try simp only [Act.put, List.setIfInBounds_toArray, List.set_cons_zero, List.set_cons_succ]
            refine wpAnyH_take (i := 1) (oi := { dst := some 64, op := Go.Op.move (Go.Operand.tmp 8), type := 28, pos := "law.go:84", after := #[], guard := none }) (v := ?_) rfl (by kernel_rfl) (by kernel_rfl) (by kernel_rfl) (fun _ _ _ h => h) (Or.inl ⟨by rfl, ?_⟩) (by assumption) ?_
            rotate_left
            · intro w hSw
              (try dsimp only at hSw)
              go_simp
              try (with_reducible rfl)
            try simp only [Act.put, List.setIfInBounds_toArray, List.set_cons_zero, List.set_cons_succ]
            refine wpAnyH_ready (rs := [2]) (by kernel_rfl) (by simp) ?_
            refine AllReadyH.cons (o := { dst := some 65, op := Go.Op.call { callee := Go.Callee.value (Go.Operand.func 12), args := #[Go.Operand.tmp 64], argTypes := #[28] }, type := 34, pos := "law.go:84", after := #[{ on := 1, ground := Go.Ground.data }], guard := none }) rfl (fun K hK => ?_) AllReadyH.nil
            go_simp
            (go_at_call 12; (with_reducible refine Calls.mono HT0.out ?_); rintro e Wa ⟨A0, ct, rfl, hR0, hb0⟩; have Xa := Lib.hid (X4.out.below hb0); have HP1 := Lib.hid (HPl.out A0 ct Wa _ hR0); have HCa := Lib.hid Xa.out.cells; clear hR0 hb0)
            go_wp2_with fail
            refine hK.out _ _ ?_ (fun hHeld => ?_)
            · (first | exact HC.out | exact HCa.out | exact HCb.out)
            clear hK K
            try simp only [Act.put, List.setIfInBounds_toArray, List.set_cons_zero, List.set_cons_succ]
            refine wpAnyH_ready (rs := [3]) (by kernel_rfl) (by simp) ?_
            refine AllReadyH.cons (o := { dst := some 66, op := Go.Op.call { callee := Go.Callee.value (Go.Operand.func 11), args := #[Go.Operand.tmp 63, Go.Operand.tmp 65], argTypes := #[32, 34] }, type := 3, pos := "law.go:84", after := #[{ on := 0, ground := Go.Ground.data }, { on := 2, ground := Go.Ground.data }, { on := 2, ground := Go.Ground.chain }], guard := none }) rfl (fun K hK => ?_) AllReadyH.nil
            go_simp
            (go_at_call 11; (with_reducible refine Calls.mono HP1.out ?_); rintro e Wb ⟨rfl, hb0⟩; have Xb := Lib.hid (Xa.out.below hb0); have HCb := Lib.hid Xb.out.cells; clear hb0)
            go_wp2_with fail
            refine hK.out _ _ ?_ (fun hHeld => ?_)
            · (first | exact HC.out | exact HCa.out | exact HCb.out)
            clear hK K
            try simp only [Act.put, List.setIfInBounds_toArray, List.set_cons_zero, List.set_cons_succ]
            refine wpAnyH_take (i := 4) (oi := { dst := some 12, op := Go.Op.assign (Go.Operand.tmp 66), type := 3, pos := "law.go:84", after := #[{ on := 3, ground := Go.Ground.data }, { on := 3, ground := Go.Ground.chain }, { on := 0, ground := Go.Ground.phase }, { on := 1, ground := Go.Ground.phase }, { on := 2, ground := Go.Ground.phase }, { on := 3, ground := Go.Ground.phase }], guard := none }) (v := ?_) rfl (by kernel_rfl) (by kernel_rfl) (by kernel_rfl) (fun _ _ _ h => h) (Or.inl ⟨by rfl, ?_⟩) (by assumption) ?_
            rotate_left
            · intro w hSw
              (try dsimp only at hSw)
              go_simp
              try (with_reducible rfl)
            try simp only [Act.put, List.setIfInBounds_toArray, List.set_cons_zero, List.set_cons_succ]
            refine wpAnyH_done (by kernel_rfl) ?_ _
            have HG1 := as_give hN16 Xb.out.p.a p HPB.out.1 HPB.out.2
            have HG2 := fun W (h : P2 x1 W D r bm bn D N (gvF L p).2 L) => rgive_any D D N hN16 L HI.out p W h.s6 h.d
            obtain ⟨Y, hY⟩ : ∃ Y, gvF L p = Y := ⟨_, rfl⟩
            rw [hY] at HG1 HG2
            obtain ⟨ye, L'⟩ := Y
            dsimp only at HG1 HG2
            have HG1 := Lib.hid HG1
            have HG2 := Lib.hid HG2
            have de : (ye != ye) = false := by simp
            clear hY
            go_wp2_with fail
            refine Calls.mono HG1.out ?_
            rintro e Wc ⟨rfl, hAc, htc⟩
            have Xc := Lib.hid (Xb.out.tou hAc htc)
            clear hAc htc
            go_wp2_with fail
            refine Calls.mono (HG2.out Wc Xc.out.p) ?_
            rintro e Wd ⟨rfl, hDd, hgd⟩
            have Q0 := Lib.hid (Xc.out.doc hDd hgd)
            clear hDd hgd
            obtain ⟨m, hm⟩ : ∃ m, L'.length = m := ⟨_, rfl⟩
            have hm7 : m ≤ 70000 := by rw [← hm]; exact (Q0.out.sml hN16).1
            have HTk := Lib.hid (as_taken hN16 Q0.out.p.a hm)
            have HTd := Lib.hid (fun W (h : P3 x1 W D r bm bn D N L' L' xb true xr xn) => rtaken_all D N L' (h.sml hN16) W h.p.d hm)
            clear hm
            go_wp2_with fail
            refine Calls.mono HTk.out ?_
            rintro e W1 ⟨A1, c1', rfl, hR1, hb1, -, -⟩
            have Q1 := Lib.hid (Q0.out.below hb1)
            have R1 := Lib.hid hR1
            clear hR1 hb1
            go_wp2_with fail
            refine Calls.mono (HTd.out W1 Q1.out) ?_
            rintro e W2 ⟨A2, c2', rfl, hR2, hb2⟩
            have Q2 := Lib.hid (Q1.out.below hb2)
            have R2 := Lib.hid hR2
            have R1' := Lib.hid (R1.out.below hb2)
            clear hR2 hb2
            go_wp2_with fail
            refine Calls.mono (same_any _ m c1' A1 (ats L') _ m c2' A2 (ats L') hm7 W2 R1'.out R2.out) ?_
            rintro e W3 ⟨rfl, hb3⟩
            have Q3 := Lib.hid (Q2.out.below hb3)
            have Q4 := Lib.hid (Q3.out.below (Below.refl _ _).drew)
            have HC4 := Lib.hid Q3.out.cells.2.2
            rw [show decide (ats L' = ats L') = true from decide_eq_true rfl]
            obtain ⟨F, hF⟩ : ∃ F : Int, ((2 ^ N - sumB L' : Nat) : Int) = F := ⟨_, rfl⟩
            obtain ⟨G, hG⟩ : ∃ G : Int, grS (fre L' N 0) = G := ⟨_, rfl⟩
            obtain ⟨O, hO⟩ : ∃ O : Int, ordS L' xn = O := ⟨_, rfl⟩
            have HF := pfree_any r bm bn N L' _ Q4.out.p.a.ar
            have HFd := freeN_any D N hN16 L' (Q4.out.sml hN16) (sumB_le Q4.out.p.a.ar.inv) _ Q4.out.p.d.ard
            have HGp := as_great hN16 Q4.out.p.a
            have HGd := fun W (h : P3 x1 W D r bm bn D N L' L' xb true xr xn) => greatest_any D N hN16 L' (h.sml hN16) W h.p.d.ard
            have HOp := fun W (h : P3 x1 W D r bm bn D N L' L' xb true xr xn) => porder_any r bm bn N L' xn hw.1 hw.2 W h.p.a.ar
            have HOd := fun W (h : P3 x1 W D r bm bn D N L' L' xb true xr xn) => orderAt_any D N L' (h.sml hN16) xn W h.p.d.ard
            simp only [hF] at HF HFd
            simp only [hG] at HGp HGd
            simp only [hO] at HOp HOd
            have HF := Lib.hid HF
            have HFd := Lib.hid HFd
            have HGp := Lib.hid HGp
            have HGd := Lib.hid HGd
            have HOp := Lib.hid HOp
            have HOd := Lib.hid HOd
            have dF : (F != F) = false := by simp
            have dG : (G != G) = false := by simp
            have dO : (O != O) = false := by simp
            clear hb3 hF hG hO
            go_wp2
            refine wp_region_held_drew (S := (fun W => W.cell? ⟨xb, 2, none⟩ = some (.int .i64 xn))) (by kernel_rfl) ?_ (fun hHeld => ?_)
            · (first | exact HC4.out | exact HC5.out | exact HC6.out)
            refine wpAnyH_take (i := 0) (oi := { dst := some 112, op := Go.Op.move (Go.Operand.tmp 19), type := 4, pos := "law.go:98", after := #[], guard := none }) (v := ?_) rfl (by kernel_rfl) (by kernel_rfl) (by kernel_rfl) (fun _ _ _ h => h) (Or.inl ⟨by rfl, ?_⟩) (by assumption) ?_
            rotate_left
            · intro w hSw
              (try dsimp only at hSw)
              go_simp
              try (with_reducible rfl)
            try simp only [Act.put, List.setIfInBounds_toArray, List.set_cons_zero, List.set_cons_succ]
            refine wpAnyH_take (i := 1) (oi := { dst := some 113, op := Go.Op.unOp Go.UnOp.not 4 (Go.Operand.tmp 112), type := 4, pos := "law.go:98", after := #[{ on := 0, ground := Go.Ground.data }], guard := none }) (v := ?_) rfl (by kernel_rfl) (by kernel_rfl) (by kernel_rfl) (fun _ _ _ h => h) (Or.inl ⟨by rfl, ?_⟩) (by assumption) ?_
            rotate_left
            · intro w hSw
              (try dsimp only at hSw)
              go_simp
              try (with_reducible rfl)
            try simp only [Act.put, List.setIfInBounds_toArray, List.set_cons_zero, List.set_cons_succ]
            refine wpAnyH_take (i := 2) (oi := { dst := some 114, op := Go.Op.move (Go.Operand.tmp 113), type := 4, pos := "law.go:98", after := #[{ on := 1, ground := Go.Ground.data }], guard := none }) (v := ?_) rfl (by kernel_rfl) (by kernel_rfl) (by kernel_rfl) (fun _ _ _ h => h) (Or.inl ⟨by rfl, ?_⟩) (by assumption) ?_
            rotate_left
            · intro w hSw
              (try dsimp only at hSw)
              go_simp
              try (with_reducible rfl)
            try simp only [Act.put, List.setIfInBounds_toArray, List.set_cons_zero, List.set_cons_succ]
            refine wpAnyH_take (i := 3) (oi := { dst := some 115, op := Go.Op.move (Go.Operand.tmp 6), type := 24, pos := "law.go:98", after := #[{ on := 2, ground := Go.Ground.guard }], guard := some (2, false) }) (v := ?_) rfl (by kernel_rfl) (by kernel_rfl) (by kernel_rfl) (fun _ _ _ h => h) (Or.inl ⟨by rfl, ?_⟩) (by assumption) ?_
            rotate_left
            · intro w hSw
              (try dsimp only at hSw)
              go_simp
              try (with_reducible rfl)
            try simp only [Act.put, List.setIfInBounds_toArray, List.set_cons_zero, List.set_cons_succ]
            refine wpAnyH_take (i := 5) (oi := { dst := some 117, op := Go.Op.move (Go.Operand.tmp 8), type := 28, pos := "law.go:98", after := #[{ on := 2, ground := Go.Ground.guard }], guard := some (2, false) }) (v := ?_) rfl (by kernel_rfl) (by kernel_rfl) (by kernel_rfl) (fun _ _ _ h => h) (Or.inl ⟨by rfl, ?_⟩) (by assumption) ?_
            rotate_left
            · intro w hSw
              (try dsimp only at hSw)
              go_simp
              try (with_reducible rfl)
            try simp only [Act.put, List.setIfInBounds_toArray, List.set_cons_zero, List.set_cons_succ]
            refine wpAnyH_ready (rs := [4]) (by kernel_rfl) (by simp) ?_
            refine AllReadyH.cons (o := { dst := some 116, op := Go.Op.call { callee := Go.Callee.value (Go.Operand.func 21), args := #[Go.Operand.tmp 115], argTypes := #[24] }, type := 3, pos := "law.go:98", after := #[{ on := 3, ground := Go.Ground.data }, { on := 2, ground := Go.Ground.chain }, { on := 2, ground := Go.Ground.guard }], guard := some (2, false) }) rfl (fun K hK => ?_) AllReadyH.nil
            go_simp
            (go_at_call 21; (with_reducible refine Calls.mono HF.out ?_); rintro e W' ⟨rfl, rfl⟩)
            go_wp2_with fail
            refine hK.out _ _ ?_ (fun hHeld => ?_)
            · (first | exact HC4.out | exact HC5.out | exact HC6.out)
            clear hK K
            try simp only [Act.put, List.setIfInBounds_toArray, List.set_cons_zero, List.set_cons_succ]
            refine wpAnyH_ready (rs := [6]) (by kernel_rfl) (by simp) ?_
            refine AllReadyH.cons (o := { dst := some 118, op := Go.Op.call { callee := Go.Callee.value (Go.Operand.func 22), args := #[Go.Operand.tmp 117], argTypes := #[28] }, type := 3, pos := "law.go:98", after := #[{ on := 5, ground := Go.Ground.data }, { on := 4, ground := Go.Ground.chain }, { on := 2, ground := Go.Ground.guard }], guard := some (2, false) }) rfl (fun K hK => ?_) AllReadyH.nil
            go_simp
            (go_at_call 22; (with_reducible refine Calls.mono HFd.out ?_); rintro e W' ⟨rfl, rfl⟩)
            go_wp2_with fail
            refine hK.out _ _ ?_ (fun hHeld => ?_)
            · (first | exact HC4.out | exact HC5.out | exact HC6.out)
            clear hK K
            try simp only [Act.put, List.setIfInBounds_toArray, List.set_cons_zero, List.set_cons_succ]
            refine wpAnyH_take (i := 7) (oi := { dst := some 119, op := Go.Op.binOp Go.BinOp.neq 3 (Go.Operand.tmp 116) (Go.Operand.tmp 118) 3, type := 4, pos := "law.go:98", after := #[{ on := 4, ground := Go.Ground.data }, { on := 6, ground := Go.Ground.data }, { on := 2, ground := Go.Ground.guard }], guard := some (2, false) }) (v := ?_) rfl (by kernel_rfl) (by kernel_rfl) (by kernel_rfl) (fun _ _ _ h => h) (Or.inl ⟨by rfl, ?_⟩) (by assumption) ?_
            rotate_left
            · intro w hSw
              (try dsimp only at hSw)
              go_simp
              try (with_reducible rfl)
            try simp only [Act.put, List.setIfInBounds_toArray, List.set_cons_zero, List.set_cons_succ]
            refine wpAnyH_take (i := 8) (oi := { dst := some 120, op := Go.Op.pick (Go.Operand.tmp 114) (Go.Operand.const (Go.Value.bool true)) (Go.Operand.tmp 119), type := 4, pos := "law.go:98", after := #[{ on := 2, ground := Go.Ground.data }, { on := 7, ground := Go.Ground.data }], guard := none }) (v := ?_) rfl (by kernel_rfl) (by kernel_rfl) (by kernel_rfl) (fun _ _ _ h => h) (Or.inl ⟨by rfl, ?_⟩) (by assumption) ?_
            rotate_left
            · intro w hSw
              (try dsimp only at hSw)
              go_simp
              try (with_reducible rfl)
            try simp only [Act.put, List.setIfInBounds_toArray, List.set_cons_zero, List.set_cons_succ]
            refine wpAnyH_take (i := 9) (oi := { dst := some 121, op := Go.Op.move (Go.Operand.tmp 120), type := 4, pos := "law.go:98", after := #[{ on := 8, ground := Go.Ground.data }, { on := 6, ground := Go.Ground.chain }], guard := none }) (v := ?_) rfl (by kernel_rfl) (by kernel_rfl) (by kernel_rfl) (fun _ _ _ h => h) (Or.inl ⟨by rfl, ?_⟩) (by assumption) ?_
            rotate_left
            · intro w hSw
              (try dsimp only at hSw)
              go_simp
              try (with_reducible rfl)
            try simp only [Act.put, List.setIfInBounds_toArray, List.set_cons_zero, List.set_cons_succ]
            refine wpAnyH_take (i := 10) (oi := { dst := some 122, op := Go.Op.move (Go.Operand.tmp 6), type := 24, pos := "law.go:98", after := #[{ on := 9, ground := Go.Ground.guard }], guard := some (9, false) }) (v := ?_) rfl (by kernel_rfl) (by kernel_rfl) (by kernel_rfl) (fun _ _ _ h => h) (Or.inl ⟨by rfl, ?_⟩) (by assumption) ?_
            rotate_left
            · intro w hSw
              (try dsimp only at hSw)
              go_simp
              try (with_reducible rfl)
            try simp only [Act.put, List.setIfInBounds_toArray, List.set_cons_zero, List.set_cons_succ]
            refine wpAnyH_take (i := 12) (oi := { dst := some 124, op := Go.Op.move (Go.Operand.tmp 8), type := 28, pos := "law.go:98", after := #[{ on := 9, ground := Go.Ground.guard }], guard := some (9, false) }) (v := ?_) rfl (by kernel_rfl) (by kernel_rfl) (by kernel_rfl) (fun _ _ _ h => h) (Or.inl ⟨by rfl, ?_⟩) (by assumption) ?_
            rotate_left
            · intro w hSw
              (try dsimp only at hSw)
              go_simp
              try (with_reducible rfl)
            try simp only [Act.put, List.setIfInBounds_toArray, List.set_cons_zero, List.set_cons_succ]
            refine wpAnyH_ready (rs := [11]) (by kernel_rfl) (by simp) ?_
            refine AllReadyH.cons (o := { dst := some 123, op := Go.Op.call { callee := Go.Callee.value (Go.Operand.func 23), args := #[Go.Operand.tmp 122], argTypes := #[24] }, type := 3, pos := "law.go:98", after := #[{ on := 10, ground := Go.Ground.data }, { on := 9, ground := Go.Ground.chain }, { on := 9, ground := Go.Ground.guard }], guard := some (9, false) }) rfl (fun K hK => ?_) AllReadyH.nil
            go_simp
            (go_at_call 23; (with_reducible refine Calls.mono HGp.out ?_); rintro e W5 ⟨rfl, -, hb5⟩; have Q5 := Lib.hid (Q4.out.below hb5); have HC5 := Lib.hid Q5.out.cells.2.2; clear hb5)
            go_wp2_with fail
            refine hK.out _ _ ?_ (fun hHeld => ?_)
            · (first | exact HC4.out | exact HC5.out | exact HC6.out)
            clear hK K
            try simp only [Act.put, List.setIfInBounds_toArray, List.set_cons_zero, List.set_cons_succ]
            refine wpAnyH_ready (rs := [13]) (by kernel_rfl) (by simp) ?_
            refine AllReadyH.cons (o := { dst := some 125, op := Go.Op.call { callee := Go.Callee.value (Go.Operand.func 24), args := #[Go.Operand.tmp 124], argTypes := #[28] }, type := 3, pos := "law.go:98", after := #[{ on := 12, ground := Go.Ground.data }, { on := 11, ground := Go.Ground.chain }, { on := 9, ground := Go.Ground.guard }], guard := some (9, false) }) rfl (fun K hK => ?_) AllReadyH.nil
            go_simp
            (go_at_call 24; (with_reducible refine Calls.mono (HGd.out W5 Q5.out) ?_); rintro e W6 ⟨rfl, hb6⟩; have Q6 := Lib.hid (Q5.out.below hb6); have HC6 := Lib.hid Q6.out.cells.2.2; clear hb6)
            go_wp2_with fail
            refine hK.out _ _ ?_ (fun hHeld => ?_)
            · (first | exact HC4.out | exact HC5.out | exact HC6.out)
            clear hK K
            try simp only [Act.put, List.setIfInBounds_toArray, List.set_cons_zero, List.set_cons_succ]
            refine wpAnyH_take (i := 14) (oi := { dst := some 126, op := Go.Op.binOp Go.BinOp.neq 3 (Go.Operand.tmp 123) (Go.Operand.tmp 125) 3, type := 4, pos := "law.go:98", after := #[{ on := 11, ground := Go.Ground.data }, { on := 13, ground := Go.Ground.data }, { on := 9, ground := Go.Ground.guard }], guard := some (9, false) }) (v := ?_) rfl (by kernel_rfl) (by kernel_rfl) (by kernel_rfl) (fun _ _ _ h => h) (Or.inl ⟨by rfl, ?_⟩) (by assumption) ?_
            rotate_left
            · intro w hSw
              (try dsimp only at hSw)
              go_simp
              try (with_reducible rfl)
            try simp only [Act.put, List.setIfInBounds_toArray, List.set_cons_zero, List.set_cons_succ]
            refine wpAnyH_take (i := 15) (oi := { dst := some 127, op := Go.Op.pick (Go.Operand.tmp 121) (Go.Operand.const (Go.Value.bool true)) (Go.Operand.tmp 126), type := 4, pos := "law.go:98", after := #[{ on := 9, ground := Go.Ground.data }, { on := 14, ground := Go.Ground.data }], guard := none }) (v := ?_) rfl (by kernel_rfl) (by kernel_rfl) (by kernel_rfl) (fun _ _ _ h => h) (Or.inl ⟨by rfl, ?_⟩) (by assumption) ?_
            rotate_left
            · intro w hSw
              (try dsimp only at hSw)
              go_simp
              try (with_reducible rfl)
            try simp only [Act.put, List.setIfInBounds_toArray, List.set_cons_zero, List.set_cons_succ]
            refine wpAnyH_take (i := 16) (oi := { dst := some 128, op := Go.Op.move (Go.Operand.tmp 127), type := 4, pos := "law.go:98", after := #[{ on := 15, ground := Go.Ground.data }, { on := 13, ground := Go.Ground.chain }], guard := none }) (v := ?_) rfl (by kernel_rfl) (by kernel_rfl) (by kernel_rfl) (fun _ _ _ h => h) (Or.inl ⟨by rfl, ?_⟩) (by assumption) ?_
            rotate_left
            · intro w hSw
              (try dsimp only at hSw)
              go_simp
              try (with_reducible rfl)
            try simp only [Act.put, List.setIfInBounds_toArray, List.set_cons_zero, List.set_cons_succ]
            refine wpAnyH_take (i := 17) (oi := { dst := some 129, op := Go.Op.move (Go.Operand.tmp 6), type := 24, pos := "law.go:98", after := #[{ on := 16, ground := Go.Ground.guard }], guard := some (16, false) }) (v := ?_) rfl (by kernel_rfl) (by kernel_rfl) (by kernel_rfl) (fun _ _ _ h => h) (Or.inl ⟨by rfl, ?_⟩) (by assumption) ?_
            rotate_left
            · intro w hSw
              (try dsimp only at hSw)
              go_simp
              try (with_reducible rfl)
            try simp only [Act.put, List.setIfInBounds_toArray, List.set_cons_zero, List.set_cons_succ]
            refine wpAnyH_take (i := 18) (oi := { dst := some 130, op := Go.Op.fieldAddr 32 (Go.Operand.tmp 11) 2, type := 0, pos := "law.go:98", after := #[{ on := 16, ground := Go.Ground.guard }], guard := some (16, false) }) (v := ?_) rfl (by kernel_rfl) (by kernel_rfl) (by kernel_rfl) (fun _ _ _ h => h) (Or.inl ⟨by rfl, ?_⟩) (by assumption) ?_
            rotate_left
            · intro w hSw
              (try dsimp only at hSw)
              go_simp
              try (with_reducible rfl)
            try simp only [Act.put, List.setIfInBounds_toArray, List.set_cons_zero, List.set_cons_succ]
            refine wpAnyH_take (i := 19) (oi := { dst := some 131, op := Go.Op.load 3 (Go.Operand.tmp 130), type := 3, pos := "law.go:98", after := #[{ on := 18, ground := Go.Ground.data }, { on := 16, ground := Go.Ground.guard }], guard := some (16, false) }) (v := ?_) rfl (by kernel_rfl) (by kernel_rfl) (by kernel_rfl) (fun _ _ _ h => h) (Or.inl ⟨by rfl, ?_⟩) (by assumption) ?_
            rotate_left
            · intro w hSw
              (try dsimp only at hSw)
              go_simp
              try (with_reducible rfl)
            try simp only [Act.put, List.setIfInBounds_toArray, List.set_cons_zero, List.set_cons_succ]
            refine wpAnyH_take (i := 21) (oi := { dst := some 133, op := Go.Op.move (Go.Operand.tmp 8), type := 28, pos := "law.go:98", after := #[{ on := 16, ground := Go.Ground.guard }], guard := some (16, false) }) (v := ?_) rfl (by kernel_rfl) (by kernel_rfl) (by kernel_rfl) (fun _ _ _ h => h) (Or.inl ⟨by rfl, ?_⟩) (by assumption) ?_
            rotate_left
            · intro w hSw
              (try dsimp only at hSw)
              go_simp
              try (with_reducible rfl)
            try simp only [Act.put, List.setIfInBounds_toArray, List.set_cons_zero, List.set_cons_succ]
            refine wpAnyH_take (i := 22) (oi := { dst := some 134, op := Go.Op.fieldAddr 32 (Go.Operand.tmp 11) 2, type := 0, pos := "law.go:98", after := #[{ on := 16, ground := Go.Ground.guard }], guard := some (16, false) }) (v := ?_) rfl (by kernel_rfl) (by kernel_rfl) (by kernel_rfl) (fun _ _ _ h => h) (Or.inl ⟨by rfl, ?_⟩) (by assumption) ?_
            rotate_left
            · intro w hSw
              (try dsimp only at hSw)
              go_simp
              try (with_reducible rfl)
            try simp only [Act.put, List.setIfInBounds_toArray, List.set_cons_zero, List.set_cons_succ]
            refine wpAnyH_take (i := 23) (oi := { dst := some 135, op := Go.Op.load 3 (Go.Operand.tmp 134), type := 3, pos := "law.go:98", after := #[{ on := 22, ground := Go.Ground.data }, { on := 16, ground := Go.Ground.guard }], guard := some (16, false) }) (v := ?_) rfl (by kernel_rfl) (by kernel_rfl) (by kernel_rfl) (fun _ _ _ h => h) (Or.inl ⟨by rfl, ?_⟩) (by assumption) ?_
            rotate_left
            · intro w hSw
              (try dsimp only at hSw)
              go_simp
              try (with_reducible rfl)
            try simp only [Act.put, List.setIfInBounds_toArray, List.set_cons_zero, List.set_cons_succ]
            refine wpAnyH_ready (rs := [20]) (by kernel_rfl) (by simp) ?_
            refine AllReadyH.cons (o := { dst := some 132, op := Go.Op.call { callee := Go.Callee.value (Go.Operand.func 17), args := #[Go.Operand.tmp 129, Go.Operand.tmp 131], argTypes := #[24, 3] }, type := 3, pos := "law.go:98", after := #[{ on := 17, ground := Go.Ground.data }, { on := 19, ground := Go.Ground.data }, { on := 16, ground := Go.Ground.chain }, { on := 16, ground := Go.Ground.guard }], guard := some (16, false) }) rfl (fun K hK => ?_) AllReadyH.nil
            go_simp
            (go_at_call 17; (with_reducible refine Calls.mono (HOp.out W6 Q6.out) ?_); rintro e W' ⟨rfl, rfl⟩)
            go_wp2_with fail
            refine hK.out _ _ ?_ (fun hHeld => ?_)
            · (first | exact HC4.out | exact HC5.out | exact HC6.out)
            clear hK K
            try simp only [Act.put, List.setIfInBounds_toArray, List.set_cons_zero, List.set_cons_succ]
            refine wpAnyH_ready (rs := [24]) (by kernel_rfl) (by simp) ?_
            refine AllReadyH.cons (o := { dst := some 136, op := Go.Op.call { callee := Go.Callee.value (Go.Operand.func 18), args := #[Go.Operand.tmp 133, Go.Operand.tmp 135], argTypes := #[28, 3] }, type := 3, pos := "law.go:98", after := #[{ on := 21, ground := Go.Ground.data }, { on := 23, ground := Go.Ground.data }, { on := 20, ground := Go.Ground.chain }, { on := 16, ground := Go.Ground.guard }], guard := some (16, false) }) rfl (fun K hK => ?_) AllReadyH.nil
            go_simp
            (go_at_call 18; (with_reducible refine Calls.mono (HOd.out W6 Q6.out) ?_); rintro e W' ⟨rfl, rfl⟩)
            go_wp2_with fail
            refine hK.out _ _ ?_ (fun hHeld => ?_)
            · (first | exact HC4.out | exact HC5.out | exact HC6.out)
            clear hK K
            try simp only [Act.put, List.setIfInBounds_toArray, List.set_cons_zero, List.set_cons_succ]
            refine wpAnyH_take (i := 25) (oi := { dst := some 137, op := Go.Op.binOp Go.BinOp.neq 3 (Go.Operand.tmp 132) (Go.Operand.tmp 136) 3, type := 4, pos := "law.go:98", after := #[{ on := 20, ground := Go.Ground.data }, { on := 24, ground := Go.Ground.data }, { on := 16, ground := Go.Ground.guard }], guard := some (16, false) }) (v := ?_) rfl (by kernel_rfl) (by kernel_rfl) (by kernel_rfl) (fun _ _ _ h => h) (Or.inl ⟨by rfl, ?_⟩) (by assumption) ?_
            rotate_left
            · intro w hSw
              (try dsimp only at hSw)
              go_simp
              try (with_reducible rfl)
            try simp only [Act.put, List.setIfInBounds_toArray, List.set_cons_zero, List.set_cons_succ]
            refine wpAnyH_take (i := 26) (oi := { dst := some 138, op := Go.Op.pick (Go.Operand.tmp 128) (Go.Operand.const (Go.Value.bool true)) (Go.Operand.tmp 137), type := 4, pos := "law.go:98", after := #[{ on := 16, ground := Go.Ground.data }, { on := 25, ground := Go.Ground.data }], guard := none }) (v := ?_) rfl (by kernel_rfl) (by kernel_rfl) (by kernel_rfl) (fun _ _ _ h => h) (Or.inl ⟨by rfl, ?_⟩) (by assumption) ?_
            rotate_left
            · intro w hSw
              (try dsimp only at hSw)
              go_simp
              try (with_reducible rfl)
            try simp only [Act.put, List.setIfInBounds_toArray, List.set_cons_zero, List.set_cons_succ]
            refine wpAnyH_done (by kernel_rfl) ?_ _
            go_wp2
            go_roundw
            case rel => exact ⟨i + 1, L', by go_num, h1, h2, Lib.hid Q6.out.p⟩
            case measure => simp [intOf]; omega
          | false =>
            have HG1 := as_take hN16 HX3.out.p.a xn
            have HG2 := fun W (h : P2 x1 W D r bm bn D N (tkF N L xn).2.2 L) => rtake_all D D N hN16 L HI.out xn W h.s6 h.d
            have HBd := tk_bd hN16 HI.out xn
            obtain ⟨Y, hY⟩ : ∃ Y, tkF N L xn = Y := ⟨_, rfl⟩
            rw [hY] at HG1 HG2 HBd
            obtain ⟨xp, xe, L'⟩ := Y
            dsimp only at HG1 HG2 HBd
            have HG1 := Lib.hid HG1
            have HG2 := Lib.hid HG2
            have HBd := Lib.hid HBd
            have dx : (xp != xp) = false := by simp
            have de : (xe != xe) = false := by simp
            clear hY
            go_wp2_with fail
            refine Calls.mono HG1.out ?_
            rintro e Wc ⟨rfl, hAc, htc⟩
            have Xc := Lib.hid (HX3.out.tou hAc htc)
            clear hAc htc
            obtain ⟨u0, u1, u2⟩ := Xc.out.cells
            go_wp2_with fail
            refine Calls.mono (HG2.out Wc Xc.out.p) ?_
            rintro e Wd ⟨rfl, hDd, hgd⟩
            have Q0 := Lib.hid (Xc.out.doc hDd hgd)
            have HO1 := porder_any r bm bn N L' xp (by have := HBd.out; omega) (by have := HBd.out; omega) Wd Q0.out.p.a.ar
            have HO2 := orderAt_any D N L' (Q0.out.sml hN16) xp Wd Q0.out.p.d.ard
            obtain ⟨OX, hOX⟩ : ∃ O : Int, ordS L' xp = O := ⟨_, rfl⟩
            rw [hOX] at HO1 HO2
            have HO1 := Lib.hid HO1
            have HO2 := Lib.hid HO2
            have dOX : (OX != OX) = false := by simp
            clear hDd hgd hOX u0 u1 u2
            go_wp2_with fail
            refine Calls.mono HO1.out ?_
            rintro e W' ⟨rfl, rfl⟩
            go_wp2_with fail
            refine Calls.mono HO2.out ?_
            rintro e W' ⟨rfl, rfl⟩
            obtain ⟨m, hm⟩ : ∃ m, L'.length = m := ⟨_, rfl⟩
            have hm7 : m ≤ 70000 := by rw [← hm]; exact (Q0.out.sml hN16).1
            have HTk := Lib.hid (as_taken hN16 Q0.out.p.a hm)
            have HTd := Lib.hid (fun W (h : P3 x1 W D r bm bn D N L' L' xb false xr xn) => rtaken_all D N L' (h.sml hN16) W h.p.d hm)
            clear hm
            go_wp2_with fail
            refine Calls.mono HTk.out ?_
            rintro e W1 ⟨A1, c1', rfl, hR1, hb1, -, -⟩
            have Q1 := Lib.hid (Q0.out.below hb1)
            have R1 := Lib.hid hR1
            clear hR1 hb1
            go_wp2_with fail
            refine Calls.mono (HTd.out W1 Q1.out) ?_
            rintro e W2 ⟨A2, c2', rfl, hR2, hb2⟩
            have Q2 := Lib.hid (Q1.out.below hb2)
            have R2 := Lib.hid hR2
            have R1' := Lib.hid (R1.out.below hb2)
            clear hR2 hb2
            go_wp2_with fail
            refine Calls.mono (same_any _ m c1' A1 (ats L') _ m c2' A2 (ats L') hm7 W2 R1'.out R2.out) ?_
            rintro e W3 ⟨rfl, hb3⟩
            have Q3 := Lib.hid (Q2.out.below hb3)
            have Q4 := Lib.hid (Q3.out.below (Below.refl _ _).drew)
            have HC4 := Lib.hid Q3.out.cells.2.2
            rw [show decide (ats L' = ats L') = true from decide_eq_true rfl]
            obtain ⟨F, hF⟩ : ∃ F : Int, ((2 ^ N - sumB L' : Nat) : Int) = F := ⟨_, rfl⟩
            obtain ⟨G, hG⟩ : ∃ G : Int, grS (fre L' N 0) = G := ⟨_, rfl⟩
            obtain ⟨O, hO⟩ : ∃ O : Int, ordS L' xn = O := ⟨_, rfl⟩
            have HF := pfree_any r bm bn N L' _ Q4.out.p.a.ar
            have HFd := freeN_any D N hN16 L' (Q4.out.sml hN16) (sumB_le Q4.out.p.a.ar.inv) _ Q4.out.p.d.ard
            have HGp := as_great hN16 Q4.out.p.a
            have HGd := fun W (h : P3 x1 W D r bm bn D N L' L' xb false xr xn) => greatest_any D N hN16 L' (h.sml hN16) W h.p.d.ard
            have HOp := fun W (h : P3 x1 W D r bm bn D N L' L' xb false xr xn) => porder_any r bm bn N L' xn hw.1 hw.2 W h.p.a.ar
            have HOd := fun W (h : P3 x1 W D r bm bn D N L' L' xb false xr xn) => orderAt_any D N L' (h.sml hN16) xn W h.p.d.ard
            simp only [hF] at HF HFd
            simp only [hG] at HGp HGd
            simp only [hO] at HOp HOd
            have HF := Lib.hid HF
            have HFd := Lib.hid HFd
            have HGp := Lib.hid HGp
            have HGd := Lib.hid HGd
            have HOp := Lib.hid HOp
            have HOd := Lib.hid HOd
            have dF : (F != F) = false := by simp
            have dG : (G != G) = false := by simp
            have dO : (O != O) = false := by simp
            clear hb3 hF hG hO
            go_wp2
            refine wp_region_held_drew (S := (fun W => W.cell? ⟨xb, 2, none⟩ = some (.int .i64 xn))) (by kernel_rfl) ?_ (fun hHeld => ?_)
            · (first | exact HC4.out | exact HC5.out | exact HC6.out)
            refine wpAnyH_take (i := 0) (oi := { dst := some 112, op := Go.Op.move (Go.Operand.tmp 19), type := 4, pos := "law.go:98", after := #[], guard := none }) (v := ?_) rfl (by kernel_rfl) (by kernel_rfl) (by kernel_rfl) (fun _ _ _ h => h) (Or.inl ⟨by rfl, ?_⟩) (by assumption) ?_
            rotate_left
            · intro w hSw
              (try dsimp only at hSw)
              go_simp
              try (with_reducible rfl)
            try simp only [Act.put, List.setIfInBounds_toArray, List.set_cons_zero, List.set_cons_succ]
            refine wpAnyH_take (i := 1) (oi := { dst := some 113, op := Go.Op.unOp Go.UnOp.not 4 (Go.Operand.tmp 112), type := 4, pos := "law.go:98", after := #[{ on := 0, ground := Go.Ground.data }], guard := none }) (v := ?_) rfl (by kernel_rfl) (by kernel_rfl) (by kernel_rfl) (fun _ _ _ h => h) (Or.inl ⟨by rfl, ?_⟩) (by assumption) ?_
            rotate_left
            · intro w hSw
              (try dsimp only at hSw)
              go_simp
              try (with_reducible rfl)
            try simp only [Act.put, List.setIfInBounds_toArray, List.set_cons_zero, List.set_cons_succ]
            refine wpAnyH_take (i := 2) (oi := { dst := some 114, op := Go.Op.move (Go.Operand.tmp 113), type := 4, pos := "law.go:98", after := #[{ on := 1, ground := Go.Ground.data }], guard := none }) (v := ?_) rfl (by kernel_rfl) (by kernel_rfl) (by kernel_rfl) (fun _ _ _ h => h) (Or.inl ⟨by rfl, ?_⟩) (by assumption) ?_
            rotate_left
            · intro w hSw
              (try dsimp only at hSw)
              go_simp
              try (with_reducible rfl)
            try simp only [Act.put, List.setIfInBounds_toArray, List.set_cons_zero, List.set_cons_succ]
            refine wpAnyH_take (i := 3) (oi := { dst := some 115, op := Go.Op.move (Go.Operand.tmp 6), type := 24, pos := "law.go:98", after := #[{ on := 2, ground := Go.Ground.guard }], guard := some (2, false) }) (v := ?_) rfl (by kernel_rfl) (by kernel_rfl) (by kernel_rfl) (fun _ _ _ h => h) (Or.inl ⟨by rfl, ?_⟩) (by assumption) ?_
            rotate_left
            · intro w hSw
              (try dsimp only at hSw)
              go_simp
              try (with_reducible rfl)
            try simp only [Act.put, List.setIfInBounds_toArray, List.set_cons_zero, List.set_cons_succ]
            refine wpAnyH_take (i := 5) (oi := { dst := some 117, op := Go.Op.move (Go.Operand.tmp 8), type := 28, pos := "law.go:98", after := #[{ on := 2, ground := Go.Ground.guard }], guard := some (2, false) }) (v := ?_) rfl (by kernel_rfl) (by kernel_rfl) (by kernel_rfl) (fun _ _ _ h => h) (Or.inl ⟨by rfl, ?_⟩) (by assumption) ?_
            rotate_left
            · intro w hSw
              (try dsimp only at hSw)
              go_simp
              try (with_reducible rfl)
            try simp only [Act.put, List.setIfInBounds_toArray, List.set_cons_zero, List.set_cons_succ]
            refine wpAnyH_ready (rs := [4]) (by kernel_rfl) (by simp) ?_
            refine AllReadyH.cons (o := { dst := some 116, op := Go.Op.call { callee := Go.Callee.value (Go.Operand.func 21), args := #[Go.Operand.tmp 115], argTypes := #[24] }, type := 3, pos := "law.go:98", after := #[{ on := 3, ground := Go.Ground.data }, { on := 2, ground := Go.Ground.chain }, { on := 2, ground := Go.Ground.guard }], guard := some (2, false) }) rfl (fun K hK => ?_) AllReadyH.nil
            go_simp
            (go_at_call 21; (with_reducible refine Calls.mono HF.out ?_); rintro e W' ⟨rfl, rfl⟩)
            go_wp2_with fail
            refine hK.out _ _ ?_ (fun hHeld => ?_)
            · (first | exact HC4.out | exact HC5.out | exact HC6.out)
            clear hK K
            try simp only [Act.put, List.setIfInBounds_toArray, List.set_cons_zero, List.set_cons_succ]
            refine wpAnyH_ready (rs := [6]) (by kernel_rfl) (by simp) ?_
            refine AllReadyH.cons (o := { dst := some 118, op := Go.Op.call { callee := Go.Callee.value (Go.Operand.func 22), args := #[Go.Operand.tmp 117], argTypes := #[28] }, type := 3, pos := "law.go:98", after := #[{ on := 5, ground := Go.Ground.data }, { on := 4, ground := Go.Ground.chain }, { on := 2, ground := Go.Ground.guard }], guard := some (2, false) }) rfl (fun K hK => ?_) AllReadyH.nil
            go_simp
            (go_at_call 22; (with_reducible refine Calls.mono HFd.out ?_); rintro e W' ⟨rfl, rfl⟩)
            go_wp2_with fail
            refine hK.out _ _ ?_ (fun hHeld => ?_)
            · (first | exact HC4.out | exact HC5.out | exact HC6.out)
            clear hK K
            try simp only [Act.put, List.setIfInBounds_toArray, List.set_cons_zero, List.set_cons_succ]
            refine wpAnyH_take (i := 7) (oi := { dst := some 119, op := Go.Op.binOp Go.BinOp.neq 3 (Go.Operand.tmp 116) (Go.Operand.tmp 118) 3, type := 4, pos := "law.go:98", after := #[{ on := 4, ground := Go.Ground.data }, { on := 6, ground := Go.Ground.data }, { on := 2, ground := Go.Ground.guard }], guard := some (2, false) }) (v := ?_) rfl (by kernel_rfl) (by kernel_rfl) (by kernel_rfl) (fun _ _ _ h => h) (Or.inl ⟨by rfl, ?_⟩) (by assumption) ?_
            rotate_left
            · intro w hSw
              (try dsimp only at hSw)
              go_simp
              try (with_reducible rfl)
            try simp only [Act.put, List.setIfInBounds_toArray, List.set_cons_zero, List.set_cons_succ]
            refine wpAnyH_take (i := 8) (oi := { dst := some 120, op := Go.Op.pick (Go.Operand.tmp 114) (Go.Operand.const (Go.Value.bool true)) (Go.Operand.tmp 119), type := 4, pos := "law.go:98", after := #[{ on := 2, ground := Go.Ground.data }, { on := 7, ground := Go.Ground.data }], guard := none }) (v := ?_) rfl (by kernel_rfl) (by kernel_rfl) (by kernel_rfl) (fun _ _ _ h => h) (Or.inl ⟨by rfl, ?_⟩) (by assumption) ?_
            rotate_left
            · intro w hSw
              (try dsimp only at hSw)
              go_simp
              try (with_reducible rfl)
            try simp only [Act.put, List.setIfInBounds_toArray, List.set_cons_zero, List.set_cons_succ]
            refine wpAnyH_take (i := 9) (oi := { dst := some 121, op := Go.Op.move (Go.Operand.tmp 120), type := 4, pos := "law.go:98", after := #[{ on := 8, ground := Go.Ground.data }, { on := 6, ground := Go.Ground.chain }], guard := none }) (v := ?_) rfl (by kernel_rfl) (by kernel_rfl) (by kernel_rfl) (fun _ _ _ h => h) (Or.inl ⟨by rfl, ?_⟩) (by assumption) ?_
            rotate_left
            · intro w hSw
              (try dsimp only at hSw)
              go_simp
              try (with_reducible rfl)
            try simp only [Act.put, List.setIfInBounds_toArray, List.set_cons_zero, List.set_cons_succ]
            refine wpAnyH_take (i := 10) (oi := { dst := some 122, op := Go.Op.move (Go.Operand.tmp 6), type := 24, pos := "law.go:98", after := #[{ on := 9, ground := Go.Ground.guard }], guard := some (9, false) }) (v := ?_) rfl (by kernel_rfl) (by kernel_rfl) (by kernel_rfl) (fun _ _ _ h => h) (Or.inl ⟨by rfl, ?_⟩) (by assumption) ?_
            rotate_left
            · intro w hSw
              (try dsimp only at hSw)
              go_simp
              try (with_reducible rfl)
            try simp only [Act.put, List.setIfInBounds_toArray, List.set_cons_zero, List.set_cons_succ]
            refine wpAnyH_take (i := 12) (oi := { dst := some 124, op := Go.Op.move (Go.Operand.tmp 8), type := 28, pos := "law.go:98", after := #[{ on := 9, ground := Go.Ground.guard }], guard := some (9, false) }) (v := ?_) rfl (by kernel_rfl) (by kernel_rfl) (by kernel_rfl) (fun _ _ _ h => h) (Or.inl ⟨by rfl, ?_⟩) (by assumption) ?_
            rotate_left
            · intro w hSw
              (try dsimp only at hSw)
              go_simp
              try (with_reducible rfl)
            try simp only [Act.put, List.setIfInBounds_toArray, List.set_cons_zero, List.set_cons_succ]
            refine wpAnyH_ready (rs := [11]) (by kernel_rfl) (by simp) ?_
            refine AllReadyH.cons (o := { dst := some 123, op := Go.Op.call { callee := Go.Callee.value (Go.Operand.func 23), args := #[Go.Operand.tmp 122], argTypes := #[24] }, type := 3, pos := "law.go:98", after := #[{ on := 10, ground := Go.Ground.data }, { on := 9, ground := Go.Ground.chain }, { on := 9, ground := Go.Ground.guard }], guard := some (9, false) }) rfl (fun K hK => ?_) AllReadyH.nil
            go_simp
            (go_at_call 23; (with_reducible refine Calls.mono HGp.out ?_); rintro e W5 ⟨rfl, -, hb5⟩; have Q5 := Lib.hid (Q4.out.below hb5); have HC5 := Lib.hid Q5.out.cells.2.2; clear hb5)
            go_wp2_with fail
            refine hK.out _ _ ?_ (fun hHeld => ?_)
            · (first | exact HC4.out | exact HC5.out | exact HC6.out)
            clear hK K
            try simp only [Act.put, List.setIfInBounds_toArray, List.set_cons_zero, List.set_cons_succ]
            refine wpAnyH_ready (rs := [13]) (by kernel_rfl) (by simp) ?_
            refine AllReadyH.cons (o := { dst := some 125, op := Go.Op.call { callee := Go.Callee.value (Go.Operand.func 24), args := #[Go.Operand.tmp 124], argTypes := #[28] }, type := 3, pos := "law.go:98", after := #[{ on := 12, ground := Go.Ground.data }, { on := 11, ground := Go.Ground.chain }, { on := 9, ground := Go.Ground.guard }], guard := some (9, false) }) rfl (fun K hK => ?_) AllReadyH.nil
            go_simp
            (go_at_call 24; (with_reducible refine Calls.mono (HGd.out W5 Q5.out) ?_); rintro e W6 ⟨rfl, hb6⟩; have Q6 := Lib.hid (Q5.out.below hb6); have HC6 := Lib.hid Q6.out.cells.2.2; clear hb6)
            go_wp2_with fail
            refine hK.out _ _ ?_ (fun hHeld => ?_)
            · (first | exact HC4.out | exact HC5.out | exact HC6.out)
            clear hK K
            try simp only [Act.put, List.setIfInBounds_toArray, List.set_cons_zero, List.set_cons_succ]
            refine wpAnyH_take (i := 14) (oi := { dst := some 126, op := Go.Op.binOp Go.BinOp.neq 3 (Go.Operand.tmp 123) (Go.Operand.tmp 125) 3, type := 4, pos := "law.go:98", after := #[{ on := 11, ground := Go.Ground.data }, { on := 13, ground := Go.Ground.data }, { on := 9, ground := Go.Ground.guard }], guard := some (9, false) }) (v := ?_) rfl (by kernel_rfl) (by kernel_rfl) (by kernel_rfl) (fun _ _ _ h => h) (Or.inl ⟨by rfl, ?_⟩) (by assumption) ?_
            rotate_left
            · intro w hSw
              (try dsimp only at hSw)
              go_simp
              try (with_reducible rfl)
            try simp only [Act.put, List.setIfInBounds_toArray, List.set_cons_zero, List.set_cons_succ]
            refine wpAnyH_take (i := 15) (oi := { dst := some 127, op := Go.Op.pick (Go.Operand.tmp 121) (Go.Operand.const (Go.Value.bool true)) (Go.Operand.tmp 126), type := 4, pos := "law.go:98", after := #[{ on := 9, ground := Go.Ground.data }, { on := 14, ground := Go.Ground.data }], guard := none }) (v := ?_) rfl (by kernel_rfl) (by kernel_rfl) (by kernel_rfl) (fun _ _ _ h => h) (Or.inl ⟨by rfl, ?_⟩) (by assumption) ?_
            rotate_left
            · intro w hSw
              (try dsimp only at hSw)
              go_simp
              try (with_reducible rfl)
            try simp only [Act.put, List.setIfInBounds_toArray, List.set_cons_zero, List.set_cons_succ]
            refine wpAnyH_take (i := 16) (oi := { dst := some 128, op := Go.Op.move (Go.Operand.tmp 127), type := 4, pos := "law.go:98", after := #[{ on := 15, ground := Go.Ground.data }, { on := 13, ground := Go.Ground.chain }], guard := none }) (v := ?_) rfl (by kernel_rfl) (by kernel_rfl) (by kernel_rfl) (fun _ _ _ h => h) (Or.inl ⟨by rfl, ?_⟩) (by assumption) ?_
            rotate_left
            · intro w hSw
              (try dsimp only at hSw)
              go_simp
              try (with_reducible rfl)
            try simp only [Act.put, List.setIfInBounds_toArray, List.set_cons_zero, List.set_cons_succ]
            refine wpAnyH_take (i := 17) (oi := { dst := some 129, op := Go.Op.move (Go.Operand.tmp 6), type := 24, pos := "law.go:98", after := #[{ on := 16, ground := Go.Ground.guard }], guard := some (16, false) }) (v := ?_) rfl (by kernel_rfl) (by kernel_rfl) (by kernel_rfl) (fun _ _ _ h => h) (Or.inl ⟨by rfl, ?_⟩) (by assumption) ?_
            rotate_left
            · intro w hSw
              (try dsimp only at hSw)
              go_simp
              try (with_reducible rfl)
            try simp only [Act.put, List.setIfInBounds_toArray, List.set_cons_zero, List.set_cons_succ]
            refine wpAnyH_take (i := 18) (oi := { dst := some 130, op := Go.Op.fieldAddr 32 (Go.Operand.tmp 11) 2, type := 0, pos := "law.go:98", after := #[{ on := 16, ground := Go.Ground.guard }], guard := some (16, false) }) (v := ?_) rfl (by kernel_rfl) (by kernel_rfl) (by kernel_rfl) (fun _ _ _ h => h) (Or.inl ⟨by rfl, ?_⟩) (by assumption) ?_
            rotate_left
            · intro w hSw
              (try dsimp only at hSw)
              go_simp
              try (with_reducible rfl)
            try simp only [Act.put, List.setIfInBounds_toArray, List.set_cons_zero, List.set_cons_succ]
            refine wpAnyH_take (i := 19) (oi := { dst := some 131, op := Go.Op.load 3 (Go.Operand.tmp 130), type := 3, pos := "law.go:98", after := #[{ on := 18, ground := Go.Ground.data }, { on := 16, ground := Go.Ground.guard }], guard := some (16, false) }) (v := ?_) rfl (by kernel_rfl) (by kernel_rfl) (by kernel_rfl) (fun _ _ _ h => h) (Or.inl ⟨by rfl, ?_⟩) (by assumption) ?_
            rotate_left
            · intro w hSw
              (try dsimp only at hSw)
              go_simp
              try (with_reducible rfl)
            try simp only [Act.put, List.setIfInBounds_toArray, List.set_cons_zero, List.set_cons_succ]
            refine wpAnyH_take (i := 21) (oi := { dst := some 133, op := Go.Op.move (Go.Operand.tmp 8), type := 28, pos := "law.go:98", after := #[{ on := 16, ground := Go.Ground.guard }], guard := some (16, false) }) (v := ?_) rfl (by kernel_rfl) (by kernel_rfl) (by kernel_rfl) (fun _ _ _ h => h) (Or.inl ⟨by rfl, ?_⟩) (by assumption) ?_
            rotate_left
            · intro w hSw
              (try dsimp only at hSw)
              go_simp
              try (with_reducible rfl)
            try simp only [Act.put, List.setIfInBounds_toArray, List.set_cons_zero, List.set_cons_succ]
            refine wpAnyH_take (i := 22) (oi := { dst := some 134, op := Go.Op.fieldAddr 32 (Go.Operand.tmp 11) 2, type := 0, pos := "law.go:98", after := #[{ on := 16, ground := Go.Ground.guard }], guard := some (16, false) }) (v := ?_) rfl (by kernel_rfl) (by kernel_rfl) (by kernel_rfl) (fun _ _ _ h => h) (Or.inl ⟨by rfl, ?_⟩) (by assumption) ?_
            rotate_left
            · intro w hSw
              (try dsimp only at hSw)
              go_simp
              try (with_reducible rfl)
            try simp only [Act.put, List.setIfInBounds_toArray, List.set_cons_zero, List.set_cons_succ]
            refine wpAnyH_take (i := 23) (oi := { dst := some 135, op := Go.Op.load 3 (Go.Operand.tmp 134), type := 3, pos := "law.go:98", after := #[{ on := 22, ground := Go.Ground.data }, { on := 16, ground := Go.Ground.guard }], guard := some (16, false) }) (v := ?_) rfl (by kernel_rfl) (by kernel_rfl) (by kernel_rfl) (fun _ _ _ h => h) (Or.inl ⟨by rfl, ?_⟩) (by assumption) ?_
            rotate_left
            · intro w hSw
              (try dsimp only at hSw)
              go_simp
              try (with_reducible rfl)
            try simp only [Act.put, List.setIfInBounds_toArray, List.set_cons_zero, List.set_cons_succ]
            refine wpAnyH_ready (rs := [20]) (by kernel_rfl) (by simp) ?_
            refine AllReadyH.cons (o := { dst := some 132, op := Go.Op.call { callee := Go.Callee.value (Go.Operand.func 17), args := #[Go.Operand.tmp 129, Go.Operand.tmp 131], argTypes := #[24, 3] }, type := 3, pos := "law.go:98", after := #[{ on := 17, ground := Go.Ground.data }, { on := 19, ground := Go.Ground.data }, { on := 16, ground := Go.Ground.chain }, { on := 16, ground := Go.Ground.guard }], guard := some (16, false) }) rfl (fun K hK => ?_) AllReadyH.nil
            go_simp
            (go_at_call 17; (with_reducible refine Calls.mono (HOp.out W6 Q6.out) ?_); rintro e W' ⟨rfl, rfl⟩)
            go_wp2_with fail
            refine hK.out _ _ ?_ (fun hHeld => ?_)
            · (first | exact HC4.out | exact HC5.out | exact HC6.out)
            clear hK K
            try simp only [Act.put, List.setIfInBounds_toArray, List.set_cons_zero, List.set_cons_succ]
            refine wpAnyH_ready (rs := [24]) (by kernel_rfl) (by simp) ?_
            refine AllReadyH.cons (o := { dst := some 136, op := Go.Op.call { callee := Go.Callee.value (Go.Operand.func 18), args := #[Go.Operand.tmp 133, Go.Operand.tmp 135], argTypes := #[28, 3] }, type := 3, pos := "law.go:98", after := #[{ on := 21, ground := Go.Ground.data }, { on := 23, ground := Go.Ground.data }, { on := 20, ground := Go.Ground.chain }, { on := 16, ground := Go.Ground.guard }], guard := some (16, false) }) rfl (fun K hK => ?_) AllReadyH.nil
            go_simp
            (go_at_call 18; (with_reducible refine Calls.mono (HOd.out W6 Q6.out) ?_); rintro e W' ⟨rfl, rfl⟩)
            go_wp2_with fail
            refine hK.out _ _ ?_ (fun hHeld => ?_)
            · (first | exact HC4.out | exact HC5.out | exact HC6.out)
            clear hK K
            try simp only [Act.put, List.setIfInBounds_toArray, List.set_cons_zero, List.set_cons_succ]
            refine wpAnyH_take (i := 25) (oi := { dst := some 137, op := Go.Op.binOp Go.BinOp.neq 3 (Go.Operand.tmp 132) (Go.Operand.tmp 136) 3, type := 4, pos := "law.go:98", after := #[{ on := 20, ground := Go.Ground.data }, { on := 24, ground := Go.Ground.data }, { on := 16, ground := Go.Ground.guard }], guard := some (16, false) }) (v := ?_) rfl (by kernel_rfl) (by kernel_rfl) (by kernel_rfl) (fun _ _ _ h => h) (Or.inl ⟨by rfl, ?_⟩) (by assumption) ?_
            rotate_left
            · intro w hSw
              (try dsimp only at hSw)
              go_simp
              try (with_reducible rfl)
            try simp only [Act.put, List.setIfInBounds_toArray, List.set_cons_zero, List.set_cons_succ]
            refine wpAnyH_take (i := 26) (oi := { dst := some 138, op := Go.Op.pick (Go.Operand.tmp 128) (Go.Operand.const (Go.Value.bool true)) (Go.Operand.tmp 137), type := 4, pos := "law.go:98", after := #[{ on := 16, ground := Go.Ground.data }, { on := 25, ground := Go.Ground.data }], guard := none }) (v := ?_) rfl (by kernel_rfl) (by kernel_rfl) (by kernel_rfl) (fun _ _ _ h => h) (Or.inl ⟨by rfl, ?_⟩) (by assumption) ?_
            rotate_left
            · intro w hSw
              (try dsimp only at hSw)
              go_simp
              try (with_reducible rfl)
            try simp only [Act.put, List.setIfInBounds_toArray, List.set_cons_zero, List.set_cons_succ]
            refine wpAnyH_done (by kernel_rfl) ?_ _
            go_wp2
            go_roundw
            case rel => exact ⟨i + 1, L', by go_num, h1, h2, Lib.hid Q6.out.p⟩
            case measure => simp [intOf]; omega
        · have h2I : ¬ (i : Int) < 120 := by omega
          go_wp2
          go_ret
          exact ⟨rfl, B1.out.trans (hW.out.a.bel.mono B1.out.size)⟩
      · have h1I : ¬ (i : Int) < (l1 : Int) := by omega
        go_wp2
        go_ret
        exact ⟨rfl, B1.out.trans (hW.out.a.bel.mono B1.out.size)⟩
set_option maxRecDepth 100000 in
theorem contract (H : Type) (enc : TypeId × Value → H) (W : World) (base : Nat) (args : Array Value) (ds gs : List (DataW H)) (before : List MemPlace)
    (hval0 : ∀ (j : Nat) t v, Tryd.f3.params[j]? = some t → args[j]? = some v → Value.okWide Tryd.prog W .any base t v)
    (hW : DataW.Whole enc Tryd.prog Tryd.f3.params.toList Rows.arenaPlaysSpec.vars false W args.toList ds gs before)
    (hsz0 : (DataW.weightsEach Tryd.prog (Tryd.f3.params.toList ++ Rows.arenaPlaysSpec.plain.varTypes Tryd.prog) (ds ++ gs)).all (· ≤ reachBytes) = true) (hE : EnvA W) :
    Calls Tryd.prog 3 args W fun e W' => ∃ v, e = .returned v ∧ Rows.arenaPlaysSpec.post enc Tryd.prog Tryd.f3 false true false false W args v W' := by
  have hsz := hsz0
  clear hsz0
  have hval := hval0
  clear hval0
  have hW' := hW
  obtain ⟨p, q, hA0, hV, rfl, hfz, hnd⟩ := hW
  have hA : DataW.TrodAll enc Tryd.prog W 0 (fun _ => true) true Tryd.f3.params.toList args.toList ds p := hA0
  rw [Tryd.params3] at hA hval hsz
  obtain ⟨v0, vs0, d0, ds0, p0, q0, hargs, rfl, rfl, h0, r0⟩ := trodAll_cons hA
  obtain ⟨v1, vs1, d1, ds1, p1, q1, rfl, rfl, rfl, h1, r1⟩ := trodAll_cons r0
  obtain ⟨rfl, rfl, rfl⟩ := trodAll_nil r1
  obtain rfl : args = #[v0, v1] := by cases args; simp_all
  obtain ⟨rfl, rfl⟩ := trodVars_none hV
  obtain ⟨a0, rfl, rfl, rfl, w0⟩ := open_int Tryd.underlying3 (hval 0 3 v0 rfl rfl) h0
  obtain ⟨a1, l1, c1, rfl⟩ := okWide_slice Tryd.underlying22 (hval 1 22 v1 rfl rfl)
  have k1 := h1
  have lt1 : ∀ x ∈ p1, x.block < W.heap.size := by obtain ⟨m, hm⟩ := k1; exact DataW.trod_lt m _ _ _ hm
  obtain ⟨z1, w1⟩ := isStp_of h1
  clear hA0
  refine (walk W hE a0 w0 a1 l1 c1 z1 w1).mono fun e W' ⟨he, bel⟩ => ?_
  subst he
  exact ⟨_, rfl, _, _, _, [], _, [], hW', trodAll_mk1 (shut_bool Tryd.underlying4 _), (trodAll_cons_mk (shut_int Tryd.underlying3 w0) (trodAll_cons_mk (Below.trod laidOut (by kernel_rfl) (of_decide_eq_true (by kernel_rfl)) k1 bel lt1) trodAll_mk0)), rfl, bel.frame _, fun h => by cases h⟩

theorem laid_met (os : Os) (args : Array Value) : laidMet Tryd.prog Rows.arenaPlaysRow.laid ((World.laidAll Tryd.prog os Rows.arenaPlaysRow.laid).forCall (fun _ _ => 0) ⟨#[], args, []⟩).memory :=
  laidMet_laidAll _ (by kernel_rfl) (by kernel_rfl)
set_option maxRecDepth 100000 in
theorem pre_row (os : Os) {H : Type} (enc : TypeId × Value → H) :
    (OpenSpec.ofChange Rows.arenaPlaysSpec).preRow enc Tryd.prog Tryd.f3 Rows.arenaPlaysRow.domain false Rows.arenaPlaysRow.laid ((World.laidAll Tryd.prog os Rows.arenaPlaysRow.laid).forCall (fun _ _ => 0) ⟨#[], #[.int .i64 0, .slice none 0 0], []⟩).memory #[.int .i64 0, .slice none 0 0] := by
  exact ⟨⟨ChangeSpec.pre_of_preB (fuel := 8) (by kernel_rfl), by rw [MakeChecks.laidMetH_plain _ _ _ (by kernel_rfl)]; exact laid_met os _⟩, sizedMet_of_sizedB (fuel := 8) (by kernel_rfl)⟩
set_option maxRecDepth 100000 in
theorem lifted (os : Os) (started : os.Started) (H : Type) (enc : TypeId × Value → H) (F : Stop.Interp) :
    ReturnsInHanded {} Tryd.checked os 3 .any ((OpenSpec.ofChange Rows.arenaPlaysSpec).preRow enc Tryd.prog Tryd.f3 Rows.arenaPlaysRow.domain false Rows.arenaPlaysRow.laid) (((OpenSpec.ofChange Rows.arenaPlaysSpec).at F).post enc Tryd.prog Tryd.f3 false true false false) := by
  refine returnsInHanded_of_row (C := Tryd.checked) (s := (OpenSpec.ofChange Rows.arenaPlaysSpec)) own started (by kernel_rfl) Tryd.func3
    ⟨World.laidAll Tryd.prog os Rows.arenaPlaysRow.laid, fun _ _ => 0, ⟨#[], #[.int .i64 0, .slice none 0 0], []⟩, World.laidAll_os _ _ _, World.shaped_of_ZipB (by kernel_rfl) (by kernel_rfl), rfl, (Input.okWide_of_okWideB (by kernel_rfl)).2, pre_row os enc, (by simp only [Assume.holds]; exact ⟨by simp, by simp, fun _ => Modest.zero, by simp, by simp⟩)⟩ ?_
  intro W base args ds gs before hval hW _ hcond hsz hL hsh _
  rw [MakeChecks.laidMetH_plain _ _ _ (by kernel_rfl)] at hL
  exact contract H enc W base args ds gs before hval hW hsz (envA_of hL)

theorem over : Rows.arenaPlaysRow.holds Tryd.pinned (OpenSpec.ofChange Rows.arenaPlaysSpec) :=
  OpenClaim.holds_of_cond 3 Tryd.f3 rfl rfl rfl rfl rfl rfl rfl ⟨rfl, rfl, rfl, rfl, rfl⟩ rfl rfl rfl rfl rfl (by kernel_rfl) Tryd.func3 (by kernel_rfl)
    (of_decide_eq_true (by kernel_rfl)) (by unfold Func.isWrapper; first | (rw [if_pos (by decide +kernel)]; kernel_rfl) | (rw [if_neg (by decide +kernel)]; exact ⟨rfl, rfl⟩))
    (fun os started H enc _ F => by rw [OpenClaim.pre_eq_preRow]; exact lifted os started H enc F)

theorem proved : Rows.ArenaPlaysCardSaid :=
  Claim7.holds_tied_plain_at .later [] Rows.arenaPlaysCard.laidKinds true Rows.arenaPlaysCard.stood.harness Rows.arenaPlaysCard.stood.looks over (fun _ h => by cases h) (by kernel_rfl) (fun _ h => by cases h) arenaPlays_row_tie rfl ⟨rfl, rfl⟩ (by kernel_rfl) rfl
    (fun f fn hf hfn => by
      obtain rfl : f = 3 := Option.some.inj ((show Tryd.prog.funcNamed Rows.arenaPlaysRow.func = some 3 by kernel_rfl).symm.trans hf) |>.symm
      obtain rfl : fn = Tryd.f3 := (Option.some.inj (Tryd.func3.symm.trans hfn)).symm
      exact ⟨by kernel_rfl, fun j t ht => by
        rw [Tryd.params3] at ht
        have hm : t ∈ [3, 22] := by simpa using Array.mem_of_getElem? ht
        have hall : ([3, 22].all fun u => !Tryd.prog.wantsStandIn u) = true := by kernel_rfl
        exact (show Tryd.prog.wantsStandIn t = false by simpa using List.all_eq_true.1 hall t hm)⟩)
    (by kernel_rfl)
#print axioms proved
end APly
end Go.Proofs.YtiocdojdncomhaaDoor
