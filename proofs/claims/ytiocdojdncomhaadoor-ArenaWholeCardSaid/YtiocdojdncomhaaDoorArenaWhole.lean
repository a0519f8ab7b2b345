/-
  crosswaylaw10.ArenaWhole returns true for every input, and leaves its arguments alone.
  Conditions: none of our own; a tied card: the library's table of math/bits holds what the program's text lays.
-/
import Derived.Test.YtiocdojdncomhaaDoorATw
namespace Go.Proofs.YtiocdojdncomhaaDoor
open Go.ChangeShapes Go.WideShapes Go.ChangeAt Go.RowKit
set_option linter.unusedVariables false
namespace AWho
set_option maxRecDepth 100000 in
set_option maxHeartbeats 4000000 in
theorem walk (w : World) (hE : EnvA w) (a0 : Int) (w0 : (Lit.int .i64 a0).wf = true) (a1 : Option Addr) (l1 c1 : Nat) (z1 : List Stp) (w1 : IsStp w a1 l1 z1) (a2 : Option Addr) (l2 c2 : Nat) (z2 : List Int) (w2 : IsRow .i64 w a2 l2 c2 z2) (s2 : c2 * 8 ≤ 140737488351232) (a3 : Option Addr) (l3 c3 : Nat) (z3 : List Int) (w3 : IsRow .i64 w a3 l3 c3 z3) (s3 : c3 * 8 ≤ 140737488351232) :
    Calls Tryd.prog 5 #[.int .i64 a0, .slice a1 l1 c1, .slice a2 l2 c2, .slice a3 l3 c3] w fun e w' => e = .returned (.bool true) ∧ Below w.heap.size w w' := by
  have hb0 := i64_bd w0
  have hpk := pk_bd a0 (n := 9) (by omega)
  have HK := Lib.hid (fun W => pick_any a0 9 (by omega) (by omega) hb0.1 hb0.2 W)
  obtain ⟨N, hN⟩ : ∃ N : Nat, pk a0 9 = (N : Int) := ⟨(pk a0 9).toNat, by omega⟩
  rw [hN] at HK hpk
  have hN8 : N ≤ 8 := by omega
  have hN16 : N ≤ 16 := by omega
  have HE := Lib.hid hE
  have HZ := Lib.hid w1
  have HR2 := Lib.hid w2
  have HR3 := Lib.hid w3
  clear hE w0 w1 w2 w3 s2 s3 hN hb0 hpk
  go_enter Tryd.func5, Tryd.ntmps5
  go_wp2_with fail
  refine Calls.mono (aawake_yes w HE.out) ?_
  rintro e x1 ⟨rfl, hb1⟩
  have B1 := Lib.hid hb1
  clear hb1
  go_wp2_with fail
  refine Calls.mono (HK.out _) ?_
  rintro e x1' ⟨rfl, rfl⟩
  go_wp2_with fail
  refine Calls.mono (made_any N hN16 a1 l1 c1 z1 x1 (HE.out.below B1.out HE.out.lt) (HZ.out.below B1.out)) ?_
  rintro e x2 ⟨r, bm, bn, rfl, hA2⟩
  obtain ⟨L, hL⟩ : ∃ L, mdS N z1 (min l1 120) = L := ⟨_, rfl⟩
  rw [hL] at hA2
  have A2 := Lib.hid hA2
  clear hA2 hL
  have HN2 := Lib.hid (as_new2 N hN16 A2.out)
  go_wp2_with fail
  refine Calls.mono HN2.out ?_
  rintro e x3 ⟨r', bm', bn', rfl, hA3, hB3, hs⟩
  have A3 := Lib.hid hA3
  have B3 := Lib.hid hB3
  have HS := Lib.hid hs
  obtain ⟨D, hD⟩ : ∃ D, x2.heap.size = D := ⟨_, rfl⟩
  rw [hD] at HS
  have hq8 : 2 ^ N ≤ 256 := by have := Nat.pow_le_pow_right (n := 2) (i := N) (j := 8) (by decide) hN8; simpa using this
  have hq1 := sumB_le A3.out.ar.inv
  have hq2 := row_len A3.out.ar.inv
  obtain ⟨n0, hn0⟩ : ∃ n0, L.length = n0 := ⟨_, rfl⟩
  have hn8 : n0 ≤ 256 := by omega
  clear hA3 hB3 hs hD hq1 hq2 hq8
  go_wp2
  go_loopw [13] (fun iv wr => ∃ (j : Nat) (M : List Bl), iv = .int .i64 (j : Int) ∧ Hid (M.length + j = n0) ∧ Hid (AS x1 wr r bm bn N M ∧ AS x1 wr r' bm' bn' N [])) (fun iv _ => n0 + 1 - (intOf iv).toNat)
  case atStart => exact ⟨0, L, rfl, Lib.hid hn0, Lib.hid ⟨A3.out, B3.out⟩⟩
  case round =>
    obtain ⟨j, M, rfl, hML, hW⟩ := hrel
    have hml := hML.out
    obtain ⟨m, hm⟩ : ∃ m, M.length = m := ⟨_, rfl⟩
    rw [hm] at hml
    go_wp2_with fail
    refine Calls.mono (as_taken hN16 hW.out.1 hm) ?_
    rintro e y1 ⟨At, ct, rfl, -, hb1, hA1, -⟩
    have A1 := Lib.hid hA1
    have C1 := Lib.hid (hW.out.2.below hb1)
    clear hb1 hA1
    by_cases hm0 : 0 < m
    · have hmI : (0 : Int) < (m : Int) := by omega
      go_wp2_with fail
      refine Calls.mono (as_taken hN16 A1.out hm) ?_
      rintro e y2 ⟨Bt, cb, rfl, hRB, hb2, hA2, -⟩
      have A2' := Lib.hid hA2
      have C2 := Lib.hid (C1.out.below hb2)
      have RB := Lib.hid hRB
      have HBel := Lib.hid (B1.out.trans (A2'.out.bel.mono B1.out.size))
      have j3 : IntKind.i64.wrap ((j : Int) + 1) = (j : Int) + 1 := by rw [IntKind.wrap_i64]; omega
      have hj6 : ¬ (600 : Int) < (j : Int) := by omega
      clear hb2 hA2 hRB
      by_cases hl : j < l2
      · have hlI : (j : Int) < (l2 : Int) := by omega
        obtain ⟨gb, ob, v, rfl, kv, wv⟩ := HR2.out.at HBel.out hl
        have hv := i64_bd wv
        have hpm := pk_bd v (n := (m : Int)) (by omega)
        have HP := Lib.hid (fun W => pick_any v (m : Int) (by omega) (by omega) hv.1 hv.2 W)
        obtain ⟨K, hK⟩ : ∃ K : Nat, pk v (m : Int) = (K : Int) := ⟨(pk v (m : Int)).toNat, by omega⟩
        rw [hK] at HP hpm
        have hKm : K < m := by omega
        have hj0 : (0 : Int) ≤ (j : Int) := by omega
        clear wv hv hpm hK
        go_wp2_with fail
        refine Calls.mono (HP.out _) ?_
        rintro e y3 ⟨rfl, rfl⟩
        obtain ⟨b, hbM, hbA⟩ := ats_at (M := M) (K := K) (by omega)
        obtain ⟨g, eg, -, -, hcg⟩ := RB.out.2 hm0
        subst eg
        have kg := hcg K _ hbA
        obtain ⟨M', eM, hlen⟩ := gv_len A2'.out.ar.inv hbM
        have hpo := plS_bd (true, true, (b.1 : Int)) (by show (-9223372036854775808 : Int) ≤ (b.1 : Int); omega) (by show ((b.1 : Int)) ≤ 9223372036854775807; have := ((inv_sml hN16 A2'.out.ar.inv).2 b (List.mem_of_getElem? hbM)).1; omega) hN16 A2'.out.ar.inv
        have hpo2 : (b.1 : Int) ≤ 9223372036854775807 := by have := ((inv_sml hN16 A2'.out.ar.inv).2 b (List.mem_of_getElem? hbM)).1; omega
        have HG := as_give hN16 A2'.out (b.1 : Int) (by omega) hpo2
        rw [eM] at HG
        dsimp only at HG
        have HGG := Lib.hid HG
        obtain ⟨p, hp⟩ : ∃ p : Int, (b.1 : Int) = p := ⟨_, rfl⟩
        rw [hp] at kg HGG
        have hKI : (K : Int) < (m : Int) := by omega
        have hK0 : (0 : Int) ≤ (K : Int) := by omega
        have HLen : Hid (M'.length + (j + 1) = n0) := Lib.hid (by omega)
        clear hbM hbA hcg eM hlen hpo hpo2 HG hp
        go_wp2_with fail
        refine Calls.mono HGG.out ?_
        rintro e y4 ⟨rfl, hA4, ht4⟩
        have A4 := Lib.hid hA4
        have C4 := Lib.hid (A2'.out.far2 C2.out HS.out ht4)
        clear hA4 ht4
        go_wp2
        go_roundw
        case rel => exact ⟨j + 1, M', by go_num, HLen, Lib.hid ⟨A4.out, C4.out⟩⟩
        case measure => simp [intOf]; omega
      · have hlI : ¬ (j : Int) < (l2 : Int) := by omega
        obtain ⟨K, hK⟩ : ∃ K : Nat, K = 0 := ⟨0, rfl⟩
        have hKm : K < m := by omega
        subst hK
        obtain ⟨b, hbM, hbA⟩ := ats_at (M := M) (K := 0) (by omega)
        obtain ⟨g, eg, -, -, hcg⟩ := RB.out.2 hm0
        subst eg
        have kg := hcg 0 _ hbA
        obtain ⟨M', eM, hlen⟩ := gv_len A2'.out.ar.inv hbM
        have hpo := plS_bd (true, true, (b.1 : Int)) (by show (-9223372036854775808 : Int) ≤ (b.1 : Int); omega) (by show ((b.1 : Int)) ≤ 9223372036854775807; have := ((inv_sml hN16 A2'.out.ar.inv).2 b (List.mem_of_getElem? hbM)).1; omega) hN16 A2'.out.ar.inv
        have hpo2 : (b.1 : Int) ≤ 9223372036854775807 := by have := ((inv_sml hN16 A2'.out.ar.inv).2 b (List.mem_of_getElem? hbM)).1; omega
        have HG := as_give hN16 A2'.out (b.1 : Int) (by omega) hpo2
        rw [eM] at HG
        dsimp only at HG
        have HGG := Lib.hid HG
        obtain ⟨p, hp⟩ : ∃ p : Int, (b.1 : Int) = p := ⟨_, rfl⟩
        rw [hp] at kg HGG
        have hKI : (0 : Int) < (m : Int) := by omega
        have hK0 : (0 : Int) ≤ (0 : Int) := by omega
        have HLen : Hid (M'.length + (j + 1) = n0) := Lib.hid (by omega)
        clear hbM hbA hcg eM hlen hpo hpo2 HG hp
        go_wp2_with fail
        refine Calls.mono HGG.out ?_
        rintro e y4 ⟨rfl, hA4, ht4⟩
        have A4 := Lib.hid hA4
        have C4 := Lib.hid (A2'.out.far2 C2.out HS.out ht4)
        clear hA4 ht4
        go_wp2
        go_roundw
        case rel => exact ⟨j + 1, M', by go_num, HLen, Lib.hid ⟨A4.out, C4.out⟩⟩
        case measure => simp [intOf]; omega
    · obtain rfl : m = 0 := by omega
      obtain rfl : M = [] := List.eq_nil_of_length_eq_zero hm
      have hmI : ¬ (0 : Int) < ((0 : Nat) : Int) := by omega
      have HF := pfree_any r bm bn N [] y1 A1.out.ar
      have e1 : ((2 ^ N - sumB [] : Nat) : Int) = ((2 ^ N : Nat) : Int) := by simp [sumB]
      rw [e1] at HF
      have HFF := Lib.hid HF
      have HQ := Lib.hid (power_any N hN16 y1)
      obtain ⟨P, hP⟩ : ∃ P : Nat, 2 ^ N = P := ⟨_, rfl⟩
      rw [hP] at HFF HQ
      have HG := as_great hN16 A1.out
      have e2 : grS (fre [] N 0) = (N : Int) := by rw [fre_nil]; unfold grS; simp; omega
      rw [e2] at HG
      have HGG := Lib.hid HG
      clear HF e1 hP HG e2 hml hm hML hW
      go_wp2_with fail
      refine Calls.mono HFF.out ?_
      rintro e y2 ⟨rfl, rfl⟩
      go_wp2_with fail
      refine Calls.mono HQ.out ?_
      rintro e y2 ⟨rfl, rfl⟩
      go_wp2_with fail
      refine Calls.mono HGG.out ?_
      rintro e y4 ⟨rfl, hA4, hb4⟩
      have A4 := Lib.hid hA4
      have C4 := Lib.hid (C1.out.below hb4)
      clear hA4 hb4
      go_wp2
      go_loopw [17] (fun iv wr => ∃ (i : Nat) (M : List Bl), iv = .int .i64 (i : Int) ∧ i ≤ l3 ∧ i ≤ 40 ∧ Hid (AS x1 wr r bm bn N M ∧ AS x1 wr r' bm' bn' N M)) (fun iv _ => 41 - (intOf iv).toNat)
      case atStart => exact ⟨0, [], rfl, Nat.zero_le _, by omega, Lib.hid ⟨A4.out, C4.out⟩⟩
      case round =>
        obtain ⟨i, M, rfl, hi, hi4, hW⟩ := hrel
        by_cases h1 : i < l3
        · have h1I : (i : Int) < (l3 : Int) := by omega
          by_cases h2 : i < 40
          · have h2I : (i : Int) < 40 := by omega
            have HBel := Lib.hid (B1.out.trans (hW.out.1.bel.mono B1.out.size))
            obtain ⟨gb, ob, v, rfl, kv, -⟩ := HR3.out.at HBel.out h1
            have hj0 : (0 : Int) ≤ (i : Int) := by omega
            have i3 : IntKind.i64.wrap ((i : Int) + 1) = (i : Int) + 1 := by rw [IntKind.wrap_i64]; omega
            have HT1 := as_take hN16 hW.out.1 v
            obtain ⟨X, hX⟩ : ∃ X, tkF N M v = X := ⟨_, rfl⟩
            rw [hX] at HT1
            have HXX := Lib.hid hX
            obtain ⟨xp, xe, M'⟩ := X
            dsimp only at HT1
            have HT1' := Lib.hid HT1
            clear hX HT1
            go_wp2_with fail
            refine Calls.mono HT1'.out ?_
            rintro e z1' ⟨rfl, hA5, ht5⟩
            have A5 := Lib.hid hA5
            have C5 := Lib.hid (hW.out.1.far2 hW.out.2 HS.out ht5)
            have HBel5 := Lib.hid (B1.out.trans (A5.out.bel.mono B1.out.size))
            obtain ⟨gb2, ob2, v2, e2, kv2, -⟩ := HR3.out.at HBel5.out h1
            injection e2 with e2
            injection e2 with e3 e4 e5
            subst e3 e4
            have hvv : v2 = v := by
              have q1 := HR3.out.ri.1.2.1 (by omega)
              obtain ⟨b, off, e, hlt, hc⟩ := q1
              injection e with e
              injection e with e6 e7 e8
              subst e6 e7
              have k0 := (HBel.out.cell (p := ⟨gb, ob + i, none⟩) hlt).symm.trans kv
              have k1 := (HBel5.out.cell (p := ⟨gb, ob + i, none⟩) hlt).symm.trans kv2
              rw [k0] at k1
              injection k1 with k1
              injection k1 with _ k1
              exact k1.symm
            subst hvv
            have HT2 := as_take hN16 C5.out v2
            rw [HXX.out] at HT2
            dsimp only at HT2
            have HT2' := Lib.hid HT2
            have dx : (xp != xp) = false := by simp
            have de : (xe != xe) = false := by simp
            clear ht5 hA5 HT2 kv
            go_wp2_with fail
            refine Calls.mono HT2'.out ?_
            rintro e z2' ⟨rfl, hA6, ht6⟩
            have C6 := Lib.hid hA6
            have A6 := Lib.hid (A5.out.far C5.out HS.out ht6)
            clear hA6 ht6 kv2
            go_wp2
            go_roundw
            case rel => exact ⟨i + 1, M', by go_num, h1, h2, Lib.hid ⟨A6.out, C6.out⟩⟩
            case measure => simp [intOf]; omega
          · have h2I : ¬ (i : Int) < 40 := by omega
            go_wp2
            go_ret
            exact ⟨rfl, B1.out.trans (hW.out.1.bel.mono B1.out.size)⟩
        · have h1I : ¬ (i : Int) < (l3 : Int) := by omega
          go_wp2
          go_ret
          exact ⟨rfl, B1.out.trans (hW.out.1.bel.mono B1.out.size)⟩
set_option maxRecDepth 100000 in
theorem contract (H : Type) (enc : TypeId × Value → H) (W : World) (base : Nat) (args : Array Value) (ds gs : List (DataW H)) (before : List MemPlace)
    (hval0 : ∀ (j : Nat) t v, Tryd.f5.params[j]? = some t → args[j]? = some v → Value.okWide Tryd.prog W .any base t v)
    (hW : DataW.Whole enc Tryd.prog Tryd.f5.params.toList Rows.arenaWholeSpec.vars false W args.toList ds gs before)
    (hsz0 : (DataW.weightsEach Tryd.prog (Tryd.f5.params.toList ++ Rows.arenaWholeSpec.plain.varTypes Tryd.prog) (ds ++ gs)).all (· ≤ reachBytes) = true) (hE : EnvA W) :
    Calls Tryd.prog 5 args W fun e W' => ∃ v, e = .returned v ∧ Rows.arenaWholeSpec.post enc Tryd.prog Tryd.f5 false true false false W args v W' := by
  have hsz := hsz0
  clear hsz0
  have hval := hval0
  clear hval0
  have hW' := hW
  obtain ⟨p, q, hA0, hV, rfl, hfz, hnd⟩ := hW
  have hA : DataW.TrodAll enc Tryd.prog W 0 (fun _ => true) true Tryd.f5.params.toList args.toList ds p := hA0
  rw [Tryd.params5] at hA hval hsz
  obtain ⟨v0, vs0, d0, ds0, p0, q0, hargs, rfl, rfl, h0, r0⟩ := trodAll_cons hA
  obtain ⟨v1, vs1, d1, ds1, p1, q1, rfl, rfl, rfl, h1, r1⟩ := trodAll_cons r0
  obtain ⟨v2, vs2, d2, ds2, p2, q2, rfl, rfl, rfl, h2, r2⟩ := trodAll_cons r1
  obtain ⟨v3, vs3, d3, ds3, p3, q3, rfl, rfl, rfl, h3, r3⟩ := trodAll_cons r2
  obtain ⟨rfl, rfl, rfl⟩ := trodAll_nil r3
  obtain rfl : args = #[v0, v1, v2, v3] := by cases args; simp_all
  obtain ⟨rfl, rfl⟩ := trodVars_none hV
  obtain ⟨a0, rfl, rfl, rfl, w0⟩ := open_int Tryd.underlying3 (hval 0 3 v0 rfl rfl) h0
  obtain ⟨a1, l1, c1, rfl⟩ := okWide_slice Tryd.underlying22 (hval 1 22 v1 rfl rfl)
  have k1 := h1
  have lt1 : ∀ x ∈ p1, x.block < W.heap.size := by obtain ⟨m, hm⟩ := k1; exact DataW.trod_lt m _ _ _ hm
  obtain ⟨z1, w1⟩ := isStp_of h1
  obtain ⟨a2, l2, c2, rfl⟩ := okWide_slice Tryd.underlying34 (hval 2 34 v2 rfl rfl)
  have k2 := h2
  have lt2 : ∀ x ∈ p2, x.block < W.heap.size := by obtain ⟨m, hm⟩ := k2; exact DataW.trod_lt m _ _ _ hm
  obtain ⟨z2, w2, s2⟩ : ∃ zs, IsRow .i64 W a2 l2 c2 zs ∧ c2 * 8 ≤ 140737488351232 := isRow_of Tryd.underlying34 Tryd.underlying3 (by kernel_rfl) (by kernel_rfl) h2 (fun hx => sized_slice hsz (j := 2) (t := 34) (e := 3) rfl (by rw [hx]; rfl) Tryd.underlying34)
  obtain ⟨a3, l3, c3, rfl⟩ := okWide_slice Tryd.underlying34 (hval 3 34 v3 rfl rfl)
  have k3 := h3
  have lt3 : ∀ x ∈ p3, x.block < W.heap.size := by obtain ⟨m, hm⟩ := k3; exact DataW.trod_lt m _ _ _ hm
  obtain ⟨z3, w3, s3⟩ : ∃ zs, IsRow .i64 W a3 l3 c3 zs ∧ c3 * 8 ≤ 140737488351232 := isRow_of Tryd.underlying34 Tryd.underlying3 (by kernel_rfl) (by kernel_rfl) h3 (fun hx => sized_slice hsz (j := 3) (t := 34) (e := 3) rfl (by rw [hx]; rfl) Tryd.underlying34)
  clear hA0
  refine (walk W hE a0 w0 a1 l1 c1 z1 w1 a2 l2 c2 z2 w2 s2 a3 l3 c3 z3 w3 s3).mono fun e W' ⟨he, bel⟩ => ?_
  subst he
  exact ⟨_, rfl, _, _, _, [], _, [], hW', trodAll_mk1 (shut_bool Tryd.underlying4 _), (trodAll_cons_mk (shut_int Tryd.underlying3 w0) (trodAll_cons_mk (Below.trod laidOut (by kernel_rfl) (of_decide_eq_true (by kernel_rfl)) k1 bel lt1) (trodAll_cons_mk (Below.trod laidOut (by kernel_rfl) (of_decide_eq_true (by kernel_rfl)) k2 bel lt2) (trodAll_cons_mk (Below.trod laidOut (by kernel_rfl) (of_decide_eq_true (by kernel_rfl)) k3 bel lt3) trodAll_mk0)))), rfl, bel.frame _, fun h => by cases h⟩

theorem laid_met (os : Os) (args : Array Value) : laidMet Tryd.prog Rows.arenaWholeRow.laid ((World.laidAll Tryd.prog os Rows.arenaWholeRow.laid).forCall (fun _ _ => 0) ⟨#[], args, []⟩).memory :=
  laidMet_laidAll _ (by kernel_rfl) (by kernel_rfl)
set_option maxRecDepth 100000 in
theorem pre_row (os : Os) {H : Type} (enc : TypeId × Value → H) :
    (OpenSpec.ofChange Rows.arenaWholeSpec).preRow enc Tryd.prog Tryd.f5 Rows.arenaWholeRow.domain false Rows.arenaWholeRow.laid ((World.laidAll Tryd.prog os Rows.arenaWholeRow.laid).forCall (fun _ _ => 0) ⟨#[], #[.int .i64 0, .slice none 0 0, .slice none 0 0, .slice none 0 0], []⟩).memory #[.int .i64 0, .slice none 0 0, .slice none 0 0, .slice none 0 0] := by
  exact ⟨⟨ChangeSpec.pre_of_preB (fuel := 8) (by kernel_rfl), by rw [MakeChecks.laidMetH_plain _ _ _ (by kernel_rfl)]; exact laid_met os _⟩, sizedMet_of_sizedB (fuel := 8) (by kernel_rfl)⟩
set_option maxRecDepth 100000 in
theorem lifted (os : Os) (started : os.Started) (H : Type) (enc : TypeId × Value → H) (F : Stop.Interp) :
    ReturnsInHanded {} Tryd.checked os 5 .any ((OpenSpec.ofChange Rows.arenaWholeSpec).preRow enc Tryd.prog Tryd.f5 Rows.arenaWholeRow.domain false Rows.arenaWholeRow.laid) (((OpenSpec.ofChange Rows.arenaWholeSpec).at F).post enc Tryd.prog Tryd.f5 false true false false) := by
  refine returnsInHanded_of_row (C := Tryd.checked) (s := (OpenSpec.ofChange Rows.arenaWholeSpec)) own started (by kernel_rfl) Tryd.func5
    ⟨World.laidAll Tryd.prog os Rows.arenaWholeRow.laid, fun _ _ => 0, ⟨#[], #[.int .i64 0, .slice none 0 0, .slice none 0 0, .slice none 0 0], []⟩, World.laidAll_os _ _ _, World.shaped_of_ZipB (by kernel_rfl) (by kernel_rfl), rfl, (Input.okWide_of_okWideB (by kernel_rfl)).2, pre_row os enc, (by simp only [Assume.holds]; exact ⟨by simp, by simp, fun _ => Modest.zero, by simp, by simp⟩)⟩ ?_
  intro W base args ds gs before hval hW _ hcond hsz hL hsh _
  rw [MakeChecks.laidMetH_plain _ _ _ (by kernel_rfl)] at hL
  exact contract H enc W base args ds gs before hval hW hsz (envA_of hL)

theorem over : Rows.arenaWholeRow.holds Tryd.pinned (OpenSpec.ofChange Rows.arenaWholeSpec) :=
  OpenClaim.holds_of_cond 5 Tryd.f5 rfl rfl rfl rfl rfl rfl rfl ⟨rfl, rfl, rfl, rfl, rfl⟩ rfl rfl rfl rfl rfl (by kernel_rfl) Tryd.func5 (by kernel_rfl)
    (of_decide_eq_true (by kernel_rfl)) (by unfold Func.isWrapper; first | (rw [if_pos (by decide +kernel)]; kernel_rfl) | (rw [if_neg (by decide +kernel)]; exact ⟨rfl, rfl⟩))
    (fun os started H enc _ F => by rw [OpenClaim.pre_eq_preRow]; exact lifted os started H enc F)

theorem proved : Rows.ArenaWholeCardSaid :=
  Claim7.holds_tied_plain_at .later [] Rows.arenaWholeCard.laidKinds true Rows.arenaWholeCard.stood.harness Rows.arenaWholeCard.stood.looks over (fun _ h => by cases h) (by kernel_rfl) (fun _ h => by cases h) arenaWhole_row_tie rfl ⟨rfl, rfl⟩ (by kernel_rfl) rfl
    (fun f fn hf hfn => by
      obtain rfl : f = 5 := Option.some.inj ((show Tryd.prog.funcNamed Rows.arenaWholeRow.func = some 5 by kernel_rfl).symm.trans hf) |>.symm
      obtain rfl : fn = Tryd.f5 := (Option.some.inj (Tryd.func5.symm.trans hfn)).symm
      exact ⟨by kernel_rfl, fun j t ht => by
        rw [Tryd.params5] at ht
        have hm : t ∈ [3, 22, 34, 34] := by simpa using Array.mem_of_getElem? ht
        have hall : ([3, 22, 34, 34].all fun u => !Tryd.prog.wantsStandIn u) = true := by kernel_rfl
        exact (show Tryd.prog.wantsStandIn t = false by simpa using List.all_eq_true.1 hall t hm)⟩)
    (by kernel_rfl)
#print axioms proved
end AWho
end Go.Proofs.YtiocdojdncomhaaDoor
