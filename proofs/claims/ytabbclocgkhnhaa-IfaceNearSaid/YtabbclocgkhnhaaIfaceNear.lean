/-
  crosswaylaw14.IfaceNear returns true for every input, and leaves its arguments alone.
  Conditions: none of our own.
-/
import Derived.Test.YtabbclocgkhnhaaMgG
namespace Go.Proofs.Ytabbclocgkhnhaa
open Go.ChangeShapes Go.WideShapes Go.ChangeAt Go.RowKit
set_option linter.unusedVariables false
namespace INea
set_option maxRecDepth 100000 in
set_option maxHeartbeats 4000000 in
theorem walk (w : World) (a0 : Option Addr) (l0 c0 : Nat) (z0 : List Stp) (w0 : IsStp w a0 l0 z0) (a1_0 : Bool) (a1_1 : Int) (w1_1 : (Lit.int .u64 a1_1).wf = true) (a1_2 : Int) (w1_2 : (Lit.int .u64 a1_2).wf = true) :
    Calls Try.prog 7 #[.slice a0 l0 c0, .agg #[.bool a1_0, .int .u64 a1_1, .int .u64 a1_2]] w fun e w' => e = .returned (.bool true) ∧ Below w.heap.size w w' := by
  obtain ⟨ah, rfl, v1⟩ := u64_nat w1_1
  obtain ⟨al, rfl, v2⟩ := u64_nat w1_2
  obtain ⟨s, hs⟩ : ∃ s, s = a1_0 := ⟨_, rfl⟩
  subst hs
  have HA : Hid (N64 (s, ah, al).2.1 ∧ N64 (s, ah, al).2.2) := Lib.hid ⟨v1, v2⟩
  have HZ := Lib.hid w0
  obtain ⟨xb, hxb⟩ : ∃ xb, w.heap.size = xb := ⟨_, rfl⟩
  obtain ⟨W0, hW0⟩ : ∃ W, w.alloc (.cells #[.bool s, .int .u64 (ah : Int), .int .u64 (al : Int)] 34) = W := ⟨_, rfl⟩
  have HX : Hid (Blk W0 xb 34 #[.bool s, .int .u64 (ah : Int), .int .u64 (al : Int)]) := Lib.hid (hW0 ▸ hxb ▸ Blk.new _ _ _)
  have HB0 : Hid (Below w.heap.size w W0) := Lib.hid (hW0 ▸ (Below.refl _ w).alloc (Nat.le_refl _) _)
  have HW0 := Lib.hid (And.intro hW0 hxb)
  clear w0 w1_1 w1_2 v1 v2 hW0 hxb
  go_enter Try.func7, Try.ntmps7
  go_wp2_with fail
  rw [HW0.out.1, HW0.out.2]
  refine Calls.mono (awake_yes W0) ?_
  rintro e x1 ⟨rfl, hb1⟩
  have B1 := Lib.hid (HB0.out.trans (hb1.mono HB0.out.size))
  have HX1 : Hid (Blk x1 xb 34 #[.bool s, .int .u64 (ah : Int), .int .u64 (al : Int)]) := Lib.hid (HX.out.below hb1 HX.out.lt)
  have HXc : Hid (∀ W, Below x1.heap.size x1 W → W.cell? ⟨xb, 0, none⟩ = some (.bool s) ∧ W.cell? ⟨xb, 1, none⟩ = some (.int .u64 (ah : Int)) ∧ W.cell? ⟨xb, 2, none⟩ = some (.int .u64 (al : Int))) := Lib.hid (fun W hW => by
    have h := HX1.out.below hW HX1.out.lt
    exact ⟨(h.cell 0).trans rfl, (h.cell 1).trans rfl, (h.cell 2).trans rfl⟩)
  have HM := Lib.hid (made_any w a0 l0 c0 z0 HZ.out x1 B1.out)
  clear hb1
  go_wp2_with fail
  refine Calls.mono HM.out ?_
  rintro e x2 ⟨p, S, rfl, hY⟩
  obtain ⟨st, hst⟩ : ∃ st, plI z0 (min l0 60) = st := ⟨_, rfl⟩
  rw [hst] at hY
  have Y2 := Lib.hid hY
  have HN1 := Lib.hid (nearP p S st (s, ah, al) HA.out x2 hY.P)
  have hinv := hY.P.inv
  obtain ⟨N, hN⟩ : ∃ N, nearI st (s, ah, al) = N := ⟨_, rfl⟩
  have hup : 0 < N → ∃ p l, st.1[N - 1]? = some p ∧ st.2[N - 1]? = some l ∧ p.2.2.2 = true ∧ l ≠ [] := fun h0 => by have := near_up hinv (a := (s, ah, al)) (by omega); rwa [hN] at this
  have hN8 : N ≤ 8 := by
    rcases Nat.eq_zero_or_pos N with h0 | h0
    · omega
    · obtain ⟨p, l, hp, -⟩ := hup h0
      have := (List.getElem?_eq_some_iff.1 hp).1
      have := hinv.few
      omega
  have HNe := Lib.hid hN
  have HInv := Lib.hid hinv
  have HUp := Lib.hid hup
  rw [hN] at HN1
  obtain ⟨c0', c1', c2'⟩ := HXc.out x2 hY.bel
  have HI := Lib.hid (i64_small N (by omega))
  have HN8 := Lib.hid hN8
  clear hst hY hinv hN hup hN8
  go_wp2_with fail
  refine Calls.mono HN1.out ?_
  rintro e x3 ⟨rfl, hP, hT⟩
  have Y3 := Lib.hid (Y2.out.read hP hT)
  have HP3 := Lib.hid (portP p S st (N : Int) HI.out x3 Y3.out.P)
  obtain ⟨pp, hpp⟩ : ∃ pp, portI st (N : Int) = pp := ⟨_, rfl⟩
  obtain ⟨th, hth⟩ : ∃ th, thereI st (N : Int) = th := ⟨_, rfl⟩
  have hpu : 0 < N → pp.2.2.2 = true := fun h0 => by
    obtain ⟨q, l, hq, hl, hu, -⟩ := HUp.out h0
    have hlt := (List.getElem?_eq_some_iff.1 hq).1
    have ht : thereI st (N : Int) = true := by unfold thereI; rw [decide_eq_true_eq]; omega
    rw [← hpp]
    unfold portI
    rw [if_neg (by rw [ht]; simp), show idxI (N : Int) = N - 1 by unfold idxI; omega, hq]
    exact hu
  have hll : 0 < N → 0 < (localsI st (N : Int)).length := fun h0 => by
    obtain ⟨q, l, hq, hl, hu, hne⟩ := HUp.out h0
    have hlt := (List.getElem?_eq_some_iff.1 hq).1
    have ht : thereI st (N : Int) = true := by unfold thereI; rw [decide_eq_true_eq]; omega
    unfold localsI
    rw [if_neg (by rw [ht]; simp)]
    unfold locI
    rw [show idxI (N : Int) = N - 1 by unfold idxI; omega, hl]
    exact List.length_pos_iff.2 hne
  rw [hpp, hth] at HP3
  obtain ⟨pn, pm, pu, pb⟩ := pp
  have HP3' : Hid (Calls Try.prog 16 #[.pointer (some ⟨p, 0, none⟩), .int .i64 (N : Int)] x3 fun e w' => e = .returned (.tuple #[.agg #[.string pn, .int .u64 pm, .int .i64 pu, .bool pb], .bool th]) ∧ IfP w' p S st ∧ Tch x3 w' S) := HP3
  have HPu := Lib.hid hpu
  have HLl := Lib.hid hll
  clear hP hT HP3 hpp hth hpu hll c0' c1' c2'
  go_wp2_with fail
  refine Calls.mono HP3'.out ?_
  rintro e x4 ⟨rfl, hP, hT⟩
  have Y4 := Lib.hid (Y3.out.read hP hT)
  obtain ⟨W4, hW4⟩ : ∃ W, x4.alloc (.cells #[.string pn, .int .u64 pm, .int .i64 pu, .bool pb] 46) = W := ⟨_, rfl⟩
  obtain ⟨g4, hg4⟩ : ∃ g, x4.heap.size = g := ⟨_, rfl⟩
  have Y5 : Hid (StdI x1 W4 p S st) := Lib.hid (hW4 ▸ Y4.out.alloc _)
  have V4 : Blk W4 g4 46 #[.string pn, .int .u64 pm, .int .i64 pu, .bool pb] := hW4 ▸ hg4 ▸ Blk.new _ _ _
  have p3 := (V4.cell 3).trans (show _ = some (Value.bool pb) by rfl)
  rw [← hW4, ← hg4] at p3
  have Hw4 := Lib.hid (And.intro hW4 hg4)
  have HL5 := Lib.hid (localsP p S st (N : Int) HI.out W4 Y5.out.P)
  clear hP hT V4 hW4 hg4
  -- behind the first checks both ways go on alike
  have hgo : Hid (∀ (W : World), StdI x1 W p S st → True) := Lib.hid (fun _ _ => trivial)
  by_cases h0 : 0 < N
  · have hb : decide (0 < N) = true := decide_eq_true h0
    have hpb : pb = true := HPu.out h0
    subst hpb
    have hl0 := HLl.out h0
    obtain ⟨m, hm⟩ : ∃ m, (localsI st (N : Int)).length = m := ⟨_, rfl⟩
    rw [hm] at hl0 HL5
    have bm : ((m : Int) == (0 : Int)) = false := by simp; omega
    rw [hb]
    have HB := Lib.hid hb
    have H0 := Lib.hid h0
    clear hm hl0 h0 hb
    go_wp2_with fail
    rw [Hw4.out.1]
    refine Calls.mono HL5.out ?_
    rintro e x5 ⟨A, cc, rfl, -, hP, hT⟩
    have Y6 := Lib.hid (Y5.out.read hP hT)
    clear hP hT p3
    go_wp2
    -- REST
    go_loopw [11] (fun iv wr => ∃ (i : Nat) (S' : List Nat) (st' : StI), iv = .int .i64 (i : Int) ∧ 1 ≤ i ∧ i ≤ 9 ∧ Hid (offI st N (i - 1) st') ∧ Hid (StdI x1 wr p S' st')) (fun iv _ => 10 - (intOf iv).toNat)
    case atStart => exact ⟨1, S, st, rfl, Nat.le_refl _, by omega, Lib.hid (offI.zero st N), Y6⟩
    case round =>
      obtain ⟨i, S', st', rfl, hi1, hi9, hO, hYr⟩ := hrel
      have j1 : IntKind.i64.wrap ((i : Int) + 1) = (i : Int) + 1 := by rw [IntKind.wrap_i64]; omega
      by_cases hlt : i ≤ 8
      · have i1 : (i : Int) ≤ 8 := by omega
        by_cases hN : i = N
        · have be : ((i : Int) != (N : Int)) = false := by simp; omega
          have HO := Lib.hid (hO.out.skip (show i - 1 + 1 = N by omega))
          rw [show i - 1 + 1 = i + 1 - 1 by omega] at HO
          clear hN
          go_wp2
          go_roundw
          case rel => exact ⟨i + 1, S', st', by go_num, by omega, by omega, HO, hYr⟩
          case measure => simp [intOf]; omega
        · have be : ((i : Int) != (N : Int)) = true := by simp; omega
          have HO := Lib.hid (hO.out.turn (show i - 1 + 1 ≠ N by omega))
          rw [show i - 1 + 1 = i + 1 - 1 by omega, show (((i - 1 : Nat) : Int) + 1) = (i : Int) by omega] at HO
          have HTu := Lib.hid (turnP p S' st' (i : Int) false (i64_small i (by omega)) wr hYr.out.P)
          clear hN
          go_wp2_with fail
          refine Calls.mono HTu.out ?_
          rintro e w6 ⟨rfl, S2, hP2, hg2⟩
          have Y7 := Lib.hid (hYr.out.go hP2 hg2)
          clear hP2 hg2
          go_wp2
          go_roundw
          case rel => exact ⟨i + 1, S2, _, by go_num, by omega, by omega, HO, Y7⟩
          case measure => simp [intOf]; omega
      · obtain rfl : i = 9 := by omega
        have i1 : ¬ ((9 : Nat) : Int) ≤ 8 := by omega
        have hN2 : nearI st' (s, ah, al) = N := by
          have h1 := hO.out
          rw [← HNe.out] at h1
          have := h1.near HInv.out
          rw [this, HNe.out]
        have HNe2 := Lib.hid (nearP p S' st' (s, ah, al) HA.out wr hYr.out.P)
        rw [hN2, HB.out] at HNe2
        have HTu := Lib.hid (fun W h => turnP p S' st' (N : Int) false HI.out W h)
        have hgone : nearI (turnI st' (N : Int) false).1 (s, ah, al) = 0 := hO.out.gone HInv.out _ rfl
        have HG := Lib.hid hgone
        obtain ⟨q0, q1, q2⟩ := HXc.out wr hYr.out.bel
        have bN : ((N : Int) == (N : Int)) = true := by simp
        clear hN2 hgone hlt hi1 hi9
        go_wp2_with fail
        refine Calls.mono HNe2.out ?_
        rintro e w7 ⟨rfl, hP7, hT7⟩
        have Y8 := Lib.hid (hYr.out.read hP7 hT7)
        clear hP7 hT7 q0 q1 q2
        go_wp2_with fail
        refine Calls.mono (HTu.out w7 Y8.out.P) ?_
        rintro e w8 ⟨rfl, S3, hP8, hg8⟩
        have Y9 := Lib.hid (Y8.out.go hP8 hg8)
        have HL9 := Lib.hid (nearP p S3 _ (s, ah, al) HA.out w8 Y9.out.P)
        rw [HG.out] at HL9
        obtain ⟨q0, q1, q2⟩ := HXc.out w8 Y9.out.bel
        clear hP8 hg8
        go_wp2_with fail
        refine Calls.mono HL9.out ?_
        rintro e w9 ⟨rfl, hP9, hT9⟩
        have Y10 := Lib.hid (Y9.out.read hP9 hT9)
        clear hP9 hT9 q0 q1 q2
        go_wp2
        go_ret
        exact ⟨rfl, B1.out.trans (Y10.out.bel.mono B1.out.size)⟩
  · have hN0 : N = 0 := by omega
    have HN0 := Lib.hid hN0
    have hb : decide (0 < N) = false := decide_eq_false h0
    have bz : ((N : Int) != (0 : Int)) = false := by simp; omega
    have Y6 := Y5
    rw [hb]
    have HB := Lib.hid hb
    clear hN0 h0 hb
    go_wp2
    -- REST
    rw [Hw4.out.1]
    go_loopw [11] (fun iv wr => ∃ (i : Nat) (S' : List Nat) (st' : StI), iv = .int .i64 (i : Int) ∧ 1 ≤ i ∧ i ≤ 9 ∧ Hid (offI st N (i - 1) st') ∧ Hid (StdI x1 wr p S' st')) (fun iv _ => 10 - (intOf iv).toNat)
    case atStart => exact ⟨1, S, st, rfl, Nat.le_refl _, by omega, Lib.hid (offI.zero st N), Y6⟩
    case round =>
      obtain ⟨i, S', st', rfl, hi1, hi9, hO, hYr⟩ := hrel
      have j1 : IntKind.i64.wrap ((i : Int) + 1) = (i : Int) + 1 := by rw [IntKind.wrap_i64]; omega
      by_cases hlt : i ≤ 8
      · have i1 : (i : Int) ≤ 8 := by omega
        by_cases hN : i = N
        · have be : ((i : Int) != (N : Int)) = false := by simp; omega
          have HO := Lib.hid (hO.out.skip (show i - 1 + 1 = N by omega))
          rw [show i - 1 + 1 = i + 1 - 1 by omega] at HO
          clear hN
          go_wp2
          go_roundw
          case rel => exact ⟨i + 1, S', st', by go_num, by omega, by omega, HO, hYr⟩
          case measure => simp [intOf]; omega
        · have be : ((i : Int) != (N : Int)) = true := by simp; omega
          have HO := Lib.hid (hO.out.turn (show i - 1 + 1 ≠ N by omega))
          rw [show i - 1 + 1 = i + 1 - 1 by omega, show (((i - 1 : Nat) : Int) + 1) = (i : Int) by omega] at HO
          have HTu := Lib.hid (turnP p S' st' (i : Int) false (i64_small i (by omega)) wr hYr.out.P)
          clear hN
          go_wp2_with fail
          refine Calls.mono HTu.out ?_
          rintro e w6 ⟨rfl, S2, hP2, hg2⟩
          have Y7 := Lib.hid (hYr.out.go hP2 hg2)
          clear hP2 hg2
          go_wp2
          go_roundw
          case rel => exact ⟨i + 1, S2, _, by go_num, by omega, by omega, HO, Y7⟩
          case measure => simp [intOf]; omega
      · obtain rfl : i = 9 := by omega
        have i1 : ¬ ((9 : Nat) : Int) ≤ 8 := by omega
        have hN2 : nearI st' (s, ah, al) = N := by
          have h1 := hO.out
          rw [← HNe.out] at h1
          have := h1.near HInv.out
          rw [this, HNe.out]
        have HNe2 := Lib.hid (nearP p S' st' (s, ah, al) HA.out wr hYr.out.P)
        rw [hN2, HB.out] at HNe2
        have HTu := Lib.hid (fun W h => turnP p S' st' (N : Int) false HI.out W h)
        have hgone : nearI (turnI st' (N : Int) false).1 (s, ah, al) = 0 := hO.out.gone HInv.out _ rfl
        have HG := Lib.hid hgone
        obtain ⟨q0, q1, q2⟩ := HXc.out wr hYr.out.bel
        have bN : ((N : Int) == (N : Int)) = true := by simp
        clear hN2 hgone hlt hi1 hi9
        go_wp2_with fail
        refine Calls.mono HNe2.out ?_
        rintro e w7 ⟨rfl, hP7, hT7⟩
        have Y8 := Lib.hid (hYr.out.read hP7 hT7)
        clear hP7 hT7 q0 q1 q2
        go_wp2_with fail
        refine Calls.mono (HTu.out w7 Y8.out.P) ?_
        rintro e w8 ⟨rfl, S3, hP8, hg8⟩
        have Y9 := Lib.hid (Y8.out.go hP8 hg8)
        have HL9 := Lib.hid (nearP p S3 _ (s, ah, al) HA.out w8 Y9.out.P)
        rw [HG.out] at HL9
        obtain ⟨q0, q1, q2⟩ := HXc.out w8 Y9.out.bel
        clear hP8 hg8
        go_wp2_with fail
        refine Calls.mono HL9.out ?_
        rintro e w9 ⟨rfl, hP9, hT9⟩
        have Y10 := Lib.hid (Y9.out.read hP9 hT9)
        clear hP9 hT9 q0 q1 q2
        go_wp2
        go_ret
        exact ⟨rfl, B1.out.trans (Y10.out.bel.mono B1.out.size)⟩
set_option maxRecDepth 100000 in
theorem contract (H : Type) (enc : TypeId × Value → H) (W : World) (base : Nat) (args : Array Value) (ds gs : List (DataW H)) (before : List MemPlace)
    (hval0 : ∀ (j : Nat) t v, Try.f7.params[j]? = some t → args[j]? = some v → Value.okWide Try.prog W .any base t v)
    (hW : DataW.Whole enc Try.prog Try.f7.params.toList Rows.ifaceNearSpec.vars false W args.toList ds gs before)
    (hsz0 : (DataW.weightsEach Try.prog (Try.f7.params.toList ++ Rows.ifaceNearSpec.plain.varTypes Try.prog) (ds ++ gs)).all (· ≤ reachBytes) = true) :
    Calls Try.prog 7 args W fun e W' => ∃ v, e = .returned v ∧ Rows.ifaceNearSpec.post enc Try.prog Try.f7 false true false false W args v W' := by
  have hsz := hsz0
  clear hsz0
  have hval := hval0
  clear hval0
  have hW' := hW
  obtain ⟨p, q, hA0, hV, rfl, hfz, hnd⟩ := hW
  have hA : DataW.TrodAll enc Try.prog W 0 (fun _ => true) true Try.f7.params.toList args.toList ds p := hA0
  rw [Try.params7] at hA hval hsz
  obtain ⟨v0, vs0, d0, ds0, p0, q0, hargs, rfl, rfl, h0, r0⟩ := trodAll_cons hA
  obtain ⟨v1, vs1, d1, ds1, p1, q1, rfl, rfl, rfl, h1, r1⟩ := trodAll_cons r0
  obtain ⟨rfl, rfl, rfl⟩ := trodAll_nil r1
  obtain rfl : args = #[v0, v1] := by cases args; simp_all
  obtain ⟨rfl, rfl⟩ := trodVars_none hV
  obtain ⟨a0, l0, c0, rfl⟩ := okWide_slice Try.underlying22 (hval 0 22 v0 rfl rfl)
  have k0 := h0
  have lt0 : ∀ x ∈ p0, x.block < W.heap.size := by obtain ⟨m, hm⟩ := k0; exact DataW.trod_lt m _ _ _ hm
  obtain ⟨z0, w0⟩ := isStp_of h0
  have k1 := h1
  have lt1 : ∀ x ∈ p1, x.block < W.heap.size := by obtain ⟨m, hm⟩ := k1; exact DataW.trod_lt m _ _ _ hm
  obtain ⟨v1_0, v1_1, v1_2, y1_0, y1_1, y1_2, n1, rfl, ed1, ep1, f1_0, f1_1, f1_2⟩ := Go.Joins.open_agg3 Try.underlying34 (by kernel_rfl) (by kernel_rfl) (hval 1 34 v1 rfl rfl) h1
  obtain ⟨a1_0, e1_0, _⟩ := DataW.trod_bool Try.underlying4 f1_0
  injection e1_0 with e1_0 _
  subst e1_0
  obtain ⟨a1_1, e1_1, _, w1_1⟩ := DataW.trod_int Try.underlying31 f1_1
  injection e1_1 with e1_1 _
  subst e1_1
  obtain ⟨a1_2, e1_2, _, w1_2⟩ := DataW.trod_int Try.underlying31 f1_2
  injection e1_2 with e1_2 _
  subst e1_2
  clear hA0
  refine (walk W a0 l0 c0 z0 w0 a1_0 a1_1 w1_1 a1_2 w1_2).mono fun e W' ⟨he, bel⟩ => ?_
  subst he
  exact ⟨_, rfl, _, _, _, [], _, [], hW', trodAll_mk1 (shut_bool Try.underlying4 _), (trodAll_cons_mk (Below.trod laidOut (by kernel_rfl) (of_decide_eq_true (by kernel_rfl)) k0 bel lt0) (trodAll_cons_mk (Below.trod laidOut (by kernel_rfl) (of_decide_eq_true (by kernel_rfl)) k1 bel lt1) trodAll_mk0)), rfl, bel.frame _, fun h => by cases h⟩

set_option maxRecDepth 100000 in
theorem lifted (os : Os) (started : os.Started) (H : Type) (enc : TypeId × Value → H) :
    ReturnsInHanded {} Try.checked os 7 .any (Rows.ifaceNearSpec.pre6 enc Try.prog Try.f7 Rows.ifaceNearRow.domain false) (Rows.ifaceNearSpec.post enc Try.prog Try.f7 false true false false) := by
  refine returnsInHanded_of_change_sized (C := Try.checked) own started (by kernel_rfl) Try.func7
    (ChangeSpec.witness6 (enc := enc) (C := Try.checked) false ⟨#[], #[.slice none 0 0, .agg #[.bool false, .int .u64 0, .int .u64 0]], []⟩ 8 (by kernel_rfl) (by kernel_rfl) (by kernel_rfl) (by kernel_rfl)) ?_
  intro W base args ds gs before hval hW _ hsz _
  exact contract H enc W base args ds gs before hval hW hsz

theorem over : Rows.ifaceNearRow.holds Try.pinned (OpenSpec.ofChange Rows.ifaceNearSpec) :=
  OpenClaim.holds_of_wide 7 Try.f7 rfl rfl rfl rfl rfl rfl rfl ⟨rfl, rfl, rfl, rfl, rfl⟩ rfl rfl rfl rfl rfl (by kernel_rfl) Try.func7 (by kernel_rfl)
    (of_decide_eq_true (by kernel_rfl)) (by unfold Func.isWrapper; first | (rw [if_pos (by decide +kernel)]; kernel_rfl) | (rw [if_neg (by decide +kernel)]; exact ⟨rfl, rfl⟩))
    (fun os started H enc _ => lifted os started H enc)

theorem proved : Rows.IfaceNearSaid := over
#print axioms proved
