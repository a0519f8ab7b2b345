/-
  D6: of two ranges of first bits one covers the other, or nobody is held by both; whoever is held by the lesser is held by the greater: for every two ranges and every address.
-/
import Derived.Test.YtecgmejfkfoceaaDoorPAwk
import Derived.Test.YtecgmejfkfoceaaDoorPFrame
import Derived.Test.YtecgmejfkfoceaaDoorIn3
namespace Go.Proofs.YtecgmejfkfoceaaDoor.Nests
open Go.ChangeShapes Go.WideShapes Go.ChangeAt Go.RowKit
set_option linter.unusedVariables false

theorem covers_in (s : Bool) (h l : Nat) (b : Int) (s' : Bool) (h' l' : Nat) (b' : Int) (hh : N64 h') (hl : N64 l') {A B A' B' : Int} (e1 : (h : Int) = A) (e2 : (l : Int) = B) (e3 : (h' : Int) = A') (e4 : (l' : Int) = B') {v : Bool} (ev : cov s h l b s' h' l' b' = v) (w : World) :
    Calls Tryd.prog 21 #[pfx s A B b, pfx s' A' B' b'] w fun e w' => e = .returned (.bool v) ∧ Below w.heap.size w w' := by
  subst e1 e2 e3 e4; exact covers_at s h l b s' h' l' b' hh hl ev w
theorem holds_in (s : Bool) (h l : Nat) (b : Int) (s' : Bool) (h' l' : Nat) (hh : N64 h') (hl : N64 l') {A B A' B' : Int} (e1 : (h : Int) = A) (e2 : (l : Int) = B) (e3 : (h' : Int) = A') (e4 : (l' : Int) = B') {v : Bool} (ev : hld s h l b s' h' l' = v) (w : World) :
    Calls Tryd.prog 19 #[pfx s A B b, adr s' A' B'] w fun e w' => e = .returned (.bool v) ∧ Below w.heap.size w w' := by
  subst e1 e2 e3 e4; exact holds_at s h l b s' h' l' hh hl ev w
theorem pvalid_in (s : Bool) (h l : Nat) (b : Int) (hh : N64 h) (hl : N64 l) {A B : Int} (e1 : (h : Int) = A) (e2 : (l : Int) = B) {v : Bool} (ev : pvl s h l b = v) (w : World) :
    Calls Tryd.prog 17 #[pfx s A B b] w fun e w' => e = .returned (.bool v) ∧ Below w.heap.size w w' := by
  subst e1 e2; exact pvalid_at s h l b hh hl ev w

set_option maxRecDepth 100000 in
set_option maxHeartbeats 8000000 in
theorem walk (w : World) (hE : Env w) (a0_0 : Bool) (a0_1 : Int) (w0_1 : (Lit.int .u64 a0_1).wf = true) (a0_2 : Int) (w0_2 : (Lit.int .u64 a0_2).wf = true) (a0_3 : Int) (w0_3 : (Lit.int .i64 a0_3).wf = true) (a1_0 : Bool) (a1_1 : Int) (w1_1 : (Lit.int .u64 a1_1).wf = true) (a1_2 : Int) (w1_2 : (Lit.int .u64 a1_2).wf = true) (a1_3 : Int) (w1_3 : (Lit.int .i64 a1_3).wf = true) (a2_0 : Bool) (a2_1 : Int) (w2_1 : (Lit.int .u64 a2_1).wf = true) (a2_2 : Int) (w2_2 : (Lit.int .u64 a2_2).wf = true) :
    Calls Tryd.prog 7 #[.agg #[.bool a0_0, .int .u64 a0_1, .int .u64 a0_2, .int .i64 a0_3], .agg #[.bool a1_0, .int .u64 a1_1, .int .u64 a1_2, .int .i64 a1_3], .agg #[.bool a2_0, .int .u64 a2_1, .int .u64 a2_2]] w fun e w' => e = .returned (.bool true) ∧ Below w.heap.size w w' := by
  obtain ⟨h, rfl, hh⟩ := n64_of w0_1
  obtain ⟨l, rfl, hl⟩ := n64_of w0_2
  obtain ⟨h', rfl, hh'⟩ := n64_of w1_1
  obtain ⟨l', rfl, hl'⟩ := n64_of w1_2
  obtain ⟨m, rfl, hm⟩ := n64_of w2_1
  obtain ⟨n, rfl, hn⟩ := n64_of w2_2
  have hE := Lib.hid hE
  clear w0_1 w0_2 w0_3 w1_1 w1_2 w1_3 w2_1 w2_2
  obtain ⟨x, hx⟩ : ∃ x, cov a0_0 h l a0_3 a1_0 h' l' a1_3 = x := ⟨_, rfl⟩
  obtain ⟨y, hy⟩ : ∃ y, cov a1_0 h' l' a1_3 a0_0 h l a0_3 = y := ⟨_, rfl⟩
  obtain ⟨o, ho⟩ : ∃ o, hld a0_0 h l a0_3 a2_0 m n = o := ⟨_, rfl⟩
  obtain ⟨t, ht⟩ : ∃ t, hld a1_0 h' l' a1_3 a2_0 m n = t := ⟨_, rfl⟩
  obtain ⟨V, hV⟩ : ∃ V, pvl a0_0 h l a0_3 = V := ⟨_, rfl⟩
  have C : Hid ((x && t && !o) = false ∧ (y && o && !t) = false ∧ (o && t && !x && !y) = false) := Lib.hid (by
    refine ⟨?_, ?_, ?_⟩
    · cases x <;> cases t <;> cases o <;> first | rfl | skip
      rw [nest_in hl hl' hn hx ht] at ho; cases ho
    · cases y <;> cases t <;> cases o <;> first | rfl | skip
      rw [nest_in hl' hl hn hy ho] at ht; cases ht
    · cases x <;> cases y <;> cases t <;> cases o <;> first | rfl | skip
      rcases Int.le_total a0_3 a1_3 with hb | hb
      · rw [nest_or hl hl' hn ho ht hb] at hx; cases hx
      · rw [nest_or hl' hl hn ht ho hb] at hy; cases hy)
  have D : Hid ((x && y) = (decide (a0_0 = a1_0 ∧ (h : Int) = h' ∧ (l : Int) = l' ∧ a0_3 = a1_3) && V)) := Lib.hid (by
    rw [← hx, ← hy, ← hV, nest_eq hl hl']
    congr 1
    rw [Bool.eq_iff_iff, decide_eq_true_eq, decide_eq_true_eq]
    exact and_congr_right fun _ => and_congr (by omega) (and_congr_left fun _ => by omega))
  obtain ⟨A, hA⟩ : ∃ A : Int, (h : Int) = A := ⟨_, rfl⟩
  obtain ⟨B, hB⟩ : ∃ B : Int, (l : Int) = B := ⟨_, rfl⟩
  obtain ⟨A', hA'⟩ : ∃ A : Int, (h' : Int) = A := ⟨_, rfl⟩
  obtain ⟨B', hB'⟩ : ∃ B : Int, (l' : Int) = B := ⟨_, rfl⟩
  obtain ⟨M, hM⟩ : ∃ M : Int, (m : Int) = M := ⟨_, rfl⟩
  obtain ⟨N, hN⟩ : ∃ N : Int, (n : Int) = N := ⟨_, rfl⟩
  have HX := Lib.hid (fun w => covers_in a0_0 h l a0_3 a1_0 h' l' a1_3 hh' hl' hA hB hA' hB' hx w)
  have HY := Lib.hid (fun w => covers_in a1_0 h' l' a1_3 a0_0 h l a0_3 hh hl hA' hB' hA hB hy w)
  have HO := Lib.hid (fun w => holds_in a0_0 h l a0_3 a2_0 m n hm hn hA hB hM hN ho w)
  have HT := Lib.hid (fun w => holds_in a1_0 h' l' a1_3 a2_0 m n hm hn hA' hB' hM hN ht w)
  have HV := Lib.hid (fun w => pvalid_in a0_0 h l a0_3 hh hl hA hB hV w)
  rw [hA, hB, hA', hB'] at D
  rw [hA, hB, hA', hB', hM, hN]
  clear hx hy ho ht hV hA hB hA' hB' hM hN hh hl hh' hl' hm hn
  go_enter Tryd.func7, Tryd.ntmps7
  go_wp2_with fail
  refine Calls.mono (pawake_yes _ (((hE.out.alloc _).alloc _).alloc _)) ?_
  rintro e w1 ⟨rfl, hb⟩
  have J1 := Lib.hid (In343.new w #[.bool a0_0, .int .u64 A, .int .u64 B, .int .i64 a0_3] #[.bool a1_0, .int .u64 A', .int .u64 B', .int .i64 a1_3] #[.bool a2_0, .int .u64 M, .int .u64 N] hb)
  clear hb
  obtain ⟨f0, f1, f2, f3⟩ := J1.out.2.1.c4
  obtain ⟨g0, g1, g2, g3⟩ := J1.out.2.2.1.c4
  obtain ⟨k0, k1, k2⟩ := J1.out.2.2.2.1.c3
  go_wp2_with fail
  refine Calls.mono (HX.out _) ?_
  rintro e w2 ⟨rfl, hb⟩
  clear f0 f1 f2 f3 g0 g1 g2 g3 k0 k1 k2
  have J2 := Lib.hid (J1.out.on hb)
  clear hb
  obtain ⟨f0, f1, f2, f3⟩ := J2.out.2.1.c4
  obtain ⟨g0, g1, g2, g3⟩ := J2.out.2.2.1.c4
  obtain ⟨k0, k1, k2⟩ := J2.out.2.2.2.1.c3
  go_wp2_with fail
  refine Calls.mono (HY.out _) ?_
  rintro e w3 ⟨rfl, hb⟩
  clear f0 f1 f2 f3 g0 g1 g2 g3 k0 k1 k2
  have J3 := Lib.hid (J2.out.on hb)
  clear hb
  obtain ⟨f0, f1, f2, f3⟩ := J3.out.2.1.c4
  obtain ⟨g0, g1, g2, g3⟩ := J3.out.2.2.1.c4
  obtain ⟨k0, k1, k2⟩ := J3.out.2.2.2.1.c3
  go_wp2_with fail
  refine Calls.mono (HO.out _) ?_
  rintro e w4 ⟨rfl, hb⟩
  clear f0 f1 f2 f3 g0 g1 g2 g3 k0 k1 k2
  have J4 := Lib.hid (J3.out.on hb)
  clear hb
  obtain ⟨f0, f1, f2, f3⟩ := J4.out.2.1.c4
  obtain ⟨g0, g1, g2, g3⟩ := J4.out.2.2.1.c4
  obtain ⟨k0, k1, k2⟩ := J4.out.2.2.2.1.c3
  go_wp2_with fail
  refine Calls.mono (HT.out _) ?_
  rintro e w5 ⟨rfl, hb⟩
  clear f0 f1 f2 f3 g0 g1 g2 g3 k0 k1 k2
  have J5 := Lib.hid (J4.out.on hb)
  clear hb
  obtain ⟨f0, f1, f2, f3⟩ := J5.out.2.1.c4
  obtain ⟨g0, g1, g2, g3⟩ := J5.out.2.2.1.c4
  obtain ⟨k0, k1, k2⟩ := J5.out.2.2.2.1.c3
  clear HX HY HO HT
  by_cases c : a0_0 = a1_0 ∧ A = A' ∧ B = B' ∧ a0_3 = a1_3
  · obtain ⟨rfl, rfl, rfl, rfl⟩ := c
    have D2 := D.out
    simp only [and_self, decide_true, Bool.true_and] at D2
    have D := Lib.hid D2
    clear D2
    cases x <;> cases y <;> cases o <;> cases t <;> cases V
    all_goals first | (exact absurd D.out (by decide)) | (exact absurd C.out (by decide)) | skip
    all_goals
      go_wp2_with fail
      refine Calls.mono (HV.out _) ?_
      rintro e w6 ⟨rfl, hb⟩
      clear f0 f1 f2 f3 g0 g1 g2 g3 k0 k1 k2
      have J6 := Lib.hid (J5.out.on hb)
      clear hb
      go_wp2
      go_ret
      exact ⟨rfl, J6.out.1⟩
  · have D2 := D.out
    rw [decide_eq_false c, Bool.false_and] at D2
    have D := Lib.hid D2
    clear D2 HV
    cases x <;> cases y <;> cases o <;> cases t
    all_goals first | (exact absurd D.out (by decide)) | (exact absurd C.out (by decide)) | skip
    all_goals
      by_cases c1 : a0_0 = a1_0
      · subst c1
        by_cases c2 : A = A'
        · subst c2
          by_cases c3 : B = B'
          · subst c3
            have c4 : ¬ a0_3 = a1_3 := fun e => c ⟨rfl, rfl, rfl, e⟩
            clear c
            go_wp2
            go_ret
            exact ⟨ret_bool (by simp [*]), J5.out.1⟩
          · clear c
            go_wp2
            go_ret
            exact ⟨ret_bool (by simp [*]), J5.out.1⟩
        · clear c
          go_wp2
          go_ret
          exact ⟨ret_bool (by simp [*]), J5.out.1⟩
      · clear c
        cases a0_0 <;> cases a1_0
        · exact absurd rfl c1
        · clear c1
          go_wp2
          go_ret
          exact ⟨ret_bool (by simp [*]), J5.out.1⟩
        · clear c1
          go_wp2
          go_ret
          exact ⟨ret_bool (by simp [*]), J5.out.1⟩
        · exact absurd rfl c1

set_option maxRecDepth 100000 in
theorem contract (H : Type) (enc : TypeId × Value → H) (W : World) (base : Nat) (args : Array Value) (ds gs : List (DataW H)) (before : List MemPlace)
    (hval0 : ∀ (j : Nat) t v, Tryd.f7.params[j]? = some t → args[j]? = some v → Value.okWide Tryd.prog W .any base t v)
    (hW : DataW.Whole enc Tryd.prog Tryd.f7.params.toList Rows.prefixNestsSpec.vars false W args.toList ds gs before)
    (hsz0 : (DataW.weightsEach Tryd.prog (Tryd.f7.params.toList ++ Rows.prefixNestsSpec.plain.varTypes Tryd.prog) (ds ++ gs)).all (· ≤ reachBytes) = true) (hE : Env W) :
    Calls Tryd.prog 7 args W fun e W' => ∃ v, e = .returned v ∧ Rows.prefixNestsSpec.post enc Tryd.prog Tryd.f7 false true false false W args v W' := by
  have hsz := hsz0
  clear hsz0
  have hval := hval0
  clear hval0
  have hW' := hW
  obtain ⟨p, q, hA0, hV, rfl, hfz, hnd⟩ := hW
  have hA : DataW.TrodAll enc Tryd.prog W 0 (fun _ => true) true Tryd.f7.params.toList args.toList ds p := hA0
  rw [Tryd.params7] at hA hval hsz
  obtain ⟨v0, vs0, d0, ds0, p0, q0, hargs, rfl, rfl, h0, r0⟩ := trodAll_cons hA
  obtain ⟨v1, vs1, d1, ds1, p1, q1, rfl, rfl, rfl, h1, r1⟩ := trodAll_cons r0
  obtain ⟨v2, vs2, d2, ds2, p2, q2, rfl, rfl, rfl, h2, r2⟩ := trodAll_cons r1
  obtain ⟨rfl, rfl, rfl⟩ := trodAll_nil r2
  obtain rfl : args = #[v0, v1, v2] := by cases args; simp_all
  obtain ⟨rfl, rfl⟩ := trodVars_none hV
  have k0 := h0
  have lt0 : ∀ x ∈ p0, x.block < W.heap.size := by obtain ⟨m, hm⟩ := k0; exact DataW.trod_lt m _ _ _ hm
  obtain ⟨a0_0, a0_1, a0_2, a0_3, rfl, w0_1, w0_2, w0_3, ep0⟩ := open_pfx (hval 0 26 v0 rfl rfl) h0
  have k1 := h1
  have lt1 : ∀ x ∈ p1, x.block < W.heap.size := by obtain ⟨m, hm⟩ := k1; exact DataW.trod_lt m _ _ _ hm
  obtain ⟨a1_0, a1_1, a1_2, a1_3, rfl, w1_1, w1_2, w1_3, ep1⟩ := open_pfx (hval 1 26 v1 rfl rfl) h1
  have k2 := h2
  have lt2 : ∀ x ∈ p2, x.block < W.heap.size := by obtain ⟨m, hm⟩ := k2; exact DataW.trod_lt m _ _ _ hm
  obtain ⟨v2_0, v2_1, v2_2, y2_0, y2_1, y2_2, n2, rfl, ed2, ep2, f2_0, f2_1, f2_2⟩ := Go.Joins.open_agg3 Tryd.underlying24 (by kernel_rfl) (by kernel_rfl) (hval 2 24 v2 rfl rfl) h2
  obtain ⟨a2_0, e2_0, _⟩ := DataW.trod_bool Tryd.underlying4 f2_0
  injection e2_0 with e2_0 _
  subst e2_0
  obtain ⟨a2_1, e2_1, _, w2_1⟩ := DataW.trod_int Tryd.underlying22 f2_1
  injection e2_1 with e2_1 _
  subst e2_1
  obtain ⟨a2_2, e2_2, _, w2_2⟩ := DataW.trod_int Tryd.underlying22 f2_2
  injection e2_2 with e2_2 _
  subst e2_2
  clear hA0
  refine (walk W hE a0_0 a0_1 w0_1 a0_2 w0_2 a0_3 w0_3 a1_0 a1_1 w1_1 a1_2 w1_2 a1_3 w1_3 a2_0 a2_1 w2_1 a2_2 w2_2).mono fun e W' ⟨he, bel⟩ => ?_
  subst he
  exact ⟨_, rfl, _, _, _, [], _, [], hW', trodAll_mk1 (shut_bool Tryd.underlying4 _), (trodAll_cons_mk (Below.trod laidOut (by kernel_rfl) (of_decide_eq_true (by kernel_rfl)) k0 bel lt0) (trodAll_cons_mk (Below.trod laidOut (by kernel_rfl) (of_decide_eq_true (by kernel_rfl)) k1 bel lt1) (trodAll_cons_mk (Below.trod laidOut (by kernel_rfl) (of_decide_eq_true (by kernel_rfl)) k2 bel lt2) trodAll_mk0))), rfl, bel.frame _, fun h => by cases h⟩

theorem laid_met (os : Os) (args : Array Value) : laidMet Tryd.prog Rows.prefixNestsRow.laid ((World.laidAll Tryd.prog os Rows.prefixNestsRow.laid).forCall (fun _ _ => 0) ⟨#[], args, []⟩).memory :=
  laidMet_laidAll _ (by kernel_rfl) (by kernel_rfl)
set_option maxRecDepth 100000 in
theorem pre_row (os : Os) {H : Type} (enc : TypeId × Value → H) :
    (OpenSpec.ofChange Rows.prefixNestsSpec).preRow enc Tryd.prog Tryd.f7 Rows.prefixNestsRow.domain false Rows.prefixNestsRow.laid ((World.laidAll Tryd.prog os Rows.prefixNestsRow.laid).forCall (fun _ _ => 0) ⟨#[], #[.agg #[.bool false, .int .u64 0, .int .u64 0, .int .i64 0], .agg #[.bool false, .int .u64 0, .int .u64 0, .int .i64 0], .agg #[.bool false, .int .u64 0, .int .u64 0]], []⟩).memory #[.agg #[.bool false, .int .u64 0, .int .u64 0, .int .i64 0], .agg #[.bool false, .int .u64 0, .int .u64 0, .int .i64 0], .agg #[.bool false, .int .u64 0, .int .u64 0]] := by
  exact ⟨⟨ChangeSpec.pre_of_preB (fuel := 8) (by kernel_rfl), by rw [MakeChecks.laidMetH_plain _ _ _ (by kernel_rfl)]; exact laid_met os _⟩, sizedMet_of_sizedB (fuel := 8) (by kernel_rfl)⟩
set_option maxRecDepth 100000 in
theorem lifted (os : Os) (started : os.Started) (H : Type) (enc : TypeId × Value → H) (F : Stop.Interp) :
    ReturnsInHanded {} Tryd.checked os 7 .any ((OpenSpec.ofChange Rows.prefixNestsSpec).preRow enc Tryd.prog Tryd.f7 Rows.prefixNestsRow.domain false Rows.prefixNestsRow.laid) (((OpenSpec.ofChange Rows.prefixNestsSpec).at F).post enc Tryd.prog Tryd.f7 false true false false) := by
  refine returnsInHanded_of_row (C := Tryd.checked) (s := (OpenSpec.ofChange Rows.prefixNestsSpec)) own started (by kernel_rfl) Tryd.func7
    ⟨World.laidAll Tryd.prog os Rows.prefixNestsRow.laid, fun _ _ => 0, ⟨#[], #[.agg #[.bool false, .int .u64 0, .int .u64 0, .int .i64 0], .agg #[.bool false, .int .u64 0, .int .u64 0, .int .i64 0], .agg #[.bool false, .int .u64 0, .int .u64 0]], []⟩, World.laidAll_os _ _ _, World.shaped_of_ZipB (by kernel_rfl) (by kernel_rfl), rfl, (Input.okWide_of_okWideB (by kernel_rfl)).2, pre_row os enc, (by simp only [Assume.holds]; exact ⟨by simp, by simp, fun _ => Modest.zero, by simp, by simp⟩)⟩ ?_
  intro W base args ds gs before hval hW _ hcond hsz hL hsh _
  rw [MakeChecks.laidMetH_plain _ _ _ (by kernel_rfl)] at hL
  exact contract H enc W base args ds gs before hval hW hsz (env_of hL hsh)

theorem over : Rows.prefixNestsRow.holds Tryd.pinned (OpenSpec.ofChange Rows.prefixNestsSpec) :=
  OpenClaim.holds_of_cond 7 Tryd.f7 rfl rfl rfl rfl rfl rfl rfl ⟨rfl, rfl, rfl, rfl, rfl⟩ rfl rfl rfl rfl rfl (by kernel_rfl) Tryd.func7 (by kernel_rfl)
    (of_decide_eq_true (by kernel_rfl)) (by unfold Func.isWrapper; first | (rw [if_pos (by decide +kernel)]; kernel_rfl) | (rw [if_neg (by decide +kernel)]; exact ⟨rfl, rfl⟩))
    (fun os started H enc _ F => by rw [OpenClaim.pre_eq_preRow]; exact lifted os started H enc F)

theorem proved : Rows.PrefixNestsCardSaid :=
  Claim7.holds_tied_plain_at .later [] Rows.prefixNestsCard.laidKinds true Rows.prefixNestsCard.stood.harness true over (fun _ h => by cases h) (by kernel_rfl) (fun _ h => by cases h) prefixNests_row_tie rfl ⟨rfl, rfl⟩ (by kernel_rfl) rfl
    (fun f fn hf hfn => by
      obtain rfl : f = 7 := Option.some.inj ((show Tryd.prog.funcNamed Rows.prefixNestsRow.func = some 7 by kernel_rfl).symm.trans hf) |>.symm
      obtain rfl : fn = Tryd.f7 := (Option.some.inj (Tryd.func7.symm.trans hfn)).symm
      exact ⟨by kernel_rfl, fun j t ht => by
        rw [Tryd.params7] at ht
        have hm : t ∈ [26, 24] := by simpa using Array.mem_of_getElem? ht
        have hall : ([26, 24].all fun u => !Tryd.prog.wantsStandIn u) = true := by kernel_rfl
        exact (show Tryd.prog.wantsStandIn t = false by simpa using List.all_eq_true.1 hall t hm)⟩)
    (by kernel_rfl)
#print axioms proved
end Go.Proofs.YtecgmejfkfoceaaDoor.Nests
