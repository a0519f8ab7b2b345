/-
  E2, E5: for every frame and message, laying it gives the bytes that the document's own laying gives, and the same refusal.
-/
import Derived.Test.YtnhlgonldffgoaaDoorEAw
import Derived.Test.YtnhlgonldffgoaaDoorEIn
import Derived.Test.YtnhlgonldffgoaaDoorERLa
import Derived.Handy
namespace Go.Proofs.YtnhlgonldffgoaaDoor.Lays
open Go.ChangeShapes Go.WideShapes Go.ChangeAt Go.RowKit
set_option linter.unusedVariables false

theorem ly_form (a b c : Int) (d : ByteArray) : ∃ S e, lyV a b c d = .tuple #[.string S, .int .i64 e] := by
  unfold lyV
  split
  · exact ⟨_, _, rfl⟩
  · split
    · exact ⟨_, _, rfl⟩
    · exact ⟨_, _, rfl⟩
theorem la_form (op fm : Int) (s : Bool) (h l tm : Int) (s' : Bool) (h' l' : Int) : ∃ S e, laV op fm s h l tm s' h' l' = .tuple #[.string S, .int .i64 e] := by
  unfold laV
  split
  · exact ⟨_, _, rfl⟩
  · exact ⟨_, _, rfl⟩

set_option maxRecDepth 100000 in
set_option maxHeartbeats 8000000 in
theorem walk (w : World) (hE : EnvE w) (a0_0 : Int) (w0_0 : (Lit.int .u64 a0_0).wf = true) (a0_1 : Int) (w0_1 : (Lit.int .u64 a0_1).wf = true) (a0_2 : Int) (w0_2 : (Lit.int .i64 a0_2).wf = true) (a0_3 : ByteArray) (w0_3 : a0_3.size ≤ maxLen) (a1_0 : Int) (w1_0 : (Lit.int .i64 a1_0).wf = true) (a1_1 : Int) (w1_1 : (Lit.int .u64 a1_1).wf = true) (a1_2 : Bool) (a1_3 : Int) (w1_3 : (Lit.int .u64 a1_3).wf = true) (a1_4 : Int) (w1_4 : (Lit.int .u64 a1_4).wf = true) (a1_5 : Int) (w1_5 : (Lit.int .u64 a1_5).wf = true) (a1_6 : Bool) (a1_7 : Int) (w1_7 : (Lit.int .u64 a1_7).wf = true) (a1_8 : Int) (w1_8 : (Lit.int .u64 a1_8).wf = true) :
    Calls Tryd.prog 6 #[.agg #[.int .u64 a0_0, .int .u64 a0_1, .int .i64 a0_2, .string a0_3], .agg #[.int .i64 a1_0, .int .u64 a1_1, .bool a1_2, .int .u64 a1_3, .int .u64 a1_4, .int .u64 a1_5, .bool a1_6, .int .u64 a1_7, .int .u64 a1_8]] w fun e w' => e = .returned (.bool true) ∧ Below w.heap.size w w' := by
  have HE := Lib.hid hE
  clear hE
  obtain ⟨x0, -⟩ := u6_of' w0_0
  obtain ⟨y0, -⟩ := u6_of' w0_1
  obtain ⟨f0, -⟩ := u6_of' w1_1
  obtain ⟨l0, -⟩ := u6_of' w1_4
  obtain ⟨t0, -⟩ := u6_of' w1_5
  obtain ⟨m0, -⟩ := u6_of' w1_8
  obtain ⟨S, e1, h1⟩ := ly_form a0_0 a0_1 a0_2 a0_3
  obtain ⟨T, e2, h2⟩ := la_form a1_0 a1_1 a1_2 a1_3 a1_4 a1_5 a1_6 a1_7 a1_8
  have H1 := Lib.hid (fun W => lay_at a0_0 a0_1 a0_2 a0_3 x0 y0 h1 W)
  have H2 := Lib.hid (fun W => rlay_any a0_0 a0_1 a0_2 a0_3 x0 y0 W)
  rw [h1] at H2
  have H3 := Lib.hid (fun W hW => layArp_at a1_0 a1_1 a1_2 a1_3 a1_4 a1_5 a1_6 a1_7 a1_8 f0 l0 t0 m0 h2 W hW)
  have H4 := Lib.hid (fun W => rlayArp_any a1_0 a1_1 a1_2 a1_3 a1_4 a1_5 a1_6 a1_7 a1_8 f0 l0 t0 m0 W)
  rw [h2] at H4
  clear h1 h2
  have E0 := HE.out.below (((Below.refl _ w).alloc (Nat.le_refl _) (.cells #[.int .u64 a0_0, .int .u64 a0_1, .int .i64 a0_2, .string a0_3] 43)).alloc (by simp only [World.size_alloc]; omega) (.cells #[.int .i64 a1_0, .int .u64 a1_1, .bool a1_2, .int .u64 a1_3, .int .u64 a1_4, .int .u64 a1_5, .bool a1_6, .int .u64 a1_7, .int .u64 a1_8] 45))
  have K0 := Lib.hid ((Blk.new w 43 #[.int .u64 a0_0, .int .u64 a0_1, .int .i64 a0_2, .string a0_3]).alloc (.cells #[.int .i64 a1_0, .int .u64 a1_1, .bool a1_2, .int .u64 a1_3, .int .u64 a1_4, .int .u64 a1_5, .bool a1_6, .int .u64 a1_7, .int .u64 a1_8] 45))
  have J0 := Lib.hid (Blk.new (w.alloc (.cells #[.int .u64 a0_0, .int .u64 a0_1, .int .i64 a0_2, .string a0_3] 43)) 45 #[.int .i64 a1_0, .int .u64 a1_1, .bool a1_2, .int .u64 a1_3, .int .u64 a1_4, .int .u64 a1_5, .bool a1_6, .int .u64 a1_7, .int .u64 a1_8])
  have L0 := Lib.hid (((Below.refl _ w).alloc (Nat.le_refl _) (.cells #[.int .u64 a0_0, .int .u64 a0_1, .int .i64 a0_2, .string a0_3] 43)).alloc (by simp only [World.size_alloc]; omega) (.cells #[.int .i64 a1_0, .int .u64 a1_1, .bool a1_2, .int .u64 a1_3, .int .u64 a1_4, .int .u64 a1_5, .bool a1_6, .int .u64 a1_7, .int .u64 a1_8] 45))
  go_enter Tryd.func6, Tryd.ntmps6
  go_wp2_with fail
  refine Calls.mono (eawake_yes _ E0) ?_
  rintro e w1 ⟨rfl, hb⟩
  have K1 := Lib.hid (K0.out.below hb K0.out.lt)
  have J1 := Lib.hid (J0.out.below hb J0.out.lt)
  have L1 := Lib.hid (L0.out.trans (hb.mono L0.out.size))
  obtain ⟨p1, p2, p3, p4⟩ := K1.out.c4
  obtain ⟨f1, f2, f3, f4, f5, f6, f7, f8, f9⟩ := J1.out.c9
  rw [World.size_alloc] at f1 f2 f3 f4 f5 f6 f7 f8 f9
  clear hb
  go_wp2_with fail
  refine Calls.mono (H1.out _) ?_
  rintro e w2 ⟨rfl, hb⟩
  have K2 := Lib.hid (K1.out.below hb K1.out.lt)
  have J2 := Lib.hid (J1.out.below hb J1.out.lt)
  have L2 := Lib.hid (L1.out.trans (hb.mono L1.out.size))
  have E2 := HE.out.below L2.out
  clear hb p1 p2 p3 p4 f1 f2 f3 f4 f5 f6 f7 f8 f9
  obtain ⟨p1, p2, p3, p4⟩ := K2.out.c4
  obtain ⟨f1, f2, f3, f4, f5, f6, f7, f8, f9⟩ := J2.out.c9
  rw [World.size_alloc] at f1 f2 f3 f4 f5 f6 f7 f8 f9
  go_wp2_with fail
  refine Calls.mono (H2.out _) ?_
  rintro e w3 ⟨rfl, hb⟩
  have K3 := Lib.hid (K2.out.below hb K2.out.lt)
  have J3 := Lib.hid (J2.out.below hb J2.out.lt)
  have L3 := Lib.hid (L2.out.trans (hb.mono L2.out.size))
  have E3 := HE.out.below L3.out
  clear hb p1 p2 p3 p4 f1 f2 f3 f4 f5 f6 f7 f8 f9
  obtain ⟨p1, p2, p3, p4⟩ := K3.out.c4
  obtain ⟨f1, f2, f3, f4, f5, f6, f7, f8, f9⟩ := J3.out.c9
  rw [World.size_alloc] at f1 f2 f3 f4 f5 f6 f7 f8 f9
  go_wp2_with fail
  refine Calls.mono (H3.out _ E3) ?_
  rintro e w4 ⟨rfl, hb⟩
  have K4 := Lib.hid (K3.out.below hb K3.out.lt)
  have J4 := Lib.hid (J3.out.below hb J3.out.lt)
  have L4 := Lib.hid (L3.out.trans (hb.mono L3.out.size))
  have E4 := HE.out.below L4.out
  clear hb p1 p2 p3 p4 f1 f2 f3 f4 f5 f6 f7 f8 f9
  obtain ⟨p1, p2, p3, p4⟩ := K4.out.c4
  obtain ⟨f1, f2, f3, f4, f5, f6, f7, f8, f9⟩ := J4.out.c9
  rw [World.size_alloc] at f1 f2 f3 f4 f5 f6 f7 f8 f9
  go_wp2_with fail
  refine Calls.mono (H4.out _) ?_
  rintro e w5 ⟨rfl, hb⟩
  have K5 := Lib.hid (K4.out.below hb K4.out.lt)
  have J5 := Lib.hid (J4.out.below hb J4.out.lt)
  have L5 := Lib.hid (L4.out.trans (hb.mono L4.out.size))
  have E5 := HE.out.below L5.out
  clear hb p1 p2 p3 p4 f1 f2 f3 f4 f5 f6 f7 f8 f9
  obtain ⟨p1, p2, p3, p4⟩ := K5.out.c4
  obtain ⟨f1, f2, f3, f4, f5, f6, f7, f8, f9⟩ := J5.out.c9
  rw [World.size_alloc] at f1 f2 f3 f4 f5 f6 f7 f8 f9
  clear p1 p2 p3 p4 f1 f2 f3 f4 f5 f6 f7 f8 f9
  go_wp2
  go_ret
  exact ⟨rfl, L5.out⟩

set_option maxRecDepth 100000 in
theorem contract (H : Type) (enc : TypeId × Value → H) (W : World) (base : Nat) (args : Array Value) (ds gs : List (DataW H)) (before : List MemPlace)
    (hval0 : ∀ (j : Nat) t v, Tryd.f6.params[j]? = some t → args[j]? = some v → Value.okWide Tryd.prog W .any base t v)
    (hW : DataW.Whole enc Tryd.prog Tryd.f6.params.toList Rows.etherLaysSpec.vars false W args.toList ds gs before)
    (hsz0 : (DataW.weightsEach Tryd.prog (Tryd.f6.params.toList ++ Rows.etherLaysSpec.plain.varTypes Tryd.prog) (ds ++ gs)).all (· ≤ reachBytes) = true) (hE : EnvE W) :
    Calls Tryd.prog 6 args W fun e W' => ∃ v, e = .returned v ∧ Rows.etherLaysSpec.post enc Tryd.prog Tryd.f6 false true false false W args v W' := by
  have hsz := hsz0
  clear hsz0
  have hval := hval0
  clear hval0
  have hW' := hW
  obtain ⟨p, q, hA0, hV, rfl, hfz, hnd⟩ := hW
  have hA : DataW.TrodAll enc Tryd.prog W 0 (fun _ => true) true Tryd.f6.params.toList args.toList ds p := hA0
  rw [Tryd.params6] at hA hval hsz
  obtain ⟨v0, vs0, d0, ds0, p0, q0, hargs, rfl, rfl, h0, r0⟩ := trodAll_cons hA
  obtain ⟨v1, vs1, d1, ds1, p1, q1, rfl, rfl, rfl, h1, r1⟩ := trodAll_cons r0
  obtain ⟨rfl, rfl, rfl⟩ := trodAll_nil r1
  obtain rfl : args = #[v0, v1] := by cases args; simp_all
  obtain ⟨rfl, rfl⟩ := trodVars_none hV
  have k0 := h0
  have lt0 : ∀ x ∈ p0, x.block < W.heap.size := by obtain ⟨m, hm⟩ := k0; exact DataW.trod_lt m _ _ _ hm
  obtain ⟨v0_0, v0_1, v0_2, v0_3, y0_0, y0_1, y0_2, y0_3, n0, rfl, ed0, ep0, f0_0, f0_1, f0_2, f0_3⟩ := Go.Joins.open_agg4 Tryd.underlying43 (by kernel_rfl) (by kernel_rfl) (hval 0 43 v0 rfl rfl) h0
  obtain ⟨a0_0, e0_0, _, w0_0⟩ := DataW.trod_int Tryd.underlying41 f0_0
  injection e0_0 with e0_0 _
  subst e0_0
  obtain ⟨a0_1, e0_1, _, w0_1⟩ := DataW.trod_int Tryd.underlying41 f0_1
  injection e0_1 with e0_1 _
  subst e0_1
  obtain ⟨a0_2, e0_2, _, w0_2⟩ := DataW.trod_int Tryd.underlying3 f0_2
  injection e0_2 with e0_2 _
  subst e0_2
  obtain ⟨a0_3, e0_3, _, w0_3⟩ := DataW.trod_string Tryd.underlying9 f0_3
  injection e0_3 with e0_3 _
  subst e0_3
  have k1 := h1
  have lt1 : ∀ x ∈ p1, x.block < W.heap.size := by obtain ⟨m, hm⟩ := k1; exact DataW.trod_lt m _ _ _ hm
  obtain ⟨a1_0, a1_1, a1_2, a1_3, a1_4, a1_5, a1_6, a1_7, a1_8, rfl, w1_0, w1_1, w1_3, w1_4, w1_5, w1_7, w1_8, ep1⟩ := open_arp (hval 1 45 v1 rfl rfl) h1
  clear hA0
  refine (walk W hE a0_0 w0_0 a0_1 w0_1 a0_2 w0_2 a0_3 w0_3 a1_0 w1_0 a1_1 w1_1 a1_2 a1_3 w1_3 a1_4 w1_4 a1_5 w1_5 a1_6 a1_7 w1_7 a1_8 w1_8).mono fun e W' ⟨he, bel⟩ => ?_
  subst he
  exact ⟨_, rfl, _, _, _, [], _, [], hW', trodAll_mk1 (shut_bool Tryd.underlying4 _), (trodAll_cons_mk (Below.trod laidOut (by kernel_rfl) (of_decide_eq_true (by kernel_rfl)) k0 bel lt0) (trodAll_cons_mk (Below.trod laidOut (by kernel_rfl) (of_decide_eq_true (by kernel_rfl)) k1 bel lt1) trodAll_mk0)), rfl, bel.frame _, fun h => by cases h⟩

theorem laid_met (os : Os) (args : Array Value) : laidMet Tryd.prog Rows.etherLaysRow.laid ((World.laidAll Tryd.prog os Rows.etherLaysRow.laid).forCall (fun _ _ => 0) ⟨#[], args, []⟩).memory :=
  laidMet_laidAll _ (by kernel_rfl) (by kernel_rfl)
set_option maxRecDepth 100000 in
theorem pre_row (os : Os) {H : Type} (enc : TypeId × Value → H) :
    (OpenSpec.ofChange Rows.etherLaysSpec).preRow enc Tryd.prog Tryd.f6 Rows.etherLaysRow.domain false Rows.etherLaysRow.laid ((World.laidAll Tryd.prog os Rows.etherLaysRow.laid).forCall (fun _ _ => 0) ⟨#[], #[.agg #[.int .u64 0, .int .u64 0, .int .i64 0, .string ByteArray.empty], .agg #[.int .i64 0, .int .u64 0, .bool false, .int .u64 0, .int .u64 0, .int .u64 0, .bool false, .int .u64 0, .int .u64 0]], []⟩).memory #[.agg #[.int .u64 0, .int .u64 0, .int .i64 0, .string ByteArray.empty], .agg #[.int .i64 0, .int .u64 0, .bool false, .int .u64 0, .int .u64 0, .int .u64 0, .bool false, .int .u64 0, .int .u64 0]] := by
  exact ⟨⟨ChangeSpec.pre_of_preB (fuel := 8) (by kernel_rfl), by rw [MakeChecks.laidMetH_plain _ _ _ (by kernel_rfl)]; exact laid_met os _⟩, sizedMet_of_sizedB (fuel := 8) (by kernel_rfl)⟩
set_option maxRecDepth 100000 in
theorem lifted (os : Os) (started : os.Started) (H : Type) (enc : TypeId × Value → H) (F : Stop.Interp) :
    ReturnsInHanded {} Tryd.checked os 6 .any ((OpenSpec.ofChange Rows.etherLaysSpec).preRow enc Tryd.prog Tryd.f6 Rows.etherLaysRow.domain false Rows.etherLaysRow.laid) (((OpenSpec.ofChange Rows.etherLaysSpec).at F).post enc Tryd.prog Tryd.f6 false true false false) := by
  refine returnsInHanded_of_row (C := Tryd.checked) (s := (OpenSpec.ofChange Rows.etherLaysSpec)) own started (by kernel_rfl) Tryd.func6
    ⟨World.laidAll Tryd.prog os Rows.etherLaysRow.laid, fun _ _ => 0, ⟨#[], #[.agg #[.int .u64 0, .int .u64 0, .int .i64 0, .string ByteArray.empty], .agg #[.int .i64 0, .int .u64 0, .bool false, .int .u64 0, .int .u64 0, .int .u64 0, .bool false, .int .u64 0, .int .u64 0]], []⟩, World.laidAll_os _ _ _, World.shaped_of_ZipB (by kernel_rfl) (by kernel_rfl), rfl, (Input.okWide_of_okWideB (by kernel_rfl)).2, pre_row os enc, (by simp only [Assume.holds]; exact ⟨by simp, by simp, fun _ => Modest.zero, by simp, by simp⟩)⟩ ?_
  intro W base args ds gs before hval hW _ hcond hsz hL hsh _
  rw [MakeChecks.laidMetH_plain _ _ _ (by kernel_rfl)] at hL
  exact contract H enc W base args ds gs before hval hW hsz (envE_of hL)

theorem over : Rows.etherLaysRow.holds Tryd.pinned (OpenSpec.ofChange Rows.etherLaysSpec) :=
  OpenClaim.holds_of_cond 6 Tryd.f6 rfl rfl rfl rfl rfl rfl rfl ⟨rfl, rfl, rfl, rfl, rfl⟩ rfl rfl rfl rfl rfl (by kernel_rfl) Tryd.func6 (by kernel_rfl)
    (of_decide_eq_true (by kernel_rfl)) (by unfold Func.isWrapper; first | (rw [if_pos (by decide +kernel)]; kernel_rfl) | (rw [if_neg (by decide +kernel)]; exact ⟨rfl, rfl⟩))
    (fun os started H enc _ F => by rw [OpenClaim.pre_eq_preRow]; exact lifted os started H enc F)

theorem proved : Rows.EtherLaysCardSaid :=
  Claim7.holds_tied_plain_at .later [] Rows.etherLaysCard.laidKinds true Rows.etherLaysCard.stood.harness true over (fun _ h => by cases h) (by kernel_rfl) (fun _ h => by cases h) etherLays_row_tie rfl ⟨rfl, rfl⟩ (by kernel_rfl) rfl
    (fun f fn hf hfn => by
      obtain rfl : f = 6 := Option.some.inj ((show Tryd.prog.funcNamed Rows.etherLaysRow.func = some 6 by kernel_rfl).symm.trans hf) |>.symm
      obtain rfl : fn = Tryd.f6 := (Option.some.inj (Tryd.func6.symm.trans hfn)).symm
      exact ⟨by kernel_rfl, fun j t ht => by
        rw [Tryd.params6] at ht
        have hm : t ∈ [43, 45] := by simpa using Array.mem_of_getElem? ht
        have hall : ([43, 45].all fun u => !Tryd.prog.wantsStandIn u) = true := by kernel_rfl
        exact (show Tryd.prog.wantsStandIn t = false by simpa using List.all_eq_true.1 hall t hm)⟩)
    (by kernel_rfl)
#print axioms proved
end Go.Proofs.YtnhlgonldffgoaaDoor.Lays
