/-
  E3, E5: for every text, taking it up gives the frame and the message that the document's own reading gives, and the same refusal.
-/
import Derived.Test.YtnhlgonldffgoaaDoorEAw
import Derived.Test.YtnhlgonldffgoaaDoorEIn
import Derived.Test.YtnhlgonldffgoaaDoorERTk
import Derived.Handy
namespace Go.Proofs.YtnhlgonldffgoaaDoor.Takes
open Go.ChangeShapes Go.WideShapes Go.ChangeAt Go.RowKit
set_option linter.unusedVariables false

theorem tk_form (s : ByteArray) : ∃ A B C D e, tkV s = .tuple #[frm A B C D, .int .i64 e] := by
  unfold tkV
  split
  · exact ⟨_, _, _, _, _, rfl⟩
  · split
    · exact ⟨_, _, _, _, _, rfl⟩
    · split
      · exact ⟨_, _, _, _, _, rfl⟩
      · exact ⟨_, _, _, _, _, rfl⟩
theorem ta_form (s : ByteArray) : ∃ o f l t m e, taV s = .tuple #[arpv o f false 0 l t false 0 m, .int .i64 e] := by
  unfold taV
  split
  · exact ⟨_, _, _, _, _, _, rfl⟩
  · split
    · exact ⟨_, _, _, _, _, _, rfl⟩
    · exact ⟨_, _, _, _, _, _, rfl⟩

set_option maxRecDepth 100000 in
set_option maxHeartbeats 8000000 in
theorem walk (w : World) (hE : EnvE w) (a0 : ByteArray) (w0 : a0.size ≤ maxLen) :
    Calls Tryd.prog 7 #[.string a0] w fun e w' => e = .returned (.bool true) ∧ Below w.heap.size w w' := by
  have HE := Lib.hid hE
  clear hE
  have hs : a0.size ≤ 9223372036854775807 := by
    have := w0
    simp only [maxLen] at this
    omega
  obtain ⟨A, B, C, D, e1, h1⟩ := tk_form a0
  obtain ⟨o, f, l, t, m, e2, h2⟩ := ta_form a0
  have H1 := Lib.hid (fun W => take_at a0 h1 W)
  have H2 := Lib.hid (fun W => rtake_any a0 W)
  rw [h1] at H2
  have H3 := Lib.hid (fun W hW => takeArp_at a0 h2 W hW)
  have H4 := Lib.hid (fun W => rtakeArp_any a0 hs W)
  rw [h2] at H4
  clear h1 h2 hs
  go_enter Tryd.func7, Tryd.ntmps7
  go_wp2_with fail
  refine Calls.mono (eawake_yes _ HE.out) ?_
  rintro e w1 ⟨rfl, hb⟩
  have L1 := Lib.hid hb
  clear hb
  go_wp2_with fail
  refine Calls.mono (H1.out _) ?_
  rintro e w2 ⟨rfl, hb⟩
  have L2 := Lib.hid ((L1.out.trans (hb.mono L1.out.size)).alloc (L1.out.trans (hb.mono L1.out.size)).size (.cells #[.int .u64 A, .int .u64 B, .int .i64 C, .string D] 43))
  have K1 := Lib.hid (Blk.new w2 43 #[.int .u64 A, .int .u64 B, .int .i64 C, .string D])
  clear hb
  go_wp2_with fail
  refine Calls.mono (H2.out _) ?_
  rintro e w3 ⟨rfl, hb⟩
  have L3 := Lib.hid ((L2.out.trans (hb.mono L2.out.size)).alloc (L2.out.trans (hb.mono L2.out.size)).size (.cells #[.int .u64 A, .int .u64 B, .int .i64 C, .string D] 43))
  have K1 := Lib.hid ((K1.out.below hb K1.out.lt).alloc (.cells #[.int .u64 A, .int .u64 B, .int .i64 C, .string D] 43))
  have K2 := Lib.hid (Blk.new w3 43 #[.int .u64 A, .int .u64 B, .int .i64 C, .string D])
  have E3 := HE.out.below L3.out
  clear hb
  go_wp2_with fail
  refine Calls.mono (H3.out _ E3) ?_
  rintro e w4 ⟨rfl, hb⟩
  have L4 := Lib.hid ((L3.out.trans (hb.mono L3.out.size)).alloc (L3.out.trans (hb.mono L3.out.size)).size (.cells #[.int .i64 o, .int .u64 f, .bool false, .int .u64 0, .int .u64 l, .int .u64 t, .bool false, .int .u64 0, .int .u64 m] 45))
  have K1 := Lib.hid ((K1.out.below hb K1.out.lt).alloc (.cells #[.int .i64 o, .int .u64 f, .bool false, .int .u64 0, .int .u64 l, .int .u64 t, .bool false, .int .u64 0, .int .u64 m] 45))
  have K2 := Lib.hid ((K2.out.below hb K2.out.lt).alloc (.cells #[.int .i64 o, .int .u64 f, .bool false, .int .u64 0, .int .u64 l, .int .u64 t, .bool false, .int .u64 0, .int .u64 m] 45))
  have K3 := Lib.hid (Blk.new w4 45 #[.int .i64 o, .int .u64 f, .bool false, .int .u64 0, .int .u64 l, .int .u64 t, .bool false, .int .u64 0, .int .u64 m])
  clear hb E3
  go_wp2_with fail
  refine Calls.mono (H4.out _) ?_
  rintro e w5 ⟨rfl, hb⟩
  have L5 := Lib.hid ((L4.out.trans (hb.mono L4.out.size)).alloc (L4.out.trans (hb.mono L4.out.size)).size (.cells #[.int .i64 o, .int .u64 f, .bool false, .int .u64 0, .int .u64 l, .int .u64 t, .bool false, .int .u64 0, .int .u64 m] 45))
  have K1 := Lib.hid ((K1.out.below hb K1.out.lt).alloc (.cells #[.int .i64 o, .int .u64 f, .bool false, .int .u64 0, .int .u64 l, .int .u64 t, .bool false, .int .u64 0, .int .u64 m] 45))
  have K2 := Lib.hid ((K2.out.below hb K2.out.lt).alloc (.cells #[.int .i64 o, .int .u64 f, .bool false, .int .u64 0, .int .u64 l, .int .u64 t, .bool false, .int .u64 0, .int .u64 m] 45))
  have K3 := Lib.hid ((K3.out.below hb K3.out.lt).alloc (.cells #[.int .i64 o, .int .u64 f, .bool false, .int .u64 0, .int .u64 l, .int .u64 t, .bool false, .int .u64 0, .int .u64 m] 45))
  have K4 := Lib.hid (Blk.new w5 45 #[.int .i64 o, .int .u64 f, .bool false, .int .u64 0, .int .u64 l, .int .u64 t, .bool false, .int .u64 0, .int .u64 m])
  clear hb H1 H2 H3 H4
  obtain ⟨p1, p2, p3, p4⟩ := K1.out.c4
  obtain ⟨q1, q2, q3, q4⟩ := K2.out.c4
  obtain ⟨f1, f2, f3, f4, f5, f6, f7, f8, f9⟩ := K3.out.c9
  obtain ⟨g1, g2, g3, g4, g5, g6, g7, g8, g9⟩ := K4.out.c9
  go_wp2
  go_ret
  exact ⟨rfl, L5.out⟩

set_option maxRecDepth 100000 in
theorem contract (H : Type) (enc : TypeId × Value → H) (W : World) (base : Nat) (args : Array Value) (ds gs : List (DataW H)) (before : List MemPlace)
    (hval0 : ∀ (j : Nat) t v, Tryd.f7.params[j]? = some t → args[j]? = some v → Value.okWide Tryd.prog W .any base t v)
    (hW : DataW.Whole enc Tryd.prog Tryd.f7.params.toList Rows.etherTakesSpec.vars false W args.toList ds gs before)
    (hsz0 : (DataW.weightsEach Tryd.prog (Tryd.f7.params.toList ++ Rows.etherTakesSpec.plain.varTypes Tryd.prog) (ds ++ gs)).all (· ≤ reachBytes) = true) (hE : EnvE W) :
    Calls Tryd.prog 7 args W fun e W' => ∃ v, e = .returned v ∧ Rows.etherTakesSpec.post enc Tryd.prog Tryd.f7 false true false false W args v W' := by
  have hsz := hsz0
  clear hsz0
  have hval := hval0
  clear hval0
  have hW' := hW
  obtain ⟨p, q, hA0, hV, rfl, hfz, hnd⟩ := hW
  have hA : DataW.TrodAll enc Tryd.prog W 0 (fun _ => true) true Tryd.f7.params.toList args.toList ds p := hA0
  rw [Tryd.params7] at hA hval hsz
  obtain ⟨v0, vs0, d0, ds0, p0, q0, hargs, rfl, rfl, h0, r0⟩ := trodAll_cons hA
  obtain ⟨rfl, rfl, rfl⟩ := trodAll_nil r0
  obtain rfl : args = #[v0] := by cases args; simp_all
  obtain ⟨rfl, rfl⟩ := trodVars_none hV
  obtain ⟨a0, rfl, rfl, rfl, w0⟩ := Go.ChangeMaps.open_string Tryd.underlying9 (hval 0 9 v0 rfl rfl) h0
  clear hA0
  refine (walk W hE a0 w0).mono fun e W' ⟨he, bel⟩ => ?_
  subst he
  exact ⟨_, rfl, _, _, _, [], _, [], hW', trodAll_mk1 (shut_bool Tryd.underlying4 _), (trodAll_cons_mk (Go.ChangeMaps.shut_string Tryd.underlying9 w0) trodAll_mk0), rfl, bel.frame _, fun h => by cases h⟩

theorem laid_met (os : Os) (args : Array Value) : laidMet Tryd.prog Rows.etherTakesRow.laid ((World.laidAll Tryd.prog os Rows.etherTakesRow.laid).forCall (fun _ _ => 0) ⟨#[], args, []⟩).memory :=
  laidMet_laidAll _ (by kernel_rfl) (by kernel_rfl)
set_option maxRecDepth 100000 in
theorem pre_row (os : Os) {H : Type} (enc : TypeId × Value → H) :
    (OpenSpec.ofChange Rows.etherTakesSpec).preRow enc Tryd.prog Tryd.f7 Rows.etherTakesRow.domain false Rows.etherTakesRow.laid ((World.laidAll Tryd.prog os Rows.etherTakesRow.laid).forCall (fun _ _ => 0) ⟨#[], #[.string ByteArray.empty], []⟩).memory #[.string ByteArray.empty] := by
  exact ⟨⟨ChangeSpec.pre_of_preB (fuel := 8) (by kernel_rfl), by rw [MakeChecks.laidMetH_plain _ _ _ (by kernel_rfl)]; exact laid_met os _⟩, sizedMet_of_sizedB (fuel := 8) (by kernel_rfl)⟩
set_option maxRecDepth 100000 in
theorem lifted (os : Os) (started : os.Started) (H : Type) (enc : TypeId × Value → H) (F : Stop.Interp) :
    ReturnsInHanded {} Tryd.checked os 7 .any ((OpenSpec.ofChange Rows.etherTakesSpec).preRow enc Tryd.prog Tryd.f7 Rows.etherTakesRow.domain false Rows.etherTakesRow.laid) (((OpenSpec.ofChange Rows.etherTakesSpec).at F).post enc Tryd.prog Tryd.f7 false true false false) := by
  refine returnsInHanded_of_row (C := Tryd.checked) (s := (OpenSpec.ofChange Rows.etherTakesSpec)) own started (by kernel_rfl) Tryd.func7
    ⟨World.laidAll Tryd.prog os Rows.etherTakesRow.laid, fun _ _ => 0, ⟨#[], #[.string ByteArray.empty], []⟩, World.laidAll_os _ _ _, World.shaped_of_ZipB (by kernel_rfl) (by kernel_rfl), rfl, (Input.okWide_of_okWideB (by kernel_rfl)).2, pre_row os enc, (by simp only [Assume.holds]; exact ⟨by simp, by simp, fun _ => Modest.zero, by simp, by simp⟩)⟩ ?_
  intro W base args ds gs before hval hW _ hcond hsz hL hsh _
  rw [MakeChecks.laidMetH_plain _ _ _ (by kernel_rfl)] at hL
  exact contract H enc W base args ds gs before hval hW hsz (envE_of hL)

theorem over : Rows.etherTakesRow.holds Tryd.pinned (OpenSpec.ofChange Rows.etherTakesSpec) :=
  OpenClaim.holds_of_cond 7 Tryd.f7 rfl rfl rfl rfl rfl rfl rfl ⟨rfl, rfl, rfl, rfl, rfl⟩ rfl rfl rfl rfl rfl (by kernel_rfl) Tryd.func7 (by kernel_rfl)
    (of_decide_eq_true (by kernel_rfl)) (by unfold Func.isWrapper; first | (rw [if_pos (by decide +kernel)]; kernel_rfl) | (rw [if_neg (by decide +kernel)]; exact ⟨rfl, rfl⟩))
    (fun os started H enc _ F => by rw [OpenClaim.pre_eq_preRow]; exact lifted os started H enc F)

theorem proved : Rows.EtherTakesCardSaid :=
  Claim7.holds_tied_plain_at .later [] Rows.etherTakesCard.laidKinds true Rows.etherTakesCard.stood.harness true over (fun _ h => by cases h) (by kernel_rfl) (fun _ h => by cases h) etherTakes_row_tie rfl ⟨rfl, rfl⟩ (by kernel_rfl) rfl
    (fun f fn hf hfn => by
      obtain rfl : f = 7 := Option.some.inj ((show Tryd.prog.funcNamed Rows.etherTakesRow.func = some 7 by kernel_rfl).symm.trans hf) |>.symm
      obtain rfl : fn = Tryd.f7 := (Option.some.inj (Tryd.func7.symm.trans hfn)).symm
      exact ⟨by kernel_rfl, fun j t ht => by
        rw [Tryd.params7] at ht
        have hm : t ∈ [9] := by simpa using Array.mem_of_getElem? ht
        have hall : ([9].all fun u => !Tryd.prog.wantsStandIn u) = true := by kernel_rfl
        exact (show Tryd.prog.wantsStandIn t = false by simpa using List.all_eq_true.1 hall t hm)⟩)
    (by kernel_rfl)
#print axioms proved
end Go.Proofs.YtnhlgonldffgoaaDoor.Takes
