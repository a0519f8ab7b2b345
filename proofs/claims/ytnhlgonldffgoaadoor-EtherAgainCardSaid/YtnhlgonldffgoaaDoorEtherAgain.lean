/-
  E6: whatever frame is taken up is laid as the same bytes, if they were enough for a frame: for every text.
-/
import Derived.Test.YtnhlgonldffgoaaDoorEAw
import Derived.Test.YtnhlgonldffgoaaDoorEIn
import Derived.Handy
namespace Go.Proofs.YtnhlgonldffgoaaDoor.Again
open Go.ChangeShapes Go.WideShapes Go.ChangeAt Go.RowKit
set_option linter.unusedVariables false

theorem tk_three (s : ByteArray) : (∃ e : Int, (e = 41 ∨ e = 42 ∨ e = 40) ∧ tkV s = .tuple #[noFrm, .int .i64 e]) ∨ (14 ≤ s.size ∧ s.size ≤ 1514 ∧ ¬ nKd (byt s) < 1536) := by
  by_cases h1 : s.size < 14
  · exact .inl ⟨41, .inl rfl, tkV_short h1⟩
  · by_cases h2 : 1514 < s.size
    · exact .inl ⟨42, .inr (.inl rfl), tkV_long h2⟩
    · by_cases h3 : nKd (byt s) < 1536
      · exact .inl ⟨40, .inr (.inr rfl), tkV_bad (by omega) (by omega) h3⟩
      · exact .inr ⟨by omega, by omega, h3⟩
theorem app_extract (a z : ByteArray) : (a ++ z).extract 0 a.size = a := by
  apply byt_inj
  rw [byt_extract, byt_add, List.drop_zero, List.take_left' (byt_len a)]

set_option maxRecDepth 100000 in
set_option maxHeartbeats 4000000 in
theorem walk (w : World) (hE : EnvE w) (a0 : ByteArray) (w0 : a0.size ≤ maxLen) :
    Calls Tryd.prog 9 #[.string a0] w fun e w' => e = .returned (.bool true) ∧ Below w.heap.size w w' := by
  have HE := Lib.hid hE
  clear hE
  rcases tk_three a0 with ⟨e, he, hv⟩ | ⟨h14, h15, hk⟩
  · have HT := Lib.hid (fun W => take_at a0 hv W)
    clear hv
    rcases he with rfl | rfl | rfl
    all_goals
      go_enter Tryd.func9, Tryd.ntmps9
      go_wp2_with fail
      refine Calls.mono (eawake_yes _ HE.out) ?_
      rintro e w1 ⟨rfl, hb⟩
      have L1 := Lib.hid hb
      clear hb
      go_wp2_with fail
      refine Calls.mono (HT.out _) ?_
      rintro e w2 ⟨rfl, hb⟩
      have L2 := Lib.hid ((L1.out.trans (hb.mono L1.out.size)).alloc (L1.out.trans (hb.mono L1.out.size)).size (.cells #[.int .u64 0, .int .u64 0, .int .i64 0, .string ⟨#[]⟩] 43))
      clear hb
      go_wp2
      go_ret
      exact ⟨rfl, L2.out⟩
  · have hl : 14 ≤ (byt a0).length := by rw [byt_len]; omega
    have t0 := nTo_bd hl (byt_by a0)
    have r0 := nFr_bd hl (byt_by a0)
    have hly := ly_tk a0 h14 h15 (by omega)
    have htk := tkV_ok h14 h15 hk
    obtain ⟨NT, hNT⟩ : ∃ x, nTo (byt a0) = x := ⟨_, rfl⟩
    obtain ⟨NF, hNF⟩ : ∃ x, nFr (byt a0) = x := ⟨_, rfl⟩
    obtain ⟨NK, hNK⟩ : ∃ x, nKd (byt a0) = x := ⟨_, rfl⟩
    obtain ⟨D, hD⟩ : ∃ x, strOfNums ((byt a0).drop 14) = x := ⟨_, rfl⟩
    rw [hNT, hNF, hNK, hD] at htk hly
    rw [hNT] at t0
    rw [hNF] at r0
    have HT := Lib.hid (fun W => take_at a0 htk W)
    by_cases h60 : a0.size < 60
    · obtain ⟨Z, hZ⟩ : ∃ x, strOfNums (List.replicate (60 - a0.size) 0) = x := ⟨_, rfl⟩
      rw [hZ] at hly
      have hex := app_extract a0 Z
      obtain ⟨T, hT⟩ : ∃ x, a0 ++ Z = x := ⟨_, rfl⟩
      have hTs : a0.size ≤ T.size := by rw [← hT, ByteArray.size_append]; omega
      rw [hT] at hly hex
      have HL := Lib.hid (fun W => lay_at NT NF NK D t0.1 r0.1 hly W)
      have n1 : ¬ (T.size : Int) < a0.size := by omega
      have n2 : (a0.size : Int) < 60 := by omega
      have n3 : (a0.size : Int) ≤ T.size := by omega
      clear hT hTs hZ hly htk hNT hNF hNK hD hk h14 h15 hl t0 r0 h60
      go_enter Tryd.func9, Tryd.ntmps9
      go_wp2_with fail
      refine Calls.mono (eawake_yes _ HE.out) ?_
      rintro e w1 ⟨rfl, hb⟩
      have L1 := Lib.hid hb
      clear hb
      go_wp2_with fail
      refine Calls.mono (HT.out _) ?_
      rintro e w2 ⟨rfl, hb⟩
      have L2 := Lib.hid ((L1.out.trans (hb.mono L1.out.size)).alloc (L1.out.trans (hb.mono L1.out.size)).size (.cells #[.int .u64 NT, .int .u64 NF, .int .i64 NK, .string D] 43))
      clear hb
      go_wp2_with fail
      refine Calls.mono (HL.out _) ?_
      rintro e w3 ⟨rfl, hb⟩
      have L3 := Lib.hid (L2.out.trans (hb.mono L2.out.size))
      clear hb
      go_wp2
      all_goals
        go_ret
        exact ⟨rfl, L3.out⟩
    · have hz : a0 ++ strOfNums (List.replicate (60 - a0.size) 0) = a0 := by
        rw [show 60 - a0.size = 0 by omega]
        apply byt_inj
        rw [byt_add, List.replicate_zero, byt_str (fun _ h => by cases h), List.append_nil]
      have hex := app_extract a0 (strOfNums (List.replicate (60 - a0.size) 0))
      rw [hz] at hly hex
      have HL := Lib.hid (fun W => lay_at NT NF NK D t0.1 r0.1 hly W)
      have n2 : ¬ (a0.size : Int) < 60 := by omega
      clear hz hly htk hNT hNF hNK hD hk h14 h15 hl t0 r0 h60
      go_enter Tryd.func9, Tryd.ntmps9
      go_wp2_with fail
      refine Calls.mono (eawake_yes _ HE.out) ?_
      rintro e w1 ⟨rfl, hb⟩
      have L1 := Lib.hid hb
      clear hb
      go_wp2_with fail
      refine Calls.mono (HT.out _) ?_
      rintro e w2 ⟨rfl, hb⟩
      have L2 := Lib.hid ((L1.out.trans (hb.mono L1.out.size)).alloc (L1.out.trans (hb.mono L1.out.size)).size (.cells #[.int .u64 NT, .int .u64 NF, .int .i64 NK, .string D] 43))
      clear hb
      go_wp2_with fail
      refine Calls.mono (HL.out _) ?_
      rintro e w3 ⟨rfl, hb⟩
      have L3 := Lib.hid (L2.out.trans (hb.mono L2.out.size))
      clear hb
      go_wp2
      all_goals
        go_ret
        exact ⟨rfl, L3.out⟩

set_option maxRecDepth 100000 in
theorem contract (H : Type) (enc : TypeId × Value → H) (W : World) (base : Nat) (args : Array Value) (ds gs : List (DataW H)) (before : List MemPlace)
    (hval0 : ∀ (j : Nat) t v, Tryd.f9.params[j]? = some t → args[j]? = some v → Value.okWide Tryd.prog W .any base t v)
    (hW : DataW.Whole enc Tryd.prog Tryd.f9.params.toList Rows.etherAgainSpec.vars false W args.toList ds gs before)
    (hsz0 : (DataW.weightsEach Tryd.prog (Tryd.f9.params.toList ++ Rows.etherAgainSpec.plain.varTypes Tryd.prog) (ds ++ gs)).all (· ≤ reachBytes) = true) (hE : EnvE W) :
    Calls Tryd.prog 9 args W fun e W' => ∃ v, e = .returned v ∧ Rows.etherAgainSpec.post enc Tryd.prog Tryd.f9 false true false false W args v W' := by
  have hsz := hsz0
  clear hsz0
  have hval := hval0
  clear hval0
  have hW' := hW
  obtain ⟨p, q, hA0, hV, rfl, hfz, hnd⟩ := hW
  have hA : DataW.TrodAll enc Tryd.prog W 0 (fun _ => true) true Tryd.f9.params.toList args.toList ds p := hA0
  rw [Tryd.params9] at hA hval hsz
  obtain ⟨v0, vs0, d0, ds0, p0, q0, hargs, rfl, rfl, h0, r0⟩ := trodAll_cons hA
  obtain ⟨rfl, rfl, rfl⟩ := trodAll_nil r0
  obtain rfl : args = #[v0] := by cases args; simp_all
  obtain ⟨rfl, rfl⟩ := trodVars_none hV
  obtain ⟨a0, rfl, rfl, rfl, w0⟩ := Go.ChangeMaps.open_string Tryd.underlying9 (hval 0 9 v0 rfl rfl) h0
  clear hA0
  refine (walk W hE a0 w0).mono fun e W' ⟨he, bel⟩ => ?_
  subst he
  exact ⟨_, rfl, _, _, _, [], _, [], hW', trodAll_mk1 (shut_bool Tryd.underlying4 _), (trodAll_cons_mk (Go.ChangeMaps.shut_string Tryd.underlying9 w0) trodAll_mk0), rfl, bel.frame _, fun h => by cases h⟩

theorem laid_met (os : Os) (args : Array Value) : laidMet Tryd.prog Rows.etherAgainRow.laid ((World.laidAll Tryd.prog os Rows.etherAgainRow.laid).forCall (fun _ _ => 0) ⟨#[], args, []⟩).memory :=
  laidMet_laidAll _ (by kernel_rfl) (by kernel_rfl)
set_option maxRecDepth 100000 in
theorem pre_row (os : Os) {H : Type} (enc : TypeId × Value → H) :
    (OpenSpec.ofChange Rows.etherAgainSpec).preRow enc Tryd.prog Tryd.f9 Rows.etherAgainRow.domain false Rows.etherAgainRow.laid ((World.laidAll Tryd.prog os Rows.etherAgainRow.laid).forCall (fun _ _ => 0) ⟨#[], #[.string ByteArray.empty], []⟩).memory #[.string ByteArray.empty] := by
  exact ⟨⟨ChangeSpec.pre_of_preB (fuel := 8) (by kernel_rfl), by rw [MakeChecks.laidMetH_plain _ _ _ (by kernel_rfl)]; exact laid_met os _⟩, sizedMet_of_sizedB (fuel := 8) (by kernel_rfl)⟩
set_option maxRecDepth 100000 in
theorem lifted (os : Os) (started : os.Started) (H : Type) (enc : TypeId × Value → H) (F : Stop.Interp) :
    ReturnsInHanded {} Tryd.checked os 9 .any ((OpenSpec.ofChange Rows.etherAgainSpec).preRow enc Tryd.prog Tryd.f9 Rows.etherAgainRow.domain false Rows.etherAgainRow.laid) (((OpenSpec.ofChange Rows.etherAgainSpec).at F).post enc Tryd.prog Tryd.f9 false true false false) := by
  refine returnsInHanded_of_row (C := Tryd.checked) (s := (OpenSpec.ofChange Rows.etherAgainSpec)) own started (by kernel_rfl) Tryd.func9
    ⟨World.laidAll Tryd.prog os Rows.etherAgainRow.laid, fun _ _ => 0, ⟨#[], #[.string ByteArray.empty], []⟩, World.laidAll_os _ _ _, World.shaped_of_ZipB (by kernel_rfl) (by kernel_rfl), rfl, (Input.okWide_of_okWideB (by kernel_rfl)).2, pre_row os enc, (by simp only [Assume.holds]; exact ⟨by simp, by simp, fun _ => Modest.zero, by simp, by simp⟩)⟩ ?_
  intro W base args ds gs before hval hW _ hcond hsz hL hsh _
  rw [MakeChecks.laidMetH_plain _ _ _ (by kernel_rfl)] at hL
  exact contract H enc W base args ds gs before hval hW hsz (envE_of hL)

theorem over : Rows.etherAgainRow.holds Tryd.pinned (OpenSpec.ofChange Rows.etherAgainSpec) :=
  OpenClaim.holds_of_cond 9 Tryd.f9 rfl rfl rfl rfl rfl rfl rfl ⟨rfl, rfl, rfl, rfl, rfl⟩ rfl rfl rfl rfl rfl (by kernel_rfl) Tryd.func9 (by kernel_rfl)
    (of_decide_eq_true (by kernel_rfl)) (by unfold Func.isWrapper; first | (rw [if_pos (by decide +kernel)]; kernel_rfl) | (rw [if_neg (by decide +kernel)]; exact ⟨rfl, rfl⟩))
    (fun os started H enc _ F => by rw [OpenClaim.pre_eq_preRow]; exact lifted os started H enc F)

theorem proved : Rows.EtherAgainCardSaid :=
  Claim7.holds_tied_plain_at .later [] Rows.etherAgainCard.laidKinds true Rows.etherAgainCard.stood.harness true over (fun _ h => by cases h) (by kernel_rfl) (fun _ h => by cases h) etherAgain_row_tie rfl ⟨rfl, rfl⟩ (by kernel_rfl) rfl
    (fun f fn hf hfn => by
      obtain rfl : f = 9 := Option.some.inj ((show Tryd.prog.funcNamed Rows.etherAgainRow.func = some 9 by kernel_rfl).symm.trans hf) |>.symm
      obtain rfl : fn = Tryd.f9 := (Option.some.inj (Tryd.func9.symm.trans hfn)).symm
      exact ⟨by kernel_rfl, fun j t ht => by
        rw [Tryd.params9] at ht
        have hm : t ∈ [9] := by simpa using Array.mem_of_getElem? ht
        have hall : ([9].all fun u => !Tryd.prog.wantsStandIn u) = true := by kernel_rfl
        exact (show Tryd.prog.wantsStandIn t = false by simpa using List.all_eq_true.1 hall t hm)⟩)
    (by kernel_rfl)
#print axioms proved
end Go.Proofs.YtnhlgonldffgoaaDoor.Again
