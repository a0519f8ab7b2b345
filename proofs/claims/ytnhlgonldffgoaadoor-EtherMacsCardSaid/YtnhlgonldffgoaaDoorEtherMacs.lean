/-
  E5: link's addresses are read and told as the document says; what is told is read back: for every text and number.
-/
import Derived.Test.YtnhlgonldffgoaaDoorEAw
import Derived.Test.YtnhlgonldffgoaaDoorEIn
import Derived.Test.YtnhlgonldffgoaaDoorERPr
import Derived.Handy
namespace Go.Proofs.YtnhlgonldffgoaaDoor.Macs
open Go.ChangeShapes Go.WideShapes Go.ChangeAt Go.RowKit
set_option linter.unusedVariables false

theorem pmV_form (s : ByteArray) : ∃ a e : Int, pmV s = .tuple #[.int .u64 a, .int .i64 e] := by
  unfold pmV
  split
  · split
    · exact ⟨_, _, rfl⟩
    · exact ⟨_, _, rfl⟩
  · exact ⟨_, _, rfl⟩
theorem prM_yes {m : Int} (h : mcB m = true) : ∃ c l, prM m = ⟨(c :: l : List UInt8).toArray⟩ := by
  unfold prM
  rw [if_pos h, putOf_cons, putOf_cons, mtx_cons]
  exact ⟨_, _, rfl⟩

set_option maxRecDepth 100000 in
set_option maxHeartbeats 4000000 in
theorem walk (w : World) (hE : EnvE w) (a0 : ByteArray) (w0 : a0.size ≤ maxLen) (a1 : Int) (w1 : (Lit.int .u64 a1).wf = true) :
    Calls Tryd.prog 11 #[.string a0, .int .u64 a1] w fun e w' => e = .returned (.bool true) ∧ Below w.heap.size w w' := by
  have HE := Lib.hid hE
  obtain ⟨m0, m1⟩ := u6_of' w1
  obtain ⟨A, E, hp⟩ := pmV_form a0
  have H1 := Lib.hid (fun W => parseMac_at a0 hp W)
  have H2 := Lib.hid (fun W => by have := rparseMac_any a0 W; rw [hp] at this; exact this)
  obtain ⟨V, hV⟩ : ∃ V, mcB a1 = V := ⟨_, rfl⟩
  cases V
  · have hpr : prM a1 = ⟨#[]⟩ := by unfold prM; rw [hV, if_neg (by decide)]
    have H3 := Lib.hid (fun W => printMac_at a1 m0 hpr W)
    have H4 := Lib.hid (fun W => by have := rprintMac_any a1 m0 m1 W; rw [hpr] at this; exact this)
    have hge : (281474976710656 : Int) ≤ a1 := by simp [mcB] at hV; omega
    have hge2 : decide ((281474976710656 : Int) ≤ a1) = true := by simpa using hge
    clear hE hp hV hpr m0 m1 w1 hge
    go_enter Tryd.func11, Tryd.ntmps11
    go_wp2_with fail
    refine Calls.mono (eawake_yes _ HE.out) ?_
    rintro e w1 ⟨rfl, hb⟩
    have L1 := Lib.hid hb
    clear hb
    go_wp2_with fail
    refine Calls.mono (H1.out _) ?_
    rintro e w2 ⟨rfl, hb⟩
    have L2 := Lib.hid (L1.out.trans (hb.mono L1.out.size))
    clear hb
    go_wp2_with fail
    refine Calls.mono (H2.out _) ?_
    rintro e w3 ⟨rfl, rfl⟩
    go_wp2_with fail
    refine Calls.mono (H3.out _) ?_
    rintro e w4 ⟨rfl, hb⟩
    have L4 := Lib.hid (L2.out.trans (hb.mono L2.out.size))
    clear hb
    go_wp2_with fail
    refine Calls.mono (H4.out _) ?_
    rintro e w5 ⟨rfl, hb⟩
    have L5 := Lib.hid (L4.out.trans (hb.mono L4.out.size))
    clear hb
    go_wp2
    go_ret
    exact ⟨ret_bool (by simp), L5.out⟩
  · have hpm := pm_pr m0 hV
    obtain ⟨c, l, hpr⟩ := prM_yes hV
    obtain ⟨T, hT⟩ : ∃ T, prM a1 = T := ⟨_, rfl⟩
    rw [hT] at hpm hpr
    have hTne : T.toList.isEmpty = false := by rw [hpr, ByteArray.toList_eq]; rfl
    have hTne2 : (T == ⟨#[]⟩) = false := by rw [hpr]; rfl
    have H3 := Lib.hid (fun W => printMac_at a1 m0 hT W)
    have H4 := Lib.hid (fun W => by have := rprintMac_any a1 m0 m1 W; rw [hT] at this; exact this)
    have H5 := Lib.hid (fun W => parseMac_at T hpm W)
    clear hE hp hV hpr hpm hT m0 m1 w1
    go_enter Tryd.func11, Tryd.ntmps11
    go_wp2_with fail
    refine Calls.mono (eawake_yes _ HE.out) ?_
    rintro e w1 ⟨rfl, hb⟩
    have L1 := Lib.hid hb
    clear hb
    go_wp2_with fail
    refine Calls.mono (H1.out _) ?_
    rintro e w2 ⟨rfl, hb⟩
    have L2 := Lib.hid (L1.out.trans (hb.mono L1.out.size))
    clear hb
    go_wp2_with fail
    refine Calls.mono (H2.out _) ?_
    rintro e w3 ⟨rfl, rfl⟩
    go_wp2_with fail
    refine Calls.mono (H3.out _) ?_
    rintro e w4 ⟨rfl, hb⟩
    have L4 := Lib.hid (L2.out.trans (hb.mono L2.out.size))
    clear hb
    go_wp2_with fail
    refine Calls.mono (H4.out _) ?_
    rintro e w5 ⟨rfl, hb⟩
    have L5 := Lib.hid (L4.out.trans (hb.mono L4.out.size))
    clear hb
    go_wp2_with fail
    refine Calls.mono (H5.out _) ?_
    rintro e w6 ⟨rfl, hb⟩
    have L6 := Lib.hid (L5.out.trans (hb.mono L5.out.size))
    clear hb
    go_wp2
    go_ret
    exact ⟨ret_bool (by simp), L6.out⟩

set_option maxRecDepth 100000 in
theorem contract (H : Type) (enc : TypeId × Value → H) (W : World) (base : Nat) (args : Array Value) (ds gs : List (DataW H)) (before : List MemPlace)
    (hval0 : ∀ (j : Nat) t v, Tryd.f11.params[j]? = some t → args[j]? = some v → Value.okWide Tryd.prog W .any base t v)
    (hW : DataW.Whole enc Tryd.prog Tryd.f11.params.toList Rows.etherMacsSpec.vars false W args.toList ds gs before)
    (hsz0 : (DataW.weightsEach Tryd.prog (Tryd.f11.params.toList ++ Rows.etherMacsSpec.plain.varTypes Tryd.prog) (ds ++ gs)).all (· ≤ reachBytes) = true) (hE : EnvE W) :
    Calls Tryd.prog 11 args W fun e W' => ∃ v, e = .returned v ∧ Rows.etherMacsSpec.post enc Tryd.prog Tryd.f11 false true false false W args v W' := by
  have hsz := hsz0
  clear hsz0
  have hval := hval0
  clear hval0
  have hW' := hW
  obtain ⟨p, q, hA0, hV, rfl, hfz, hnd⟩ := hW
  have hA : DataW.TrodAll enc Tryd.prog W 0 (fun _ => true) true Tryd.f11.params.toList args.toList ds p := hA0
  rw [Tryd.params11] at hA hval hsz
  obtain ⟨v0, vs0, d0, ds0, p0, q0, hargs, rfl, rfl, h0, r0⟩ := trodAll_cons hA
  obtain ⟨v1, vs1, d1, ds1, p1, q1, rfl, rfl, rfl, h1, r1⟩ := trodAll_cons r0
  obtain ⟨rfl, rfl, rfl⟩ := trodAll_nil r1
  obtain rfl : args = #[v0, v1] := by cases args; simp_all
  obtain ⟨rfl, rfl⟩ := trodVars_none hV
  obtain ⟨a0, rfl, rfl, rfl, w0⟩ := Go.ChangeMaps.open_string Tryd.underlying9 (hval 0 9 v0 rfl rfl) h0
  obtain ⟨a1, rfl, rfl, rfl, w1⟩ := open_int Tryd.underlying41 (hval 1 41 v1 rfl rfl) h1
  clear hA0
  refine (walk W hE a0 w0 a1 w1).mono fun e W' ⟨he, bel⟩ => ?_
  subst he
  exact ⟨_, rfl, _, _, _, [], _, [], hW', trodAll_mk1 (shut_bool Tryd.underlying4 _), (trodAll_cons_mk (Go.ChangeMaps.shut_string Tryd.underlying9 w0) (trodAll_cons_mk (shut_int Tryd.underlying41 w1) trodAll_mk0)), rfl, bel.frame _, fun h => by cases h⟩

theorem laid_met (os : Os) (args : Array Value) : laidMet Tryd.prog Rows.etherMacsRow.laid ((World.laidAll Tryd.prog os Rows.etherMacsRow.laid).forCall (fun _ _ => 0) ⟨#[], args, []⟩).memory :=
  laidMet_laidAll _ (by kernel_rfl) (by kernel_rfl)
set_option maxRecDepth 100000 in
theorem pre_row (os : Os) {H : Type} (enc : TypeId × Value → H) :
    (OpenSpec.ofChange Rows.etherMacsSpec).preRow enc Tryd.prog Tryd.f11 Rows.etherMacsRow.domain false Rows.etherMacsRow.laid ((World.laidAll Tryd.prog os Rows.etherMacsRow.laid).forCall (fun _ _ => 0) ⟨#[], #[.string ByteArray.empty, .int .u64 0], []⟩).memory #[.string ByteArray.empty, .int .u64 0] := by
  exact ⟨⟨ChangeSpec.pre_of_preB (fuel := 8) (by kernel_rfl), by rw [MakeChecks.laidMetH_plain _ _ _ (by kernel_rfl)]; exact laid_met os _⟩, sizedMet_of_sizedB (fuel := 8) (by kernel_rfl)⟩
set_option maxRecDepth 100000 in
theorem lifted (os : Os) (started : os.Started) (H : Type) (enc : TypeId × Value → H) (F : Stop.Interp) :
    ReturnsInHanded {} Tryd.checked os 11 .any ((OpenSpec.ofChange Rows.etherMacsSpec).preRow enc Tryd.prog Tryd.f11 Rows.etherMacsRow.domain false Rows.etherMacsRow.laid) (((OpenSpec.ofChange Rows.etherMacsSpec).at F).post enc Tryd.prog Tryd.f11 false true false false) := by
  refine returnsInHanded_of_row (C := Tryd.checked) (s := (OpenSpec.ofChange Rows.etherMacsSpec)) own started (by kernel_rfl) Tryd.func11
    ⟨World.laidAll Tryd.prog os Rows.etherMacsRow.laid, fun _ _ => 0, ⟨#[], #[.string ByteArray.empty, .int .u64 0], []⟩, World.laidAll_os _ _ _, World.shaped_of_ZipB (by kernel_rfl) (by kernel_rfl), rfl, (Input.okWide_of_okWideB (by kernel_rfl)).2, pre_row os enc, (by simp only [Assume.holds]; exact ⟨by simp, by simp, fun _ => Modest.zero, by simp, by simp⟩)⟩ ?_
  intro W base args ds gs before hval hW _ hcond hsz hL hsh _
  rw [MakeChecks.laidMetH_plain _ _ _ (by kernel_rfl)] at hL
  exact contract H enc W base args ds gs before hval hW hsz (envE_of hL)

theorem over : Rows.etherMacsRow.holds Tryd.pinned (OpenSpec.ofChange Rows.etherMacsSpec) :=
  OpenClaim.holds_of_cond 11 Tryd.f11 rfl rfl rfl rfl rfl rfl rfl ⟨rfl, rfl, rfl, rfl, rfl⟩ rfl rfl rfl rfl rfl (by kernel_rfl) Tryd.func11 (by kernel_rfl)
    (of_decide_eq_true (by kernel_rfl)) (by unfold Func.isWrapper; first | (rw [if_pos (by decide +kernel)]; kernel_rfl) | (rw [if_neg (by decide +kernel)]; exact ⟨rfl, rfl⟩))
    (fun os started H enc _ F => by rw [OpenClaim.pre_eq_preRow]; exact lifted os started H enc F)

theorem proved : Rows.EtherMacsCardSaid :=
  Claim7.holds_tied_plain_at .later [] Rows.etherMacsCard.laidKinds true Rows.etherMacsCard.stood.harness true over (fun _ h => by cases h) (by kernel_rfl) (fun _ h => by cases h) etherMacs_row_tie rfl ⟨rfl, rfl⟩ (by kernel_rfl) rfl
    (fun f fn hf hfn => by
      obtain rfl : f = 11 := Option.some.inj ((show Tryd.prog.funcNamed Rows.etherMacsRow.func = some 11 by kernel_rfl).symm.trans hf) |>.symm
      obtain rfl : fn = Tryd.f11 := (Option.some.inj (Tryd.func11.symm.trans hfn)).symm
      exact ⟨by kernel_rfl, fun j t ht => by
        rw [Tryd.params11] at ht
        have hm : t ∈ [9, 41] := by simpa using Array.mem_of_getElem? ht
        have hall : ([9, 41].all fun u => !Tryd.prog.wantsStandIn u) = true := by kernel_rfl
        exact (show Tryd.prog.wantsStandIn t = false by simpa using List.all_eq_true.1 hall t hm)⟩)
    (by kernel_rfl)
#print axioms proved
end Go.Proofs.YtnhlgonldffgoaaDoor.Macs
