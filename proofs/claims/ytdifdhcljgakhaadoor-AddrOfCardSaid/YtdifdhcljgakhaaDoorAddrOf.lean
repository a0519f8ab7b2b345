/-
  B3: any bytes are the address that the document says, or none; the bytes stay.
-/
import Derived.Test.YtdifdhcljgakhaaDoorAwaken
import Derived.Test.YtdifdhcljgakhaaDoorSame
import Derived.Test.YtdifdhcljgakhaaDoorRGet
import Derived.Test.YtdifdhcljgakhaaDoorAppk
import Derived.Test.YtdifdhcljgakhaaDoorApp
import Derived.Handy
namespace Go.Proofs.YtdifdhcljgakhaaDoor.Ofs
open Go.ChangeShapes Go.WideShapes Go.ChangeAt Go.RowKit
set_option linter.unusedVariables false

set_option maxRecDepth 100000 in
set_option maxHeartbeats 4000000 in
theorem rof_any (w : World) (B : Nat) (A : Option Addr) (n c : Nat) (zs : List Int) (hz : RI .u8 w B A n zs) (hB : B ≤ w.heap.size) (hm : n ≤ 9223372036854775807) :
    Calls Tryd.prog 25 #[.slice A n c] w fun e w' => e = .returned (ofV zs) ∧ Below w.heap.size w w' := by
  have HL := Lib.hid hz.1
  have hz1 := (hz.alloc hB (.cells #[.bool false, .int .u64 0, .int .u64 0] 25))
  by_cases h4 : n = 4
  · subst h4
    have H := rget_yes _ B A 4 c 0 4 zs hz1 (by decide) (by decide) (by decide)
    rw [List.drop_zero, List.take_of_length_le (by rw [HL.out]; exact Nat.le_refl _)] at H
    have H' := Lib.hid H
    clear hz hz1 H
    go_enter Tryd.func25, Tryd.ntmps25
    go_wp2_with fail
    refine Calls.mono H'.out ?_
    rintro e w' ⟨rfl, rfl⟩
    go_wp2
    exact bodyPost_ret (v := .tuple #[adr false 0 (numOf zs), .int .i64 0]) (by simp [results, Tryd.results25, go_sem]) rfl ⟨by unfold ofV; rw [if_pos HL.out], by first | exact (Below.refl _ _).alloc (Nat.le_refl _) _ | (go_grown)⟩
  · by_cases h16 : n = 16
    · subst h16
      have H1 := rget_yes _ B A 16 c 0 8 zs hz1 (by decide) (by decide) (by decide)
      have H2 := rget_yes _ B A 16 c 8 8 zs hz1 (by decide) (by decide) (by decide)
      rw [List.drop_zero] at H1
      rw [List.take_of_length_le (by rw [List.length_drop, HL.out]; exact Nat.le_refl _)] at H2
      have H1' := Lib.hid H1
      have H2' := Lib.hid H2
      clear hz hz1 H1 H2
      go_enter Tryd.func25, Tryd.ntmps25
      go_wp2_with fail
      refine Calls.mono H1'.out ?_
      rintro e w' ⟨rfl, rfl⟩
      go_wp2_with fail
      refine Calls.mono H2'.out ?_
      rintro e w' ⟨rfl, rfl⟩
      go_wp2
      exact bodyPost_ret (v := .tuple #[adr true (numOf (zs.take 8)) (numOf (zs.drop 8)), .int .i64 0]) (by simp [results, Tryd.results25, go_sem]) rfl ⟨by unfold ofV; rw [if_neg (by rw [HL.out]; exact h4), if_pos HL.out], by first | exact (Below.refl _ _).alloc (Nat.le_refl _) _ | (go_grown)⟩
    · have n4 : ¬ (n : Int) = 4 := by omega
      have n16 : ¬ (n : Int) = 16 := by omega
      clear hz hz1
      go_enter Tryd.func25, Tryd.ntmps25
      go_wp2
      exact bodyPost_ret (v := .tuple #[adr false 0 0, .int .i64 20]) (by simp [results, Tryd.results25, go_sem]) rfl ⟨by unfold ofV; rw [if_neg (by rw [HL.out]; exact h4), if_neg (by rw [HL.out]; exact h16)], (Below.refl _ _).alloc (Nat.le_refl _) _⟩

set_option maxRecDepth 100000 in
set_option maxHeartbeats 4000000 in
theorem walk (w : World) (hE : Env w) (a0 : Option Addr) (l0 c0 : Nat) (z0 : List Int) (w0 : IsRow .u8 w a0 l0 c0 z0) (s0 : c0 * 1 ≤ 140737488351232) :
    Calls Tryd.prog 7 #[.slice a0 l0 c0] w fun e w' => e = .returned (.bool true) ∧ Below w.heap.size w w' := by
  obtain ⟨hri, hlc, hcm⟩ := w0.ri
  have hwf : ∀ z ∈ z0.take l0, (Lit.int .u8 z).wf = true := hri.2.2
  have HWF := Lib.hid hwf
  obtain ⟨zs, hzs⟩ : ∃ zs, zs = z0.take l0 := ⟨_, rfl⟩
  rw [← hzs] at hri
  rw [← hzs] at HWF
  have HR0 := Lib.hid hri
  have hA0 : Hid (a0 = none → c0 = 0) := Lib.hid (by rcases w0 with ⟨_, _, h, _⟩ | ⟨x, h, _⟩; exact fun _ => h; exact fun e => by rw [h] at e; cases e)
  obtain ⟨vs, vh, vl, ve, hv⟩ : ∃ s h l e, ofV zs = .tuple #[adr s h l, .int .i64 e] := by
    unfold ofV; split
    · exact ⟨_, _, _, _, rfl⟩
    · split <;> exact ⟨_, _, _, _, rfl⟩
  have HV := Lib.hid hv
  have HS := Lib.hid s0
  have HLC := Lib.hid hlc
  have HEE := Lib.hid hE
  clear hri hwf hzs w0 hv s0 hlc hcm hE
  go_enter Tryd.func7, Tryd.ntmps7
  go_wp2_with fail
  refine Calls.mono (awake_yes _ HEE.out) ?_
  rintro e w1 ⟨rfl, hb⟩
  have R1 := Lib.hid ((HR0.out.below hb))
  have L1 := Lib.hid hb
  clear hb
  go_wp2_with (first
    | (at_builtin; refine wpList_app _ rfl (.tmp 10) (.tmp 11) rfl w1.heap.size (.slice none 0 0) 0 [] rfl ⟨by simp, .inl ⟨rfl, rfl⟩⟩ w.heap.size a0 l0 c0 zs rfl hA0.out R1.out (by have := HS.out; have := HLC.out; omega) (Nat.le_refl _) ?_; intro v1 w2 hown1 hg1 hat1; have HB2 := Lib.hid ((Below.refl w1.heap.size w1).grown hg1 (Nat.le_refl _) (fun k hk => by simp [Value.ownBlock] at hk)); obtain ⟨A2, c2, hv2, hri2, -, -, hnc2, hcm2⟩ := own_ri HWF.out (by simpa using hown1); subst hv2; have RO := Lib.hid hri2; clear hown1 hg1 hat1 hri2; refine Hid.out ?_))
  have L2 := Lib.hid (L1.out.trans (HB2.out.mono L1.out.size))
  have R2 := Lib.hid (R1.out.below (HB2.out.mono L1.out.size))
  have H1 := of_any w2 w2.heap.size A2 l0 c2 zs RO.out (Nat.le_refl _) hnc2 hcm2
  rw [HV.out] at H1
  have H1' := Lib.hid H1
  clear H1
  refine Lib.hid ?_
  go_wp2_with fail
  refine Calls.mono H1'.out ?_
  rintro e w3 ⟨rfl, hb⟩
  have L3 := Lib.hid ((L2.out.trans (hb.mono L2.out.size)).alloc (L2.out.trans (hb.mono L2.out.size)).size (.cells #[.bool vs, .int .u64 vh, .int .u64 vl] 25))
  have R3 := Lib.hid ((R2.out.below (hb.mono L2.out.size)).alloc (L2.out.trans (hb.mono L2.out.size)).size (.cells #[.bool vs, .int .u64 vh, .int .u64 vl] 25))
  have O3 := Lib.hid ((RO.out.below hb).alloc hb.size (.cells #[.bool vs, .int .u64 vh, .int .u64 vl] 25))
  have K3 := Lib.hid (Blk.new w3 25 #[.bool vs, .int .u64 vh, .int .u64 vl])
  have hs3 : w2.heap.size ≤ w3.heap.size := hb.size
  have hs30 : w.heap.size ≤ (w3.alloc (.cells #[.bool vs, .int .u64 vh, .int .u64 vl] 25)).heap.size := L3.out.size
  have H2 := rof_any _ w.heap.size a0 l0 c0 zs R3.out hs30 (by have := HS.out; have := HLC.out; omega)
  rw [HV.out] at H2
  have H2' := Lib.hid H2
  clear H2 hb
  go_wp2_with fail
  refine Calls.mono H2'.out ?_
  rintro e w4 ⟨rfl, hb⟩
  have L4 := Lib.hid ((L3.out.trans (hb.mono L3.out.size)).alloc (L3.out.trans (hb.mono L3.out.size)).size (.cells #[.bool vs, .int .u64 vh, .int .u64 vl] 25))
  have R4 := Lib.hid ((R3.out.below (hb.mono hs30)).alloc (L3.out.trans (hb.mono L3.out.size)).size (.cells #[.bool vs, .int .u64 vh, .int .u64 vl] 25))
  have O4 := Lib.hid ((O3.out.below (hb.mono (by simp only [World.size_alloc]; omega))).alloc (by have := hb.size; simp only [World.size_alloc] at this; omega) (.cells #[.bool vs, .int .u64 vh, .int .u64 vl] 25))
  have K4 := Lib.hid ((K3.out.below hb (by simp only [World.size_alloc]; omega)).alloc (.cells #[.bool vs, .int .u64 vh, .int .u64 vl] 25))
  obtain ⟨k1, k2, k3⟩ := K4.out.c3
  have HSM := Lib.hid (same_yes _ _ _ A2 a0 l0 c2 c0 zs O4.out R4.out (by have := HS.out; have := HLC.out; omega))
  clear hb
  go_wp2_with fail
  refine Calls.mono HSM.out ?_
  rintro e w' ⟨rfl, m, rfl⟩
  have LE := below_drewN L4.out m
  go_wp2
  go_ret
  exact ⟨rfl, LE⟩

set_option maxRecDepth 100000 in
theorem contract (H : Type) (enc : TypeId × Value → H) (W : World) (base : Nat) (args : Array Value) (ds gs : List (DataW H)) (before : List MemPlace)
    (hval0 : ∀ (j : Nat) t v, Tryd.f7.params[j]? = some t → args[j]? = some v → Value.okWide Tryd.prog W .any base t v)
    (hW : DataW.Whole enc Tryd.prog Tryd.f7.params.toList Rows.addrOfSpec.vars false W args.toList ds gs before)
    (hsz0 : (DataW.weightsEach Tryd.prog (Tryd.f7.params.toList ++ Rows.addrOfSpec.plain.varTypes Tryd.prog) (ds ++ gs)).all (· ≤ reachBytes) = true) (hE : Env W) :
    Calls Tryd.prog 7 args W fun e W' => ∃ v, e = .returned v ∧ Rows.addrOfSpec.post enc Tryd.prog Tryd.f7 false true false false W args v W' := by
  have hsz := hsz0
  clear hsz0
  have hval := hval0
  clear hval0
  have hW' := hW
  obtain ⟨p, q, hA0, hV, rfl, hfz, hnd⟩ := hW
  have hA : DataW.TrodAll enc Tryd.prog W 0 (fun _ => true) true Tryd.f7.params.toList args.toList ds p := hA0
  rw [Tryd.params7] at hA hval hsz
  obtain ⟨v0, vs0, d0, ds0, p0, q0, hargs, rfl, rfl, h0, r0⟩ := trodAll_cons hA
  obtain ⟨rfl, rfl, rfl⟩ := trodAll_nil r0
  obtain rfl : args = #[v0] := by cases args; simp_all
  obtain ⟨rfl, rfl⟩ := trodVars_none hV
  obtain ⟨a0, l0, c0, rfl⟩ := okWide_slice Tryd.underlying30 (hval 0 30 v0 rfl rfl)
  have k0 := h0
  have lt0 : ∀ x ∈ p0, x.block < W.heap.size := by obtain ⟨m, hm⟩ := k0; exact DataW.trod_lt m _ _ _ hm
  obtain ⟨z0, w0, s0⟩ : ∃ zs, IsRow .u8 W a0 l0 c0 zs ∧ c0 * 1 ≤ 140737488351232 := isRow_of Tryd.underlying30 Tryd.underlying5 (by kernel_rfl) (by kernel_rfl) h0 (fun hx => sized_slice hsz (j := 0) (t := 30) (e := 5) rfl (by rw [hx]; rfl) Tryd.underlying30)
  clear hA0
  refine (walk W hE a0 l0 c0 z0 w0 s0).mono fun e W' ⟨he, bel⟩ => ?_
  subst he
  exact ⟨_, rfl, _, _, _, [], _, [], hW', trodAll_mk1 (shut_bool Tryd.underlying4 _), (trodAll_cons_mk (Below.trod laidOut (by kernel_rfl) (of_decide_eq_true (by kernel_rfl)) k0 bel lt0) trodAll_mk0), rfl, bel.frame _, fun h => by cases h⟩

theorem laid_met (os : Os) (args : Array Value) : laidMet Tryd.prog Rows.addrOfRow.laid ((World.laidAll Tryd.prog os Rows.addrOfRow.laid).forCall (fun _ _ => 0) ⟨#[], args, []⟩).memory :=
  laidMet_laidAll _ (by kernel_rfl) (by kernel_rfl)
set_option maxRecDepth 100000 in
theorem pre_row (os : Os) {H : Type} (enc : TypeId × Value → H) :
    (OpenSpec.ofChange Rows.addrOfSpec).preRow enc Tryd.prog Tryd.f7 Rows.addrOfRow.domain false Rows.addrOfRow.laid ((World.laidAll Tryd.prog os Rows.addrOfRow.laid).forCall (fun _ _ => 0) ⟨#[], #[.slice none 0 0], []⟩).memory #[.slice none 0 0] := by
  exact ⟨⟨ChangeSpec.pre_of_preB (fuel := 8) (by kernel_rfl), by rw [MakeChecks.laidMetH_plain _ _ _ (by kernel_rfl)]; exact laid_met os _⟩, sizedMet_of_sizedB (fuel := 8) (by kernel_rfl)⟩
set_option maxRecDepth 100000 in
theorem lifted (os : Os) (started : os.Started) (H : Type) (enc : TypeId × Value → H) (F : Stop.Interp) :
    ReturnsInHanded {} Tryd.checked os 7 .any ((OpenSpec.ofChange Rows.addrOfSpec).preRow enc Tryd.prog Tryd.f7 Rows.addrOfRow.domain false Rows.addrOfRow.laid) (((OpenSpec.ofChange Rows.addrOfSpec).at F).post enc Tryd.prog Tryd.f7 false true false false) := by
  refine returnsInHanded_of_row (C := Tryd.checked) (s := (OpenSpec.ofChange Rows.addrOfSpec)) own started (by kernel_rfl) Tryd.func7
    ⟨World.laidAll Tryd.prog os Rows.addrOfRow.laid, fun _ _ => 0, ⟨#[], #[.slice none 0 0], []⟩, World.laidAll_os _ _ _, World.shaped_of_ZipB (by kernel_rfl) (by kernel_rfl), rfl, (Input.okWide_of_okWideB (by kernel_rfl)).2, pre_row os enc, (by simp only [Assume.holds]; exact ⟨by simp, by simp, fun _ => Modest.zero, by simp, by simp⟩)⟩ ?_
  intro W base args ds gs before hval hW _ hcond hsz hL hsh _
  rw [MakeChecks.laidMetH_plain _ _ _ (by kernel_rfl)] at hL
  exact contract H enc W base args ds gs before hval hW hsz (env_of hL hsh)

theorem over : Rows.addrOfRow.holds Tryd.pinned (OpenSpec.ofChange Rows.addrOfSpec) :=
  OpenClaim.holds_of_cond 7 Tryd.f7 rfl rfl rfl rfl rfl rfl rfl ⟨rfl, rfl, rfl, rfl, rfl⟩ rfl rfl rfl rfl rfl (by kernel_rfl) Tryd.func7 (by kernel_rfl)
    (of_decide_eq_true (by kernel_rfl)) (by unfold Func.isWrapper; first | (rw [if_pos (by decide +kernel)]; kernel_rfl) | (rw [if_neg (by decide +kernel)]; exact ⟨rfl, rfl⟩))
    (fun os started H enc _ F => by rw [OpenClaim.pre_eq_preRow]; exact lifted os started H enc F)

theorem proved : Rows.AddrOfCardSaid :=
  Claim7.holds_tied_plain_at .later [] Rows.addrOfCard.laidKinds true Rows.addrOfCard.stood.harness true over (fun _ h => by cases h) (by kernel_rfl) (fun _ h => by cases h) addrOf_row_tie rfl ⟨rfl, rfl⟩ (by kernel_rfl) rfl
    (fun f fn hf hfn => by
      obtain rfl : f = 7 := Option.some.inj ((show Tryd.prog.funcNamed Rows.addrOfRow.func = some 7 by kernel_rfl).symm.trans hf) |>.symm
      obtain rfl : fn = Tryd.f7 := (Option.some.inj (Tryd.func7.symm.trans hfn)).symm
      exact ⟨by kernel_rfl, fun j t ht => by
        rw [Tryd.params7] at ht
        have hm : t ∈ [30] := by simpa using Array.mem_of_getElem? ht
        have hall : ([30].all fun u => !Tryd.prog.wantsStandIn u) = true := by kernel_rfl
        exact (show Tryd.prog.wantsStandIn t = false by simpa using List.all_eq_true.1 hall t hm)⟩)
    (by kernel_rfl)
#print axioms proved
end Go.Proofs.YtdifdhcljgakhaaDoor.Ofs
