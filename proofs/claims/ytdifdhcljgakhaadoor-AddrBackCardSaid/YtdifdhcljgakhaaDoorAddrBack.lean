/-
  B7: what an address is told as, as a text and as bytes, is read as that address; what may not be is told as nothing: for every address.
-/
import Derived.Test.YtdifdhcljgakhaaDoorTrip
namespace Go.Proofs.YtdifdhcljgakhaaDoor.Back
open Go.ChangeShapes Go.WideShapes Go.ChangeAt Go.RowKit
set_option linter.unusedVariables false

theorem u6_of {n : Int} (h : (Lit.int .u64 n).wf = true) : U6 n := by
  simp [Lit.wf, IntKind.min, IntKind.max, IntKind.bits, IntKind.signed] at h
  exact ⟨by omega, by omega⟩
theorem prn6_len (zs : List Int) (h : zs.length = 8) : (prn6 zs).length ≤ 90 := by
  have W : ∀ ys : List Int, ys.length ≤ 8 → (Lib.join (ys.map d16) [58]).length ≤ 40 := by
    intro ys hy
    have := join_len (ys.map d16) 58 4 (fun x hx => by obtain ⟨z, -, rfl⟩ := List.mem_map.1 hx; exact d16_len z)
    rw [List.length_map] at this
    omega
  unfold prn6
  split
  · have := W zs (by omega); omega
  · have h1 := W (zs.take (lng zs).1) (by rw [List.length_take]; omega)
    have h2 := W (zs.drop ((lng zs).1 + (lng zs).2)) (by rw [List.length_drop]; omega)
    rw [List.length_append, List.length_append]
    simp only [List.length_cons, List.length_nil]
    omega
theorem prn_len (s : Bool) (h l : Int) : (prn s h l).length ≤ 90 := by
  unfold prn
  split
  · split
    · exact prn6_len _ rfl
    · have := join_len ((putOf 4 l).map d10) 46 3 (fun x hx => by obtain ⟨z, hz, rfl⟩ := List.mem_map.1 hx; have := putOf_by 4 l z hz; exact d10_len z this.1 this.2)
      rw [List.length_map, putOf_len] at this
      omega
  · decide

set_option maxRecDepth 100000 in
set_option maxHeartbeats 2000000 in
theorem walk (w : World) (hE : Env w) (a0_0 : Bool) (a0_1 : Int) (w0_1 : (Lit.int .u64 a0_1).wf = true) (a0_2 : Int) (w0_2 : (Lit.int .u64 a0_2).wf = true) :
    Calls Tryd.prog 5 #[.agg #[.bool a0_0, .int .u64 a0_1, .int .u64 a0_2]] w fun e w' => e = .returned (.bool true) ∧ Below w.heap.size w w' := by
  have hh := u6_of w0_1
  have hl := u6_of w0_2
  obtain ⟨V, hV⟩ : ∃ V, vld a0_0 a0_1 a0_2 = V := ⟨_, rfl⟩
  have HP := Lib.hid (fun W hW => print_any a0_0 a0_1 a0_2 hh hl W hW)
  have HB := Lib.hid (fun W => bytes_any a0_0 a0_1 a0_2 hh hl W)
  have HVa := Lib.hid (fun W => valid_at a0_0 a0_1 a0_2 W hV)
  cases V
  · have e1 : prn a0_0 a0_1 a0_2 = [] := by unfold prn; rw [hV]; rfl
    have e2 : byts a0_0 a0_1 a0_2 = [] := by unfold byts; rw [hV]; rfl
    rw [e1] at HP
    rw [e2] at HB
    clear hV hh hl w0_1 w0_2 e1 e2
    go_enter Tryd.func5, Tryd.ntmps5
    go_wp2_with fail
    refine Calls.mono (awake_yes _ (hE.alloc _)) ?_
    rintro e w1 ⟨rfl, hb⟩
    have E1 := (hE.alloc _).below hb
    have K1 := Lib.hid ((Blk.new w 25 _).below hb (by simp only [World.size_alloc]; omega))
    have L1 := Lib.hid (((Below.refl _ w).alloc (Nat.le_refl _) _).trans (hb.mono (by simp only [World.size_alloc]; omega)))
    have s1 : w.heap.size < w1.heap.size := by have := hb.size; simp only [World.size_alloc] at this; omega
    obtain ⟨f1, f2, f3⟩ := K1.out.c3
    clear hb
    go_wp2_with fail
    refine Calls.mono (HP.out _ E1) ?_
    rintro e w2 ⟨rfl, hb⟩
    have K2 := Lib.hid (K1.out.below hb s1)
    have L2 := Lib.hid (L1.out.trans (hb.mono L1.out.size))
    have s2 : w.heap.size < w2.heap.size := by have := hb.size; omega
    clear f1 f2 f3 hb
    obtain ⟨f1, f2, f3⟩ := K2.out.c3
    go_wp2_with fail
    refine Calls.mono (HB.out _) ?_
    rintro e w3 ⟨A3, c3, rfl, -, -, -, -, -, hb, -⟩
    have K3 := Lib.hid (K2.out.below hb s2)
    have L3 := Lib.hid (L2.out.trans (hb.mono L2.out.size))
    clear f1 f2 f3 hb
    obtain ⟨f1, f2, f3⟩ := K3.out.c3
    go_wp2_with fail
    refine Calls.mono (HVa.out _) ?_
    rintro e w4 ⟨rfl, hb⟩
    have L4 := Lib.hid (L3.out.trans (hb.mono L3.out.size))
    clear hb f1 f2 f3
    go_wp2
    go_ret
    exact ⟨rfl, L4.out⟩
  · have e1 := prs_prn a0_0 a0_1 a0_2 hh hl hV
    obtain ⟨e2, e3⟩ := of_byts a0_0 a0_1 a0_2 hh hl hV
    have hlen := prn_len a0_0 a0_1 a0_2
    obtain ⟨T, hT⟩ : ∃ T, T = prn a0_0 a0_1 a0_2 := ⟨_, rfl⟩
    obtain ⟨Bs, hBs⟩ : ∃ Bs, Bs = byts a0_0 a0_1 a0_2 := ⟨_, rfl⟩
    rw [← hT] at HP e1 hlen
    rw [← hBs] at HB e2 e3
    have hsz : (⟨T.toArray⟩ : ByteArray).size < 4294967281 := by rw [Lib.size_eq, show (⟨T.toArray⟩ : ByteArray).data.toList = T by simp]; omega
    have HQ := Lib.hid (fun W hW => parse_any ⟨T.toArray⟩ hsz W hW)
    rw [show (⟨T.toArray⟩ : ByteArray).data.toList = T by simp, e1] at HQ
    have hE3 : Bs.length = 16 ∧ a0_0 = true ∨ Bs.length = 4 ∧ a0_0 = false := by
      cases a0_0
      · exact .inr ⟨by simpa using e3, rfl⟩
      · exact .inl ⟨by simpa using e3, rfl⟩
    have HE2 := Lib.hid e2
    have hb4 : ((Bs.length : Int) == 16) = a0_0 := by rcases hE3 with ⟨a, b⟩ | ⟨a, b⟩ <;> rw [a, b] <;> rfl
    clear hV hh hl w0_1 w0_2 e1 e2 e3 hlen hT hBs hE3 hsz
    go_enter Tryd.func5, Tryd.ntmps5
    go_wp2_with fail
    refine Calls.mono (awake_yes _ (hE.alloc _)) ?_
    rintro e w1 ⟨rfl, hb⟩
    have E1 := (hE.alloc _).below hb
    have K1 := Lib.hid ((Blk.new w 25 _).below hb (by simp only [World.size_alloc]; omega))
    have L1 := Lib.hid (((Below.refl _ w).alloc (Nat.le_refl _) _).trans (hb.mono (by simp only [World.size_alloc]; omega)))
    have s1 : w.heap.size < w1.heap.size := by have := hb.size; simp only [World.size_alloc] at this; omega
    obtain ⟨f1, f2, f3⟩ := K1.out.c3
    clear hb
    go_wp2_with fail
    refine Calls.mono (HP.out _ E1) ?_
    rintro e w2 ⟨rfl, hb⟩
    have E2 := E1.below hb
    have K2 := Lib.hid (K1.out.below hb s1)
    have L2 := Lib.hid (L1.out.trans (hb.mono L1.out.size))
    have s2 : w.heap.size < w2.heap.size := by have := hb.size; omega
    clear f1 f2 f3 hb
    obtain ⟨f1, f2, f3⟩ := K2.out.c3
    go_wp2_with fail
    refine Calls.mono (HB.out _) ?_
    rintro e w3 ⟨A3, c3, rfl, hc1, hc2, hri, -, -, hb, -⟩
    have E3 := E2.below hb
    have K3 := Lib.hid (K2.out.below hb s2)
    have L3 := Lib.hid (L2.out.trans (hb.mono L2.out.size))
    have s3 : w.heap.size < w3.heap.size := by have := hb.size; omega
    have RR3 := Lib.hid hri
    clear f1 f2 f3 hb hri
    obtain ⟨f1, f2, f3⟩ := K3.out.c3
    go_wp2_with fail
    refine Calls.mono (HVa.out _) ?_
    rintro e w4 ⟨rfl, hb⟩
    have E4 := E3.below hb
    have K4 := Lib.hid (K3.out.below hb s3)
    have L4 := Lib.hid (L3.out.trans (hb.mono L3.out.size))
    have RR4 := Lib.hid ((RR3.out.below hb).more hb.size)
    have s4 : w.heap.size < w4.heap.size := by have := hb.size; omega
    clear hb f1 f2 f3
    obtain ⟨f1, f2, f3⟩ := K4.out.c3
    go_wp2_with fail
    refine Calls.mono (HQ.out _ E4) ?_
    rintro e w5 ⟨rfl, hb⟩
    have K5 := Lib.hid ((K4.out.below hb s4).alloc (.cells #[.bool a0_0, .int .u64 a0_1, .int .u64 a0_2] 25))
    have L5 := Lib.hid ((L4.out.trans (hb.mono L4.out.size)).alloc (L4.out.trans (hb.mono L4.out.size)).size (.cells #[.bool a0_0, .int .u64 a0_1, .int .u64 a0_2] 25))
    have RR5 := Lib.hid ((RR4.out.below hb).alloc hb.size (.cells #[.bool a0_0, .int .u64 a0_1, .int .u64 a0_2] 25))
    have X5 := Lib.hid (Blk.new w5 25 #[.bool a0_0, .int .u64 a0_1, .int .u64 a0_2])
    have s5 : w.heap.size < (w5.alloc (.cells #[.bool a0_0, .int .u64 a0_1, .int .u64 a0_2] 25)).heap.size := by have := hb.size; simp only [World.size_alloc]; omega
    have H6 := of_any _ _ A3 _ c3 Bs RR5.out (by have := hb.size; simp only [World.size_alloc]; omega) hc1 (by omega)
    rw [HE2.out] at H6
    have H6' := Lib.hid H6
    clear hb f1 f2 f3 H6
    go_wp2_with fail
    refine Calls.mono H6'.out ?_
    rintro e w6 ⟨rfl, hb⟩
    have K6 := Lib.hid ((K5.out.below hb s5).alloc (.cells #[.bool a0_0, .int .u64 a0_1, .int .u64 a0_2] 25))
    have X6 := Lib.hid ((X5.out.below hb (by simp only [World.size_alloc]; omega)).alloc (.cells #[.bool a0_0, .int .u64 a0_1, .int .u64 a0_2] 25))
    have L6 := Lib.hid ((L5.out.trans (hb.mono L5.out.size)).alloc (L5.out.trans (hb.mono L5.out.size)).size (.cells #[.bool a0_0, .int .u64 a0_1, .int .u64 a0_2] 25))
    obtain ⟨f1, f2, f3⟩ := K6.out.c3
    obtain ⟨x1, x2, x3⟩ := X6.out.c3
    clear hb
    go_wp2
    go_ret
    exact ⟨ret_bool (by simp [hb4]), L6.out⟩

set_option maxRecDepth 100000 in
theorem contract (H : Type) (enc : TypeId × Value → H) (W : World) (base : Nat) (args : Array Value) (ds gs : List (DataW H)) (before : List MemPlace)
    (hval0 : ∀ (j : Nat) t v, Tryd.f5.params[j]? = some t → args[j]? = some v → Value.okWide Tryd.prog W .any base t v)
    (hW : DataW.Whole enc Tryd.prog Tryd.f5.params.toList Rows.addrBackSpec.vars false W args.toList ds gs before)
    (hsz0 : (DataW.weightsEach Tryd.prog (Tryd.f5.params.toList ++ Rows.addrBackSpec.plain.varTypes Tryd.prog) (ds ++ gs)).all (· ≤ reachBytes) = true) (hE : Env W) :
    Calls Tryd.prog 5 args W fun e W' => ∃ v, e = .returned v ∧ Rows.addrBackSpec.post enc Tryd.prog Tryd.f5 false true false false W args v W' := by
  have hsz := hsz0
  clear hsz0
  have hval := hval0
  clear hval0
  have hW' := hW
  obtain ⟨p, q, hA0, hV, rfl, hfz, hnd⟩ := hW
  have hA : DataW.TrodAll enc Tryd.prog W 0 (fun _ => true) true Tryd.f5.params.toList args.toList ds p := hA0
  rw [Tryd.params5] at hA hval hsz
  obtain ⟨v0, vs0, d0, ds0, p0, q0, hargs, rfl, rfl, h0, r0⟩ := trodAll_cons hA
  obtain ⟨rfl, rfl, rfl⟩ := trodAll_nil r0
  obtain rfl : args = #[v0] := by cases args; simp_all
  obtain ⟨rfl, rfl⟩ := trodVars_none hV
  have k0 := h0
  have lt0 : ∀ x ∈ p0, x.block < W.heap.size := by obtain ⟨m, hm⟩ := k0; exact DataW.trod_lt m _ _ _ hm
  obtain ⟨v0_0, v0_1, v0_2, y0_0, y0_1, y0_2, n0, rfl, ed0, ep0, f0_0, f0_1, f0_2⟩ := Go.Joins.open_agg3 Tryd.underlying25 (by kernel_rfl) (by kernel_rfl) (hval 0 25 v0 rfl rfl) h0
  obtain ⟨a0_0, e0_0, _⟩ := DataW.trod_bool Tryd.underlying4 f0_0
  injection e0_0 with e0_0 _
  subst e0_0
  obtain ⟨a0_1, e0_1, _, w0_1⟩ := DataW.trod_int Tryd.underlying23 f0_1
  injection e0_1 with e0_1 _
  subst e0_1
  obtain ⟨a0_2, e0_2, _, w0_2⟩ := DataW.trod_int Tryd.underlying23 f0_2
  injection e0_2 with e0_2 _
  subst e0_2
  clear hA0
  refine (walk W hE a0_0 a0_1 w0_1 a0_2 w0_2).mono fun e W' ⟨he, bel⟩ => ?_
  subst he
  exact ⟨_, rfl, _, _, _, [], _, [], hW', trodAll_mk1 (shut_bool Tryd.underlying4 _), (trodAll_cons_mk (Below.trod laidOut (by kernel_rfl) (of_decide_eq_true (by kernel_rfl)) k0 bel lt0) trodAll_mk0), rfl, bel.frame _, fun h => by cases h⟩

theorem laid_met (os : Os) (args : Array Value) : laidMet Tryd.prog Rows.addrBackRow.laid ((World.laidAll Tryd.prog os Rows.addrBackRow.laid).forCall (fun _ _ => 0) ⟨#[], args, []⟩).memory :=
  laidMet_laidAll _ (by kernel_rfl) (by kernel_rfl)
set_option maxRecDepth 100000 in
theorem pre_row (os : Os) {H : Type} (enc : TypeId × Value → H) :
    (OpenSpec.ofChange Rows.addrBackSpec).preRow enc Tryd.prog Tryd.f5 Rows.addrBackRow.domain false Rows.addrBackRow.laid ((World.laidAll Tryd.prog os Rows.addrBackRow.laid).forCall (fun _ _ => 0) ⟨#[], #[.agg #[.bool false, .int .u64 0, .int .u64 0]], []⟩).memory #[.agg #[.bool false, .int .u64 0, .int .u64 0]] := by
  exact ⟨⟨ChangeSpec.pre_of_preB (fuel := 8) (by kernel_rfl), by rw [MakeChecks.laidMetH_plain _ _ _ (by kernel_rfl)]; exact laid_met os _⟩, sizedMet_of_sizedB (fuel := 8) (by kernel_rfl)⟩
set_option maxRecDepth 100000 in
theorem lifted (os : Os) (started : os.Started) (H : Type) (enc : TypeId × Value → H) (F : Stop.Interp) :
    ReturnsInHanded {} Tryd.checked os 5 .any ((OpenSpec.ofChange Rows.addrBackSpec).preRow enc Tryd.prog Tryd.f5 Rows.addrBackRow.domain false Rows.addrBackRow.laid) (((OpenSpec.ofChange Rows.addrBackSpec).at F).post enc Tryd.prog Tryd.f5 false true false false) := by
  refine returnsInHanded_of_row (C := Tryd.checked) (s := (OpenSpec.ofChange Rows.addrBackSpec)) own started (by kernel_rfl) Tryd.func5
    ⟨World.laidAll Tryd.prog os Rows.addrBackRow.laid, fun _ _ => 0, ⟨#[], #[.agg #[.bool false, .int .u64 0, .int .u64 0]], []⟩, World.laidAll_os _ _ _, World.shaped_of_ZipB (by kernel_rfl) (by kernel_rfl), rfl, (Input.okWide_of_okWideB (by kernel_rfl)).2, pre_row os enc, (by simp only [Assume.holds]; exact ⟨by simp, by simp, fun _ => Modest.zero, by simp, by simp⟩)⟩ ?_
  intro W base args ds gs before hval hW _ hcond hsz hL hsh _
  rw [MakeChecks.laidMetH_plain _ _ _ (by kernel_rfl)] at hL
  exact contract H enc W base args ds gs before hval hW hsz (env_of hL hsh)

theorem over : Rows.addrBackRow.holds Tryd.pinned (OpenSpec.ofChange Rows.addrBackSpec) :=
  OpenClaim.holds_of_cond 5 Tryd.f5 rfl rfl rfl rfl rfl rfl rfl ⟨rfl, rfl, rfl, rfl, rfl⟩ rfl rfl rfl rfl rfl (by kernel_rfl) Tryd.func5 (by kernel_rfl)
    (of_decide_eq_true (by kernel_rfl)) (by unfold Func.isWrapper; first | (rw [if_pos (by decide +kernel)]; kernel_rfl) | (rw [if_neg (by decide +kernel)]; exact ⟨rfl, rfl⟩))
    (fun os started H enc _ F => by rw [OpenClaim.pre_eq_preRow]; exact lifted os started H enc F)

theorem proved : Rows.AddrBackCardSaid :=
  Claim7.holds_tied_plain_at .later [] Rows.addrBackCard.laidKinds true Rows.addrBackCard.stood.harness true over (fun _ h => by cases h) (by kernel_rfl) (fun _ h => by cases h) addrBack_row_tie rfl ⟨rfl, rfl⟩ (by kernel_rfl) rfl
    (fun f fn hf hfn => by
      obtain rfl : f = 5 := Option.some.inj ((show Tryd.prog.funcNamed Rows.addrBackRow.func = some 5 by kernel_rfl).symm.trans hf) |>.symm
      obtain rfl : fn = Tryd.f5 := (Option.some.inj (Tryd.func5.symm.trans hfn)).symm
      exact ⟨by kernel_rfl, fun j t ht => by
        rw [Tryd.params5] at ht
        have hm : t ∈ [25] := by simpa using Array.mem_of_getElem? ht
        have hall : ([25].all fun u => !Tryd.prog.wantsStandIn u) = true := by kernel_rfl
        exact (show Tryd.prog.wantsStandIn t = false by simpa using List.all_eq_true.1 hall t hm)⟩)
    (by kernel_rfl)
#print axioms proved
end Go.Proofs.YtdifdhcljgakhaaDoor.Back
