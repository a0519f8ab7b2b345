/-
  B7: whatever text is read as an address, the text that it is told as is longer by one byte at most, and is read as the same: for every text of at most 1048575 bytes.
-/
import Derived.Test.YtdifdhcljgakhaaDoorBrief
namespace Go.Proofs.YtdifdhcljgakhaaDoor.Short
open Go.ChangeShapes Go.WideShapes Go.ChangeAt Go.RowKit
set_option linter.unusedVariables false

theorem bulk_mem {H : Type} {d : DataW H} {l : List (DataW H)} (h : d ∈ l) : Rows.uptoBulk d ≤ Rows.uptoBulkAll l := by
  induction l with
  | nil => cases h
  | cons x r ih =>
    simp only [Rows.uptoBulkAll]
    rcases List.mem_cons.1 h with e | e
    · subst e; omega
    · have := ih e; omega
theorem bulk_le {H : Type} {d : DataW H} {l : List (DataW H)} (hk : Rows.uptoSmall H l = true) (h : d ∈ l) : Rows.uptoBulk d ≤ 1048576 := by
  have h1 : Rows.uptoBulkAll l ≤ 1048576 := by simpa [Rows.uptoSmall] using hk
  exact Nat.le_trans (bulk_mem h) h1

set_option maxRecDepth 100000 in
set_option maxHeartbeats 2000000 in
theorem walk (w : World) (hE : Env w) (a0 : ByteArray) (w0 : a0.size ≤ maxLen) (u0 : a0.size ≤ 1048576) :
    Calls Tryd.prog 6 #[.string a0] w fun e w' => e = .returned (.bool true) ∧ Below w.heap.size w w' := by
  have hsz : a0.size < 4294967281 := by omega
  have hlen : a0.data.toList.length = a0.size := (Lib.size_eq a0).symm
  have HQ := Lib.hid (fun W hW => parse_any a0 hsz W hW)
  rcases prs_short a0.data.toList with e | ⟨x, h, l, e, hh, hl, hv, hb⟩
  · rw [e] at HQ
    clear hsz hlen e w0 u0
    go_enter Tryd.func6, Tryd.ntmps6
    go_wp2_with fail
    refine Calls.mono (awake_yes _ hE) ?_
    rintro e w1 ⟨rfl, hb⟩
    have E1 := hE.below hb
    have L1 := Lib.hid hb
    have s1 := hb.size
    clear hb
    go_wp2_with fail
    refine Calls.mono (HQ.out _ E1) ?_
    rintro e w2 ⟨rfl, hb⟩
    have L2 := Lib.hid ((L1.out.trans (hb.mono s1)).alloc (L1.out.trans (hb.mono s1)).size (.cells #[.bool false, .int .u64 0, .int .u64 0] 25))
    have K2 := Lib.hid (Blk.new w2 25 #[.bool false, .int .u64 0, .int .u64 0])
    obtain ⟨f1, f2, f3⟩ := K2.out.c3
    clear hb
    go_wp2
    go_ret
    exact ⟨ret_bool (by simp), L2.out⟩
  · rw [e] at HQ
    have e1 := prs_prn x h l hh hl hv
    obtain ⟨T, hT⟩ : ∃ T, T = prn x h l := ⟨_, rfl⟩
    have HP := Lib.hid (fun W hW => print_any x h l hh hl W hW)
    have HVa := Lib.hid (fun W => valid_at x h l W hv)
    rw [← hT] at HP e1 hb
    have hTl : (⟨T.toArray⟩ : ByteArray).data.toList = T := by simp
    have hTs : (⟨T.toArray⟩ : ByteArray).size = T.length := by rw [Lib.size_eq, hTl]
    have HR := Lib.hid (fun W hW => parse_any ⟨T.toArray⟩ (by omega) W hW)
    rw [hTl, e1] at HR
    obtain ⟨t, ht⟩ : ∃ t : ByteArray, t = ⟨T.toArray⟩ := ⟨_, rfl⟩
    have hle : (t.size : Int) ≤ (a0.size : Int) + 1 := by rw [ht, hTs]; omega
    have ht1 : (t.size : Int) ≤ 1048577 := by rw [ht, hTs]; omega
    have hw1 : IntKind.i64.wrap ((a0.size : Int) + 1) = (a0.size : Int) + 1 := by rw [IntKind.wrap_i64]; omega
    rw [← ht] at HP HR
    clear hsz hlen e w0 hT hb hTl hTs e1 ht hh hl hv
    go_enter Tryd.func6, Tryd.ntmps6
    go_wp2_with fail
    refine Calls.mono (awake_yes _ hE) ?_
    rintro e w1 ⟨rfl, hb⟩
    have E1 := hE.below hb
    have L1 := Lib.hid hb
    have s1 := hb.size
    clear hb
    go_wp2_with fail
    refine Calls.mono (HQ.out _ E1) ?_
    rintro e w2 ⟨rfl, hb⟩
    have E2 := (E1.below hb).alloc (.cells #[.bool x, .int .u64 h, .int .u64 l] 25)
    have L2 := Lib.hid ((L1.out.trans (hb.mono s1)).alloc (L1.out.trans (hb.mono s1)).size (.cells #[.bool x, .int .u64 h, .int .u64 l] 25))
    have K2 := Lib.hid (Blk.new w2 25 #[.bool x, .int .u64 h, .int .u64 l])
    have s2 : w2.heap.size < (w2.alloc (.cells #[.bool x, .int .u64 h, .int .u64 l] 25)).heap.size := by simp only [World.size_alloc]; omega
    obtain ⟨f1, f2, f3⟩ := K2.out.c3
    clear hb
    go_wp2_with fail
    refine Calls.mono (HP.out _ E2) ?_
    rintro e w3 ⟨rfl, hb⟩
    have E3 := E2.below hb
    have K3 := Lib.hid (K2.out.below hb s2)
    have L3 := Lib.hid (L2.out.trans (hb.mono L2.out.size))
    have s3 : w2.heap.size < w3.heap.size := by have := hb.size; omega
    clear f1 f2 f3 hb
    go_wp2_with fail
    refine Calls.mono (HR.out _ E3) ?_
    rintro e w4 ⟨rfl, hb⟩
    have K4 := Lib.hid ((K3.out.below hb s3).alloc (.cells #[.bool x, .int .u64 h, .int .u64 l] 25))
    have X4 := Lib.hid (Blk.new w4 25 #[.bool x, .int .u64 h, .int .u64 l])
    have L4 := Lib.hid ((L3.out.trans (hb.mono L3.out.size)).alloc (L3.out.trans (hb.mono L3.out.size)).size (.cells #[.bool x, .int .u64 h, .int .u64 l] 25))
    obtain ⟨f1, f2, f3⟩ := K4.out.c3
    obtain ⟨x1, x2, x3⟩ := X4.out.c3
    clear hb
    go_wp2_with fail
    refine Calls.mono (HVa.out _) ?_
    rintro e w5 ⟨rfl, hb⟩
    have L5 := Lib.hid (L4.out.trans (hb.mono L4.out.size))
    clear hb f1 f2 f3 x1 x2 x3
    go_wp2
    go_ret
    exact ⟨ret_bool (by simp), L5.out⟩

set_option maxRecDepth 100000 in
theorem contract (H : Type) (enc : TypeId × Value → H) (W : World) (base : Nat) (args : Array Value) (ds gs : List (DataW H)) (before : List MemPlace)
    (hval0 : ∀ (j : Nat) t v, Tryd.f6.params[j]? = some t → args[j]? = some v → Value.okWide Tryd.prog W .any base t v)
    (hW : DataW.Whole enc Tryd.prog Tryd.f6.params.toList Rows.addrShortSpec.vars false W args.toList ds gs before)
    (hsz0 : (DataW.weightsEach Tryd.prog (Tryd.f6.params.toList ++ Rows.addrShortSpec.plain.varTypes Tryd.prog) (ds ++ gs)).all (· ≤ reachBytes) = true) (hk : Rows.uptoSmall H (ds ++ gs) = true) (hE : Env W) :
    Calls Tryd.prog 6 args W fun e W' => ∃ v, e = .returned v ∧ Rows.addrShortSpec.post enc Tryd.prog Tryd.f6 false true false false W args v W' := by
  have hsz := hsz0
  clear hsz0
  have hval := hval0
  clear hval0
  have hW' := hW
  obtain ⟨p, q, hA0, hV, rfl, hfz, hnd⟩ := hW
  have hA : DataW.TrodAll enc Tryd.prog W 0 (fun _ => true) true Tryd.f6.params.toList args.toList ds p := hA0
  rw [Tryd.params6] at hA hval hsz
  obtain ⟨v0, vs0, d0, ds0, p0, q0, hargs, rfl, rfl, h0, r0⟩ := trodAll_cons hA
  obtain ⟨rfl, rfl, rfl⟩ := trodAll_nil r0
  obtain rfl : args = #[v0] := by cases args; simp_all
  obtain ⟨rfl, rfl⟩ := trodVars_none hV
  obtain ⟨a0, rfl, rfl, rfl, w0⟩ := Go.ChangeMaps.open_string Tryd.underlying9 (hval 0 9 v0 rfl rfl) h0
  have u0 : a0.size ≤ 1048576 := by have h1 := bulk_le hk (d := DataW.lit (.string a0.data.toList)) (by simp); rw [Lib.size_eq]; simp only [Rows.uptoBulk] at h1; omega
  clear hA0
  refine (walk W hE a0 w0 u0).mono fun e W' ⟨he, bel⟩ => ?_
  subst he
  exact ⟨_, rfl, _, _, _, [], _, [], hW', trodAll_mk1 (shut_bool Tryd.underlying4 _), (trodAll_cons_mk (Go.ChangeMaps.shut_string Tryd.underlying9 w0) trodAll_mk0), rfl, bel.frame _, fun h => by cases h⟩

theorem laid_met (os : Os) (args : Array Value) : laidMet Tryd.prog Rows.addrShortUptoRow.laid ((World.laidAll Tryd.prog os Rows.addrShortUptoRow.laid).forCall (fun _ _ => 0) ⟨#[], args, []⟩).memory :=
  laidMet_laidAll _ (by kernel_rfl) (by kernel_rfl)
set_option maxRecDepth 100000 in
theorem pre_row (os : Os) {H : Type} (enc : TypeId × Value → H) :
    (Rows.OpenSpec.upto Rows.addrShortSpec).preRow enc Tryd.prog Tryd.f6 Rows.addrShortUptoRow.domain false Rows.addrShortUptoRow.laid ((World.laidAll Tryd.prog os Rows.addrShortUptoRow.laid).forCall (fun _ _ => 0) ⟨#[], #[.string ByteArray.empty], []⟩).memory #[.string ByteArray.empty] := by
  have hw : (DataW.whole enc Tryd.prog ((World.laidAll Tryd.prog os Rows.addrShortUptoRow.laid).forCall (fun _ _ => 0) ⟨#[], #[.string ByteArray.empty], []⟩).memory Tryd.f6.params.toList (Rows.OpenSpec.upto Rows.addrShortSpec).vars false (#[.string ByteArray.empty] : Array Value).toList 8).map (fun x => (x.1, x.2.1)) = some ([.lit (.string [])], []) := by kernel_rfl
  obtain ⟨⟨x1, x2, x3⟩, hx, hx1⟩ := Option.map_eq_some_iff.1 hw
  simp only [Prod.mk.injEq] at hx1
  obtain ⟨rfl, rfl⟩ := hx1
  exact OpenSpec.preRow_of_cond 8 hx (by kernel_rfl) (fun k hk => by cases hk; rfl) (by kernel_rfl) (laid_met os _)
set_option maxRecDepth 100000 in
theorem lifted (os : Os) (started : os.Started) (H : Type) (enc : TypeId × Value → H) (F : Stop.Interp) :
    ReturnsInHanded {} Tryd.checked os 6 .any ((Rows.OpenSpec.upto Rows.addrShortSpec).preRow enc Tryd.prog Tryd.f6 Rows.addrShortUptoRow.domain false Rows.addrShortUptoRow.laid) (((Rows.OpenSpec.upto Rows.addrShortSpec).at F).post enc Tryd.prog Tryd.f6 false true false false) := by
  refine returnsInHanded_of_row (C := Tryd.checked) (s := (Rows.OpenSpec.upto Rows.addrShortSpec)) own started (by kernel_rfl) Tryd.func6
    ⟨World.laidAll Tryd.prog os Rows.addrShortUptoRow.laid, fun _ _ => 0, ⟨#[], #[.string ByteArray.empty], []⟩, World.laidAll_os _ _ _, World.shaped_of_ZipB (by kernel_rfl) (by kernel_rfl), rfl, (Input.okWide_of_okWideB (by kernel_rfl)).2, pre_row os enc, (by simp only [Assume.holds]; exact ⟨by simp, by simp, fun _ => Modest.zero, by simp, by simp⟩)⟩ ?_
  intro W base args ds gs before hval hW _ hcond hsz hL hsh _
  rw [MakeChecks.laidMetH_plain _ _ _ (by kernel_rfl)] at hL
  exact contract H enc W base args ds gs before hval hW hsz (hcond _ rfl) (env_of hL hsh)

theorem over : Rows.addrShortUptoRow.holds Tryd.pinned (Rows.OpenSpec.upto Rows.addrShortSpec) :=
  OpenClaim.holds_of_cond 6 Tryd.f6 rfl rfl rfl rfl rfl rfl rfl ⟨rfl, rfl, rfl, rfl, rfl⟩ rfl rfl rfl rfl rfl (by kernel_rfl) Tryd.func6 (by kernel_rfl)
    (of_decide_eq_true (by kernel_rfl)) (by unfold Func.isWrapper; first | (rw [if_pos (by decide +kernel)]; kernel_rfl) | (rw [if_neg (by decide +kernel)]; exact ⟨rfl, rfl⟩))
    (fun os started H enc _ F => by rw [OpenClaim.pre_eq_preRow]; exact lifted os started H enc F)

theorem proved : Rows.AddrShortUptoCardSaid :=
  Claim7.holds_tied_plain_at .later [] Rows.addrShortUptoCard.laidKinds true Rows.addrShortUptoCard.stood.harness true over (fun _ h => by cases h) (by kernel_rfl) (fun _ h => by cases h) addrShortUpto_row_tie rfl ⟨rfl, rfl⟩ (by kernel_rfl) rfl
    (fun f fn hf hfn => by
      obtain rfl : f = 6 := Option.some.inj ((show Tryd.prog.funcNamed Rows.addrShortUptoRow.func = some 6 by kernel_rfl).symm.trans hf) |>.symm
      obtain rfl : fn = Tryd.f6 := (Option.some.inj (Tryd.func6.symm.trans hfn)).symm
      exact ⟨by kernel_rfl, fun j t ht => by
        rw [Tryd.params6] at ht
        have hm : t ∈ [9] := by simpa using Array.mem_of_getElem? ht
        have hall : ([9].all fun u => !Tryd.prog.wantsStandIn u) = true := by kernel_rfl
        exact (show Tryd.prog.wantsStandIn t = false by simpa using List.all_eq_true.1 hall t hm)⟩)
    (by kernel_rfl)
#print axioms proved
end Go.Proofs.YtdifdhcljgakhaaDoor.Short
