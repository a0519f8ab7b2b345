/-
  crosswaylaw10.ArenaRefuses returns true for every input, and leaves its arguments alone.
  Conditions: none of our own; a tied card: the library's table of math/bits holds what the program's text lays.
-/
import Derived.Test.YtiocdojdncomhaaDoorAAw
namespace Go.Proofs.YtiocdojdncomhaaDoor
open Go.ChangeShapes Go.WideShapes Go.ChangeAt Go.RowKit
set_option linter.unusedVariables false
namespace ARef
theorem ins_len (p o : Nat) : ∀ L : List Bl, (ins p o L).length = L.length + 1
  | [] => by simp [ins]
  | b :: L => by
    rw [ins_cons]
    split
    · rw [List.length_cons, ins_len p o L, List.length_cons]
    · simp
theorem ordS_in {N p o : Nat} {M : List Bl} (hI : InvA N M) (h : (p, o) ∈ M) : ordS M (p : Int) = (o : Int) := by
  unfold ordS
  cases hf : M.find? (fun b => decide ((b.1 : Int) = (p : Int))) with
  | some b =>
    have hb := List.mem_of_find?_eq_some hf
    have he : (b.1 : Int) = (p : Int) := by simpa using List.find?_some hf
    have := row_at hI.row hb h (by show b.1 = p; omega)
    rw [this]
  | none =>
    have := List.find?_eq_none.1 hf _ h
    simp at this
set_option maxRecDepth 100000 in
set_option maxHeartbeats 4000000 in
theorem walk (w : World) (hE : EnvA w) (a0 : Int) (w0 : (Lit.int .i64 a0).wf = true) (a1 : Option Addr) (l1 c1 : Nat) (z1 : List Stp) (w1 : IsStp w a1 l1 z1) (a2 : Int) (w2 : (Lit.int .i64 a2).wf = true) :
    Calls Tryd.prog 7 #[.int .i64 a0, .slice a1 l1 c1, .int .i64 a2] w fun e w' => e = .returned (.bool true) ∧ Below w.heap.size w w' := by
  have hb0 := i64_bd w0
  have hb2 := i64_bd w2
  have hpk := pk_bd a0 (n := 9) (by omega)
  have HK := Lib.hid (fun W => pick_any a0 9 (by omega) (by omega) hb0.1 hb0.2 W)
  obtain ⟨N, hN⟩ : ∃ N : Nat, pk a0 9 = (N : Int) := ⟨(pk a0 9).toNat, by omega⟩
  rw [hN] at HK hpk
  have hN16 : N ≤ 16 := by omega
  have HE := Lib.hid hE
  have HZ := Lib.hid w1
  clear hE w0 w1 w2 hN hb0 hpk
  go_enter Tryd.func7, Tryd.ntmps7
  go_wp2_with fail
  refine Calls.mono (aawake_yes w HE.out) ?_
  rintro e x1 ⟨rfl, hb1⟩
  have B1 := Lib.hid hb1
  clear hb1
  go_wp2_with fail
  refine Calls.mono (HK.out _) ?_
  rintro e x1' ⟨rfl, rfl⟩
  go_wp2_with fail
  refine Calls.mono (made_any N hN16 a1 l1 c1 z1 x1 (HE.out.below B1.out HE.out.lt) (HZ.out.below B1.out)) ?_
  rintro e x2 ⟨r, bm, bn, rfl, hA2⟩
  obtain ⟨L, hL⟩ : ∃ L, mdS N z1 (min l1 120) = L := ⟨_, rfl⟩
  rw [hL] at hA2
  have A2 := Lib.hid hA2
  clear hA2 hL
  obtain ⟨n, hn⟩ : ∃ n, L.length = n := ⟨_, rfl⟩
  have hn7 : n ≤ 70000 := by rw [← hn]; exact (inv_sml hN16 A2.out.ar.inv).1
  go_wp2_with fail
  refine Calls.mono (as_taken hN16 A2.out hn) ?_
  rintro e x3 ⟨At, ct, rfl, hR3, hb3, hA3, -⟩
  have A3 := Lib.hid hA3
  have R3 := Lib.hid hR3
  have HB3 : Hid (r < x2.heap.size ∧ bm < x2.heap.size ∧ bn < x2.heap.size) := Lib.hid A2.out.ar.lt
  clear hA3 hR3 hb3
  have HF := Lib.hid (fun W (h : ArP W r bm bn N L) => pfree_any r bm bn N L W h)
  obtain ⟨F, hF⟩ : ∃ F : Nat, 2 ^ N - sumB L = F := ⟨_, rfl⟩
  rw [hF] at HF
  have HFE := Lib.hid hF
  clear hF
  go_wp2_with fail
  refine Calls.mono (HF.out _ A3.out.ar) ?_
  rintro e x3' ⟨rfl, rfl⟩
  have HG := as_great hN16 A3.out
  obtain ⟨G, hG⟩ : ∃ G : Int, grS (fre L N 0) = G := ⟨_, rfl⟩
  rw [hG] at HG
  have HGE := Lib.hid hG
  have HG3 := Lib.hid HG
  clear hG HG
  go_wp2_with fail
  refine Calls.mono HG3.out ?_
  rintro e x4 ⟨rfl, hA4, hb4⟩
  have A4 := Lib.hid hA4
  have R4 := Lib.hid (R3.out.below hb4)
  clear hA4 hb4
  by_cases hb : 0 ≤ a2 ∧ a2 ≤ (N : Int)
  · obtain ⟨k, rfl⟩ : ∃ k : Nat, a2 = (k : Int) := ⟨a2.toNat, by omega⟩
    have hk : k ≤ N := by omega
    cases ht : tkS N L k with
    | none =>
      have hfull := tkS_full ht
      rw [HGE.out] at hfull
      have k0 : (0 : Int) ≤ (k : Int) := by omega
      have kN : (k : Int) ≤ (N : Int) := by omega
      have HT := as_take hN16 A4.out (k : Int)
      rw [tkF_full hk ht] at HT
      dsimp only at HT
      have HTT := Lib.hid HT
      clear HT
      go_wp2_with fail
      refine Calls.mono HTT.out ?_
      rintro e x5 ⟨rfl, hA5, ht5⟩
      have A5 := Lib.hid hA5
      have R5 := Lib.hid (R4.out.tou ht5 HB3.out.1 HB3.out.2.1 HB3.out.2.2)
      clear hA5 ht5 HTT
      clear ht hb hk
      have HT5 := Lib.hid (as_taken hN16 A5.out hn)
      go_wp2_with fail
      refine Calls.mono HT5.out ?_
      rintro e x6 ⟨A6t, c6t, rfl, hR6, hb6, hA6, -⟩
      have A6 := Lib.hid hA6
      have R6 := Lib.hid hR6
      have R6b := Lib.hid (R5.out.below hb6)
      clear hA6 hR6 hb6
      have HS := Lib.hid (same_any _ n c6t A6t (ats L) _ n ct At (ats L) hn7 _ R6.out R6b.out)
      rw [show decide (ats L = ats L) = true from decide_eq_true rfl] at HS
      go_wp2_with fail
      refine Calls.mono HS.out ?_
      rintro e x7 ⟨rfl, hb7⟩
      have A7 := Lib.hid (A6.out.below hb7)
      clear hb7
      go_wp2_with fail
      refine Calls.mono (HF.out _ A7.out.ar) ?_
      rintro e x7' ⟨rfl, rfl⟩
      have HG := as_great hN16 A7.out
      rw [HGE.out] at HG
      have HG7 := Lib.hid HG
      clear HG
      go_wp2_with fail
      refine Calls.mono HG7.out ?_
      rintro e x8 ⟨rfl, hA8, -⟩
      have A8 := Lib.hid hA8
      clear hA8
      go_wp2
      go_ret
      exact ⟨rfl, B1.out.trans (A8.out.bel.mono B1.out.size)⟩
    | some y =>
      obtain ⟨p, M⟩ := y
      have hfit := tkS_fits A4.out.ar.inv ht
      rw [HGE.out] at hfit
      obtain ⟨hM, hIM, -, -⟩ := tkS_some A4.out.ar.inv ht
      have hin : (p, k) ∈ M := by rw [hM]; exact ins_mem.2 (.inl rfl)
      have HT := as_take hN16 A4.out (k : Int)
      rw [tkF_ok hk ht] at HT
      dsimp only at HT
      have HTT := Lib.hid HT
      clear HT
      go_wp2_with fail
      refine Calls.mono HTT.out ?_
      rintro e x5 ⟨rfl, hA5, ht5⟩
      have A5 := Lib.hid hA5
      have R5 := Lib.hid (R4.out.tou ht5 HB3.out.1 HB3.out.2.1 HB3.out.2.2)
      clear hA5 ht5 HTT
      have HO := Lib.hid (ordS_in hIM hin)
      have hlen : M.length = n + 1 := by rw [hM, ins_len, hn]
      have hle2 := sumB_le hIM
      rw [hM, sumB_ins] at hle2
      have HFM : Hid (2 ^ N - sumB M = F - 2 ^ k ∧ 2 ^ k ≤ F) := Lib.hid (by rw [hM, sumB_ins, ← HFE.out]; omega)
      have HP5 := Lib.hid (porder_any r bm bn N M (p : Int) (by omega) (by have := (hIM.each _ hin).2; have := (pow16 hN16).2; have := two_pos k; simp only at *; omega) x5 A5.out.ar)
      have HF5 := Lib.hid (pfree_any r bm bn N M x5 A5.out.ar)
      have HQ5 := Lib.hid (power_any k (by omega) x5)
      have HT5 := Lib.hid (as_taken hN16 A5.out hlen)
      rw [HO.out] at HP5
      rw [HFM.out.1] at HF5
      have hpk16 := pow16 (k := k) (by omega)
      obtain ⟨P, hP⟩ : ∃ P : Nat, 2 ^ k = P := ⟨_, rfl⟩
      rw [hP] at HFM HF5 HQ5 hpk16
      obtain ⟨F2, hF2⟩ : ∃ F2 : Nat, F - P = F2 := ⟨_, rfl⟩
      rw [hF2] at HF5
      have j1 : IntKind.i64.wrap ((F : Int) - (P : Int)) = (F2 : Int) := by
        have := HFM.out.2
        have hFb : F ≤ 2 ^ N := by rw [← HFE.out]; omega
        have := (pow16 hN16).2
        rw [IntKind.wrap_i64]; omega
      have j2 : IntKind.i64.wrap ((n : Int) + 1) = (n : Int) + 1 := by rw [IntKind.wrap_i64]; omega
      have k0 : (0 : Int) ≤ (k : Int) := by omega
      have hfitI : (k : Int) ≤ G := hfit
      clear ht hb hfit hM hIM hin hlen hle2 hP hF2
      go_wp2_with fail
      refine Calls.mono HP5.out ?_
      rintro e x6 ⟨rfl, rfl⟩
      go_wp2_with fail
      refine Calls.mono HF5.out ?_
      rintro e x6 ⟨rfl, rfl⟩
      go_wp2_with fail
      refine Calls.mono HQ5.out ?_
      rintro e x6 ⟨rfl, rfl⟩
      go_wp2_with fail
      refine Calls.mono HT5.out ?_
      rintro e x6 ⟨A6t, c6t, rfl, -, -, hA6, -⟩
      have A6 := Lib.hid hA6
      clear hA6
      go_wp2
      go_ret
      exact ⟨rfl, B1.out.trans (A6.out.bel.mono B1.out.size)⟩
  · have h3 : a2 < 0 ∨ (N : Int) < a2 := by omega
    have HT := as_take hN16 A4.out a2
    rw [tkF_bad hb] at HT
    dsimp only at HT
    have HTT := Lib.hid HT
    clear HT
    go_wp2_with fail
    refine Calls.mono HTT.out ?_
    rintro e x5 ⟨rfl, hA5, ht5⟩
    have A5 := Lib.hid hA5
    have R5 := Lib.hid (R4.out.tou ht5 HB3.out.1 HB3.out.2.1 HB3.out.2.2)
    clear hA5 ht5 HTT
    clear hb
    rcases h3 with h3 | h3
    · have HT5 := Lib.hid (as_taken hN16 A5.out hn)
      go_wp2_with fail
      refine Calls.mono HT5.out ?_
      rintro e x6 ⟨A6t, c6t, rfl, hR6, hb6, hA6, -⟩
      have A6 := Lib.hid hA6
      have R6 := Lib.hid hR6
      have R6b := Lib.hid (R5.out.below hb6)
      clear hA6 hR6 hb6
      have HS := Lib.hid (same_any _ n c6t A6t (ats L) _ n ct At (ats L) hn7 _ R6.out R6b.out)
      rw [show decide (ats L = ats L) = true from decide_eq_true rfl] at HS
      go_wp2_with fail
      refine Calls.mono HS.out ?_
      rintro e x7 ⟨rfl, hb7⟩
      have A7 := Lib.hid (A6.out.below hb7)
      clear hb7
      go_wp2_with fail
      refine Calls.mono (HF.out _ A7.out.ar) ?_
      rintro e x7' ⟨rfl, rfl⟩
      have HG := as_great hN16 A7.out
      rw [HGE.out] at HG
      have HG7 := Lib.hid HG
      clear HG
      go_wp2_with fail
      refine Calls.mono HG7.out ?_
      rintro e x8 ⟨rfl, hA8, -⟩
      have A8 := Lib.hid hA8
      clear hA8
      go_wp2
      go_ret
      exact ⟨rfl, B1.out.trans (A8.out.bel.mono B1.out.size)⟩
    · have h4 : ¬ a2 < 0 := by omega
      have HT5 := Lib.hid (as_taken hN16 A5.out hn)
      go_wp2_with fail
      refine Calls.mono HT5.out ?_
      rintro e x6 ⟨A6t, c6t, rfl, hR6, hb6, hA6, -⟩
      have A6 := Lib.hid hA6
      have R6 := Lib.hid hR6
      have R6b := Lib.hid (R5.out.below hb6)
      clear hA6 hR6 hb6
      have HS := Lib.hid (same_any _ n c6t A6t (ats L) _ n ct At (ats L) hn7 _ R6.out R6b.out)
      rw [show decide (ats L = ats L) = true from decide_eq_true rfl] at HS
      go_wp2_with fail
      refine Calls.mono HS.out ?_
      rintro e x7 ⟨rfl, hb7⟩
      have A7 := Lib.hid (A6.out.below hb7)
      clear hb7
      go_wp2_with fail
      refine Calls.mono (HF.out _ A7.out.ar) ?_
      rintro e x7' ⟨rfl, rfl⟩
      have HG := as_great hN16 A7.out
      rw [HGE.out] at HG
      have HG7 := Lib.hid HG
      clear HG
      go_wp2_with fail
      refine Calls.mono HG7.out ?_
      rintro e x8 ⟨rfl, hA8, -⟩
      have A8 := Lib.hid hA8
      clear hA8
      go_wp2
      go_ret
      exact ⟨rfl, B1.out.trans (A8.out.bel.mono B1.out.size)⟩
set_option maxRecDepth 100000 in
theorem contract (H : Type) (enc : TypeId × Value → H) (W : World) (base : Nat) (args : Array Value) (ds gs : List (DataW H)) (before : List MemPlace)
    (hval0 : ∀ (j : Nat) t v, Tryd.f7.params[j]? = some t → args[j]? = some v → Value.okWide Tryd.prog W .any base t v)
    (hW : DataW.Whole enc Tryd.prog Tryd.f7.params.toList Rows.arenaRefusesSpec.vars false W args.toList ds gs before)
    (hsz0 : (DataW.weightsEach Tryd.prog (Tryd.f7.params.toList ++ Rows.arenaRefusesSpec.plain.varTypes Tryd.prog) (ds ++ gs)).all (· ≤ reachBytes) = true) (hE : EnvA W) :
    Calls Tryd.prog 7 args W fun e W' => ∃ v, e = .returned v ∧ Rows.arenaRefusesSpec.post enc Tryd.prog Tryd.f7 false true false false W args v W' := by
  have hsz := hsz0
  clear hsz0
  have hval := hval0
  clear hval0
  have hW' := hW
  obtain ⟨p, q, hA0, hV, rfl, hfz, hnd⟩ := hW
  have hA : DataW.TrodAll enc Tryd.prog W 0 (fun _ => true) true Tryd.f7.params.toList args.toList ds p := hA0
  rw [Tryd.params7] at hA hval hsz
  obtain ⟨v0, vs0, d0, ds0, p0, q0, hargs, rfl, rfl, h0, r0⟩ := trodAll_cons hA
  obtain ⟨v1, vs1, d1, ds1, p1, q1, rfl, rfl, rfl, h1, r1⟩ := trodAll_cons r0
  obtain ⟨v2, vs2, d2, ds2, p2, q2, rfl, rfl, rfl, h2, r2⟩ := trodAll_cons r1
  obtain ⟨rfl, rfl, rfl⟩ := trodAll_nil r2
  obtain rfl : args = #[v0, v1, v2] := by cases args; simp_all
  obtain ⟨rfl, rfl⟩ := trodVars_none hV
  obtain ⟨a0, rfl, rfl, rfl, w0⟩ := open_int Tryd.underlying3 (hval 0 3 v0 rfl rfl) h0
  obtain ⟨a1, l1, c1, rfl⟩ := okWide_slice Tryd.underlying22 (hval 1 22 v1 rfl rfl)
  have k1 := h1
  have lt1 : ∀ x ∈ p1, x.block < W.heap.size := by obtain ⟨m, hm⟩ := k1; exact DataW.trod_lt m _ _ _ hm
  obtain ⟨z1, w1⟩ := isStp_of h1
  obtain ⟨a2, rfl, rfl, rfl, w2⟩ := open_int Tryd.underlying3 (hval 2 3 v2 rfl rfl) h2
  clear hA0
  refine (walk W hE a0 w0 a1 l1 c1 z1 w1 a2 w2).mono fun e W' ⟨he, bel⟩ => ?_
  subst he
  exact ⟨_, rfl, _, _, _, [], _, [], hW', trodAll_mk1 (shut_bool Tryd.underlying4 _), (trodAll_cons_mk (shut_int Tryd.underlying3 w0) (trodAll_cons_mk (Below.trod laidOut (by kernel_rfl) (of_decide_eq_true (by kernel_rfl)) k1 bel lt1) (trodAll_cons_mk (shut_int Tryd.underlying3 w2) trodAll_mk0))), rfl, bel.frame _, fun h => by cases h⟩

theorem laid_met (os : Os) (args : Array Value) : laidMet Tryd.prog Rows.arenaRefusesRow.laid ((World.laidAll Tryd.prog os Rows.arenaRefusesRow.laid).forCall (fun _ _ => 0) ⟨#[], args, []⟩).memory :=
  laidMet_laidAll _ (by kernel_rfl) (by kernel_rfl)
set_option maxRecDepth 100000 in
theorem pre_row (os : Os) {H : Type} (enc : TypeId × Value → H) :
    (OpenSpec.ofChange Rows.arenaRefusesSpec).preRow enc Tryd.prog Tryd.f7 Rows.arenaRefusesRow.domain false Rows.arenaRefusesRow.laid ((World.laidAll Tryd.prog os Rows.arenaRefusesRow.laid).forCall (fun _ _ => 0) ⟨#[], #[.int .i64 0, .slice none 0 0, .int .i64 0], []⟩).memory #[.int .i64 0, .slice none 0 0, .int .i64 0] := by
  exact ⟨⟨ChangeSpec.pre_of_preB (fuel := 8) (by kernel_rfl), by rw [MakeChecks.laidMetH_plain _ _ _ (by kernel_rfl)]; exact laid_met os _⟩, sizedMet_of_sizedB (fuel := 8) (by kernel_rfl)⟩
set_option maxRecDepth 100000 in
theorem lifted (os : Os) (started : os.Started) (H : Type) (enc : TypeId × Value → H) (F : Stop.Interp) :
    ReturnsInHanded {} Tryd.checked os 7 .any ((OpenSpec.ofChange Rows.arenaRefusesSpec).preRow enc Tryd.prog Tryd.f7 Rows.arenaRefusesRow.domain false Rows.arenaRefusesRow.laid) (((OpenSpec.ofChange Rows.arenaRefusesSpec).at F).post enc Tryd.prog Tryd.f7 false true false false) := by
  refine returnsInHanded_of_row (C := Tryd.checked) (s := (OpenSpec.ofChange Rows.arenaRefusesSpec)) own started (by kernel_rfl) Tryd.func7
    ⟨World.laidAll Tryd.prog os Rows.arenaRefusesRow.laid, fun _ _ => 0, ⟨#[], #[.int .i64 0, .slice none 0 0, .int .i64 0], []⟩, World.laidAll_os _ _ _, World.shaped_of_ZipB (by kernel_rfl) (by kernel_rfl), rfl, (Input.okWide_of_okWideB (by kernel_rfl)).2, pre_row os enc, (by simp only [Assume.holds]; exact ⟨by simp, by simp, fun _ => Modest.zero, by simp, by simp⟩)⟩ ?_
  intro W base args ds gs before hval hW _ hcond hsz hL hsh _
  rw [MakeChecks.laidMetH_plain _ _ _ (by kernel_rfl)] at hL
  exact contract H enc W base args ds gs before hval hW hsz (envA_of hL)

theorem over : Rows.arenaRefusesRow.holds Tryd.pinned (OpenSpec.ofChange Rows.arenaRefusesSpec) :=
  OpenClaim.holds_of_cond 7 Tryd.f7 rfl rfl rfl rfl rfl rfl rfl ⟨rfl, rfl, rfl, rfl, rfl⟩ rfl rfl rfl rfl rfl (by kernel_rfl) Tryd.func7 (by kernel_rfl)
    (of_decide_eq_true (by kernel_rfl)) (by unfold Func.isWrapper; first | (rw [if_pos (by decide +kernel)]; kernel_rfl) | (rw [if_neg (by decide +kernel)]; exact ⟨rfl, rfl⟩))
    (fun os started H enc _ F => by rw [OpenClaim.pre_eq_preRow]; exact lifted os started H enc F)

theorem proved : Rows.ArenaRefusesCardSaid :=
  Claim7.holds_tied_plain_at .later [] Rows.arenaRefusesCard.laidKinds true Rows.arenaRefusesCard.stood.harness Rows.arenaRefusesCard.stood.looks over (fun _ h => by cases h) (by kernel_rfl) (fun _ h => by cases h) arenaRefuses_row_tie rfl ⟨rfl, rfl⟩ (by kernel_rfl) rfl
    (fun f fn hf hfn => by
      obtain rfl : f = 7 := Option.some.inj ((show Tryd.prog.funcNamed Rows.arenaRefusesRow.func = some 7 by kernel_rfl).symm.trans hf) |>.symm
      obtain rfl : fn = Tryd.f7 := (Option.some.inj (Tryd.func7.symm.trans hfn)).symm
      exact ⟨by kernel_rfl, fun j t ht => by
        rw [Tryd.params7] at ht
        have hm : t ∈ [3, 22, 3] := by simpa using Array.mem_of_getElem? ht
        have hall : ([3, 22, 3].all fun u => !Tryd.prog.wantsStandIn u) = true := by kernel_rfl
        exact (show Tryd.prog.wantsStandIn t = false by simpa using List.all_eq_true.1 hall t hm)⟩)
    (by kernel_rfl)
#print axioms proved
end ARef
end Go.Proofs.YtiocdojdncomhaaDoor
