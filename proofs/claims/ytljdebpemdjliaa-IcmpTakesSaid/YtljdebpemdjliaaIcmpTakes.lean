/-
  H2: bytes between two ends, of either family, are the message that the document's own answer says, or what is wrong with them: for every text and any two ends.
-/
import Derived.Test.YtljdebpemdjliaaILw
import Derived.Test.YtljdebpemdjliaaIRt
namespace Go.Proofs.Ytljdebpemdjliaa.Takes
open Go.ChangeShapes Go.WideShapes Go.ChangeAt Go.RowKit
set_option linter.unusedVariables false

set_option maxRecDepth 100000 in
set_option maxHeartbeats 8000000 in
theorem walkK (s : ByteArray) (hs : s.size ≤ 140737488351232) (six : Bool) (a b : Ad) (ha : WfA a) (hb : WfA b) (w : World) :
    Calls Try.prog 4 #[.string s, .bool six, .agg (ecs a b)] w fun e w' => e = .returned (.bool true) ∧ Below w.heap.size w w' := by
  have E0 := Lib.hid (Blk.new w 28 (ecs a b))
  have L0 := Lib.hid ((Below.refl _ w).alloc (Nat.le_refl _) (.cells (ecs a b) 28))
  have HA := Lib.hid (fun W => iawake_yes W)
  have HT := Lib.hid (fun W => itake_any s (by omega) six a b ha hb W)
  have HR := Lib.hid (fun W => rtake_any s hs six a b ha hb W)
  unfold tkIV at HT HR
  obtain ⟨M, hM⟩ : ∃ M, (tkIR s six a b).1 = M := ⟨_, rfl⟩
  obtain ⟨E, hE⟩ : ∃ E, (tkIR s six a b).2 = E := ⟨_, rfl⟩
  rw [hM, hE] at HT HR
  clear hM hE ha hb hs
  go_enter Try.func4, Try.ntmps4
  go_wp2_with fail
  refine Calls.mono (HA.out _) ?_
  rintro e w1 ⟨rfl, hb⟩
  have E1 := Lib.hid (E0.out.below hb E0.out.lt)
  have L1 := Lib.hid (L0.out.trans (hb.mono L0.out.size))
  clear hb
  obtain ⟨g0, g1, g2, g3, g4, g5⟩ := E1.out.i6
  go_wp2_with fail
  refine Calls.mono (HT.out _) ?_
  rintro e w2 ⟨rfl, hb⟩
  have E2 := Lib.hid ((E1.out.below hb E1.out.lt).alloc (.cells (mcs M) 23))
  have N2 := Lib.hid (Blk.new w2 23 (mcs M))
  have L2 := Lib.hid ((L1.out.trans (hb.mono L1.out.size)).alloc (L1.out.trans (hb.mono L1.out.size)).size (.cells (mcs M) 23))
  clear hb g0 g1 g2 g3 g4 g5
  obtain ⟨g0, g1, g2, g3, g4, g5⟩ := E2.out.i6
  go_wp2_with fail
  refine Calls.mono (HR.out _) ?_
  rintro e w3 ⟨rfl, hb⟩
  have N3 := Lib.hid ((N2.out.below hb N2.out.lt).alloc (.cells (mcs M) 23))
  have Q3 := Lib.hid (Blk.new w3 23 (mcs M))
  have L3 := Lib.hid ((L2.out.trans (hb.mono L2.out.size)).alloc (L2.out.trans (hb.mono L2.out.size)).size (.cells (mcs M) 23))
  clear hb g0 g1 g2 g3 g4 g5
  obtain ⟨f0, f1, f2, f3, f4⟩ := N3.out.i5
  obtain ⟨g0, g1, g2, g3, g4⟩ := Q3.out.i5
  go_wp2
  go_ret
  exact ⟨rfl, L3.out⟩
theorem walk (w : World) (a0 : ByteArray) (w0 : a0.size ≤ maxLen) (s0 : a0.size ≤ 140737488351232) (a1 : Bool) (a2_0 : Bool) (a2_1 : Int) (w2_1 : (Lit.int .u64 a2_1).wf = true) (a2_2 : Int) (w2_2 : (Lit.int .u64 a2_2).wf = true) (a2_3 : Bool) (a2_4 : Int) (w2_4 : (Lit.int .u64 a2_4).wf = true) (a2_5 : Int) (w2_5 : (Lit.int .u64 a2_5).wf = true) :
    Calls Try.prog 4 #[.string a0, .bool a1, .agg #[.bool a2_0, .int .u64 a2_1, .int .u64 a2_2, .bool a2_3, .int .u64 a2_4, .int .u64 a2_5]] w fun e w' => e = .returned (.bool true) ∧ Below w.heap.size w w' := by
  exact walkK a0 s0 a1 ⟨a2_0, a2_1, a2_2⟩ ⟨a2_3, a2_4, a2_5⟩ ⟨wf_uI w2_1, wf_uI w2_2⟩ ⟨wf_uI w2_4, wf_uI w2_5⟩ w
set_option maxRecDepth 100000 in
theorem contract (H : Type) (enc : TypeId × Value → H) (W : World) (base : Nat) (args : Array Value) (ds gs : List (DataW H)) (before : List MemPlace)
    (hval0 : ∀ (j : Nat) t v, Try.f4.params[j]? = some t → args[j]? = some v → Value.okWide Try.prog W .any base t v)
    (hW : DataW.Whole enc Try.prog Try.f4.params.toList Rows.icmpTakesSpec.vars false W args.toList ds gs before)
    (hsz0 : (DataW.weightsEach Try.prog (Try.f4.params.toList ++ Rows.icmpTakesSpec.plain.varTypes Try.prog) (ds ++ gs)).all (· ≤ reachBytes) = true) :
    Calls Try.prog 4 args W fun e W' => ∃ v, e = .returned v ∧ Rows.icmpTakesSpec.post enc Try.prog Try.f4 false true false false W args v W' := by
  have hsz := hsz0
  clear hsz0
  have hval := hval0
  clear hval0
  have hW' := hW
  obtain ⟨p, q, hA0, hV, rfl, hfz, hnd⟩ := hW
  have hA : DataW.TrodAll enc Try.prog W 0 (fun _ => true) true Try.f4.params.toList args.toList ds p := hA0
  rw [Try.params4] at hA hval hsz
  obtain ⟨v0, vs0, d0, ds0, p0, q0, hargs, rfl, rfl, h0, r0⟩ := trodAll_cons hA
  obtain ⟨v1, vs1, d1, ds1, p1, q1, rfl, rfl, rfl, h1, r1⟩ := trodAll_cons r0
  obtain ⟨v2, vs2, d2, ds2, p2, q2, rfl, rfl, rfl, h2, r2⟩ := trodAll_cons r1
  obtain ⟨rfl, rfl, rfl⟩ := trodAll_nil r2
  obtain rfl : args = #[v0, v1, v2] := by cases args; simp_all
  obtain ⟨rfl, rfl⟩ := trodVars_none hV
  obtain ⟨a0, rfl, rfl, rfl, w0⟩ := Go.ChangeMaps.open_string Try.underlying9 (hval 0 9 v0 rfl rfl) h0
  have s0 : a0.size ≤ 140737488351232 := by have h1 := sized_string hsz (j := 0) (t := 9) (bytes := a0.data.toList) rfl rfl; have h2 := Lib.size_eq a0; have h3 : reachBytes = 140737488351232 := (by decide); omega
  obtain ⟨a1, rfl, rfl, rfl⟩ := open_boolv Try.underlying4 (hval 1 4 v1 rfl rfl) h1
  have k2 := h2
  have lt2 : ∀ x ∈ p2, x.block < W.heap.size := by obtain ⟨m, hm⟩ := k2; exact DataW.trod_lt m _ _ _ hm
  obtain ⟨a2_0, a2_1, a2_2, a2_3, a2_4, a2_5, rfl, w2_1, w2_2, w2_4, w2_5, ep2⟩ := open_ends (hval 2 28 v2 rfl rfl) h2
  clear hA0
  refine (walk W a0 w0 s0 a1 a2_0 a2_1 w2_1 a2_2 w2_2 a2_3 a2_4 w2_4 a2_5 w2_5).mono fun e W' ⟨he, bel⟩ => ?_
  subst he
  exact ⟨_, rfl, _, _, _, [], _, [], hW', trodAll_mk1 (shut_bool Try.underlying4 _), (trodAll_cons_mk (Go.ChangeMaps.shut_string Try.underlying9 w0) (trodAll_cons_mk (shut_bool Try.underlying4 _) (trodAll_cons_mk (Below.trod laidOut (by kernel_rfl) (of_decide_eq_true (by kernel_rfl)) k2 bel lt2) trodAll_mk0))), rfl, bel.frame _, fun h => by cases h⟩

set_option maxRecDepth 100000 in
theorem lifted (os : Os) (started : os.Started) (H : Type) (enc : TypeId × Value → H) :
    ReturnsInHanded {} Try.checked os 4 .any (Rows.icmpTakesSpec.pre6 enc Try.prog Try.f4 Rows.icmpTakesRow.domain false) (Rows.icmpTakesSpec.post enc Try.prog Try.f4 false true false false) := by
  refine returnsInHanded_of_change_sized (C := Try.checked) own started (by kernel_rfl) Try.func4
    (ChangeSpec.witness6 (enc := enc) (C := Try.checked) false ⟨#[], #[.string ByteArray.empty, .bool false, .agg #[.bool false, .int .u64 0, .int .u64 0, .bool false, .int .u64 0, .int .u64 0]], []⟩ 8 (by kernel_rfl) (by kernel_rfl) (by kernel_rfl) (by kernel_rfl)) ?_
  intro W base args ds gs before hval hW _ hsz _
  exact contract H enc W base args ds gs before hval hW hsz

theorem over : Rows.icmpTakesRow.holds Try.pinned (OpenSpec.ofChange Rows.icmpTakesSpec) :=
  OpenClaim.holds_of_wide 4 Try.f4 rfl rfl rfl rfl rfl rfl rfl ⟨rfl, rfl, rfl, rfl, rfl⟩ rfl rfl rfl rfl rfl (by kernel_rfl) Try.func4 (by kernel_rfl)
    (of_decide_eq_true (by kernel_rfl)) (by unfold Func.isWrapper; first | (rw [if_pos (by decide +kernel)]; kernel_rfl) | (rw [if_neg (by decide +kernel)]; exact ⟨rfl, rfl⟩))
    (fun os started H enc _ => lifted os started H enc)

theorem proved : Rows.IcmpTakesSaid := over
#print axioms proved
end Go.Proofs.Ytljdebpemdjliaa.Takes
