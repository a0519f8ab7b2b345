/-
  I1: what is asked and what is told is the message that the document's own answer says, or is refused: for everything that may be asked or told.
-/
import Derived.Test.YtnligeelbajnpaaNLw
namespace Go.Proofs.Ytnligeelbajnpaa.Lays
open Go.ChangeShapes Go.WideShapes Go.ChangeAt Go.RowKit
set_option linter.unusedVariables false

set_option maxRecDepth 100000 in
set_option maxHeartbeats 8000000 in
theorem walkL (x : Sol) (y : Adv) (hx : U6 x.h ∧ U6 x.l ∧ U6 x.m) (hy : U6 y.h ∧ U6 y.l ∧ U6 y.m) (w : World) :
    Calls Try.prog 3 #[x.val, y.val] w fun e w' => e = .returned (.bool true) ∧ Below w.heap.size w w' := by
  obtain ⟨W0, hW0, kx, ky, hL0⟩ := nd_args x y w
  have X0 := Lib.hid kx
  have Y0 := Lib.hid ky
  have L0 := Lib.hid hL0
  have HA := Lib.hid (fun W => nawake_yes W)
  have H1 := Lib.hid (fun W => nask_any x hx W)
  have H2 : Hid (∀ W : World, Calls Try.prog 10 #[x.val] W fun e w' => e = .returned (askV x) ∧ Below W.heap.size W w') := Lib.hid (fun W => rask_any x.s x.h x.l x.y x.m hx W)
  have H3 := Lib.hid (fun W => ntell_any y hy W)
  have H4 : Hid (∀ W : World, Calls Try.prog 12 #[y.val] W fun e w' => e = .returned (telV y) ∧ Below W.heap.size W w') := Lib.hid (fun W => rtell_any y.s y.h y.l y.r y.a y.o y.y y.m hy W)
  unfold askV at H1 H2
  unfold telV at H3 H4
  obtain ⟨M1, hM1⟩ : ∃ M, (askR x).1 = M := ⟨_, rfl⟩
  obtain ⟨E1, hE1⟩ : ∃ E, (askR x).2 = E := ⟨_, rfl⟩
  obtain ⟨M2, hM2⟩ : ∃ M, (telR y).1 = M := ⟨_, rfl⟩
  obtain ⟨E2, hE2⟩ : ∃ E, (telR y).2 = E := ⟨_, rfl⟩
  rw [hM1, hE1] at H1 H2
  rw [hM2, hE2] at H3 H4
  clear kx ky hL0 hM1 hE1 hM2 hE2 hx hy
  go_enter Try.func3, Try.ntmps3
  go_wp2_with fail
  refine Calls.mono (HA.out _) ?_
  rintro e w1 ⟨rfl, hb⟩
  replace hb : Below W0.heap.size W0 w1 := by rw [hW0]; exact hb
  have X1 := Lib.hid (X0.out.below hb X0.out.lt)
  have Y1 := Lib.hid (Y0.out.below hb Y0.out.lt)
  have L1 := Lib.hid (L0.out.trans (hb.mono L0.out.size))
  clear hb hW0
  obtain ⟨f0, f1, f2, f3, f4⟩ := X1.out.so5
  go_wp2_with fail
  refine Calls.mono (H1.out _) ?_
  rintro e w2 ⟨rfl, hb⟩
  have X2 := Lib.hid ((X1.out.below hb X1.out.lt).alloc (.cells (mcs M1) 32))
  have Y2 := Lib.hid ((Y1.out.below hb Y1.out.lt).alloc (.cells (mcs M1) 32))
  have A2 := Lib.hid (Blk.new w2 32 (mcs M1))
  have L2 := Lib.hid ((L1.out.trans (hb.mono L1.out.size)).alloc (L1.out.trans (hb.mono L1.out.size)).size (.cells (mcs M1) 32))
  clear hb f0 f1 f2 f3 f4
  obtain ⟨f0, f1, f2, f3, f4⟩ := X2.out.so5
  go_wp2_with fail
  refine Calls.mono (H2.out _) ?_
  rintro e w3 ⟨rfl, hb⟩
  have Y3 := Lib.hid ((Y2.out.below hb Y2.out.lt).alloc (.cells (mcs M1) 32))
  have A3 := Lib.hid ((A2.out.below hb A2.out.lt).alloc (.cells (mcs M1) 32))
  have B3 := Lib.hid (Blk.new w3 32 (mcs M1))
  have L3 := Lib.hid ((L2.out.trans (hb.mono L2.out.size)).alloc (L2.out.trans (hb.mono L2.out.size)).size (.cells (mcs M1) 32))
  clear hb f0 f1 f2 f3 f4
  obtain ⟨f0, f1, f2, f3, f4, f5, f6, f7⟩ := Y3.out.ad8
  go_wp2_with fail
  refine Calls.mono (H3.out _) ?_
  rintro e w4 ⟨rfl, hb⟩
  have Y4 := Lib.hid ((Y3.out.below hb Y3.out.lt).alloc (.cells (mcs M2) 32))
  have A4 := Lib.hid ((A3.out.below hb A3.out.lt).alloc (.cells (mcs M2) 32))
  have B4 := Lib.hid ((B3.out.below hb B3.out.lt).alloc (.cells (mcs M2) 32))
  have C4 := Lib.hid (Blk.new w4 32 (mcs M2))
  have L4 := Lib.hid ((L3.out.trans (hb.mono L3.out.size)).alloc (L3.out.trans (hb.mono L3.out.size)).size (.cells (mcs M2) 32))
  clear hb f0 f1 f2 f3 f4 f5 f6 f7
  obtain ⟨f0, f1, f2, f3, f4, f5, f6, f7⟩ := Y4.out.ad8
  go_wp2_with fail
  refine Calls.mono (H4.out _) ?_
  rintro e w5 ⟨rfl, hb⟩
  have A5 := Lib.hid ((A4.out.below hb A4.out.lt).alloc (.cells (mcs M2) 32))
  have B5 := Lib.hid ((B4.out.below hb B4.out.lt).alloc (.cells (mcs M2) 32))
  have C5 := Lib.hid ((C4.out.below hb C4.out.lt).alloc (.cells (mcs M2) 32))
  have D5 := Lib.hid (Blk.new w5 32 (mcs M2))
  have L5 := Lib.hid ((L4.out.trans (hb.mono L4.out.size)).alloc (L4.out.trans (hb.mono L4.out.size)).size (.cells (mcs M2) 32))
  clear hb f0 f1 f2 f3 f4 f5 f6 f7
  obtain ⟨f0, f1, f2, f3, f4⟩ := A5.out.m5
  obtain ⟨g0, g1, g2, g3, g4⟩ := B5.out.m5
  obtain ⟨h0, h1, h2, h3, h4⟩ := C5.out.m5
  obtain ⟨i0, i1, i2, i3, i4⟩ := D5.out.m5
  go_wp2
  go_ret
  exact ⟨rfl, L5.out⟩
theorem walk (w : World) (a0_0 : Bool) (a0_1 : Int) (w0_1 : (Lit.int .u64 a0_1).wf = true) (a0_2 : Int) (w0_2 : (Lit.int .u64 a0_2).wf = true) (a0_3 : Bool) (a0_4 : Int) (w0_4 : (Lit.int .u64 a0_4).wf = true) (a1_0 : Bool) (a1_1 : Int) (w1_1 : (Lit.int .u64 a1_1).wf = true) (a1_2 : Int) (w1_2 : (Lit.int .u64 a1_2).wf = true) (a1_3 : Bool) (a1_4 : Bool) (a1_5 : Bool) (a1_6 : Bool) (a1_7 : Int) (w1_7 : (Lit.int .u64 a1_7).wf = true) :
    Calls Try.prog 3 #[.agg #[.bool a0_0, .int .u64 a0_1, .int .u64 a0_2, .bool a0_3, .int .u64 a0_4], .agg #[.bool a1_0, .int .u64 a1_1, .int .u64 a1_2, .bool a1_3, .bool a1_4, .bool a1_5, .bool a1_6, .int .u64 a1_7]] w fun e w' => e = .returned (.bool true) ∧ Below w.heap.size w w' := by
  exact walkL ⟨a0_0, a0_1, a0_2, a0_3, a0_4⟩ ⟨a1_0, a1_1, a1_2, a1_3, a1_4, a1_5, a1_6, a1_7⟩ ⟨wf_uI w0_1, wf_uI w0_2, wf_uI w0_4⟩ ⟨wf_uI w1_1, wf_uI w1_2, wf_uI w1_7⟩ w
set_option maxRecDepth 100000 in
theorem contract (H : Type) (enc : TypeId × Value → H) (W : World) (base : Nat) (args : Array Value) (ds gs : List (DataW H)) (before : List MemPlace)
    (hval0 : ∀ (j : Nat) t v, Try.f3.params[j]? = some t → args[j]? = some v → Value.okWide Try.prog W .any base t v)
    (hW : DataW.Whole enc Try.prog Try.f3.params.toList Rows.ndLaysSpec.vars false W args.toList ds gs before)
    (hsz0 : (DataW.weightsEach Try.prog (Try.f3.params.toList ++ Rows.ndLaysSpec.plain.varTypes Try.prog) (ds ++ gs)).all (· ≤ reachBytes) = true) :
    Calls Try.prog 3 args W fun e W' => ∃ v, e = .returned v ∧ Rows.ndLaysSpec.post enc Try.prog Try.f3 false true false false W args v W' := by
  have hsz := hsz0
  clear hsz0
  have hval := hval0
  clear hval0
  have hW' := hW
  obtain ⟨p, q, hA0, hV, rfl, hfz, hnd⟩ := hW
  have hA : DataW.TrodAll enc Try.prog W 0 (fun _ => true) true Try.f3.params.toList args.toList ds p := hA0
  rw [Try.params3] at hA hval hsz
  obtain ⟨v0, vs0, d0, ds0, p0, q0, hargs, rfl, rfl, h0, r0⟩ := trodAll_cons hA
  obtain ⟨v1, vs1, d1, ds1, p1, q1, rfl, rfl, rfl, h1, r1⟩ := trodAll_cons r0
  obtain ⟨rfl, rfl, rfl⟩ := trodAll_nil r1
  obtain rfl : args = #[v0, v1] := by cases args; simp_all
  obtain ⟨rfl, rfl⟩ := trodVars_none hV
  have k0 := h0
  have lt0 : ∀ x ∈ p0, x.block < W.heap.size := by obtain ⟨m, hm⟩ := k0; exact DataW.trod_lt m _ _ _ hm
  obtain ⟨a0_0, a0_1, a0_2, a0_3, a0_4, rfl, w0_1, w0_2, w0_4, ep0⟩ := open_sol (hval 0 27 v0 rfl rfl) h0
  have k1 := h1
  have lt1 : ∀ x ∈ p1, x.block < W.heap.size := by obtain ⟨m, hm⟩ := k1; exact DataW.trod_lt m _ _ _ hm
  obtain ⟨a1_0, a1_1, a1_2, a1_3, a1_4, a1_5, a1_6, a1_7, rfl, w1_1, w1_2, w1_7, ep1⟩ := open_adv (hval 1 29 v1 rfl rfl) h1
  clear hA0
  refine (walk W a0_0 a0_1 w0_1 a0_2 w0_2 a0_3 a0_4 w0_4 a1_0 a1_1 w1_1 a1_2 w1_2 a1_3 a1_4 a1_5 a1_6 a1_7 w1_7).mono fun e W' ⟨he, bel⟩ => ?_
  subst he
  exact ⟨_, rfl, _, _, _, [], _, [], hW', trodAll_mk1 (shut_bool Try.underlying4 _), (trodAll_cons_mk (Below.trod laidOut (by kernel_rfl) (of_decide_eq_true (by kernel_rfl)) k0 bel lt0) (trodAll_cons_mk (Below.trod laidOut (by kernel_rfl) (of_decide_eq_true (by kernel_rfl)) k1 bel lt1) trodAll_mk0)), rfl, bel.frame _, fun h => by cases h⟩

set_option maxRecDepth 100000 in
theorem lifted (os : Os) (started : os.Started) (H : Type) (enc : TypeId × Value → H) :
    ReturnsInHanded {} Try.checked os 3 .any (Rows.ndLaysSpec.pre6 enc Try.prog Try.f3 Rows.ndLaysRow.domain false) (Rows.ndLaysSpec.post enc Try.prog Try.f3 false true false false) := by
  refine returnsInHanded_of_change_sized (C := Try.checked) own started (by kernel_rfl) Try.func3
    (ChangeSpec.witness6 (enc := enc) (C := Try.checked) false ⟨#[], #[.agg #[.bool false, .int .u64 0, .int .u64 0, .bool false, .int .u64 0], .agg #[.bool false, .int .u64 0, .int .u64 0, .bool false, .bool false, .bool false, .bool false, .int .u64 0]], []⟩ 8 (by kernel_rfl) (by kernel_rfl) (by kernel_rfl) (by kernel_rfl)) ?_
  intro W base args ds gs before hval hW _ hsz _
  exact contract H enc W base args ds gs before hval hW hsz

theorem over : Rows.ndLaysRow.holds Try.pinned (OpenSpec.ofChange Rows.ndLaysSpec) :=
  OpenClaim.holds_of_wide 3 Try.f3 rfl rfl rfl rfl rfl rfl rfl ⟨rfl, rfl, rfl, rfl, rfl⟩ rfl rfl rfl rfl rfl (by kernel_rfl) Try.func3 (by kernel_rfl)
    (of_decide_eq_true (by kernel_rfl)) (by unfold Func.isWrapper; first | (rw [if_pos (by decide +kernel)]; kernel_rfl) | (rw [if_neg (by decide +kernel)]; exact ⟨rfl, rfl⟩))
    (fun os started H enc _ => lifted os started H enc)

theorem proved : Rows.NdLaysSaid := over
#print axioms proved
end Go.Proofs.Ytnligeelbajnpaa.Lays
