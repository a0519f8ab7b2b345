/-
  What is proved: the sum of two ends is the document's own, of any addresses, right or wrong, and any numbers; the call returns true, and leaves its arguments alone. No condition.
-/
import Derived.Test.YtelkjcgfielbpaaTAwake
import Derived.Test.YtelkjcgfielbpaaFrame
namespace Go.Proofs.Ytelkjcgfielbpaa.Pseu
open Go.ChangeShapes Go.WideShapes Go.ChangeAt Go.RowKit
open Go.Proofs.Ytelkjcgfielbpaa
set_option linter.unusedVariables false

set_option maxHeartbeats 1000000 in
theorem walk (w : World) (a0_0 : Bool) (a0_1 : Int) (w0_1 : (Lit.int .u64 a0_1).wf = true) (a0_2 : Int) (w0_2 : (Lit.int .u64 a0_2).wf = true) (a1_0 : Bool) (a1_1 : Int) (w1_1 : (Lit.int .u64 a1_1).wf = true) (a1_2 : Int) (w1_2 : (Lit.int .u64 a1_2).wf = true) (a2 : Int) (w2 : (Lit.int .i64 a2).wf = true) (a3 : Int) (w3 : (Lit.int .i64 a3).wf = true) :
    Calls Try.prog 6 #[.agg #[.bool a0_0, .int .u64 a0_1, .int .u64 a0_2], .agg #[.bool a1_0, .int .u64 a1_1, .int .u64 a1_2], .int .i64 a2, .int .i64 a3] w fun e w' => e = .returned (.bool true) ∧ Below w.heap.size w w' := by
  obtain ⟨p0, q0⟩ := u64_bd w0_1
  obtain ⟨p1, q1⟩ := u64_bd w0_2
  obtain ⟨p2, q2⟩ := u64_bd w1_1
  obtain ⟨p3, q3⟩ := u64_bd w1_2
  have HP : ∃ V, Hid (∀ W, Calls Try.prog 19 #[.agg #[.bool a0_0, .int .u64 a0_1, .int .u64 a0_2], .agg #[.bool a1_0, .int .u64 a1_1, .int .u64 a1_2], .int .i64 a2, .int .i64 a3] W fun e w' => e = .returned (.int .u16 V) ∧ Below W.heap.size W w') ∧
      Hid (∀ W, Calls Try.prog 20 #[.agg #[.bool a0_0, .int .u64 a0_1, .int .u64 a0_2], .agg #[.bool a1_0, .int .u64 a1_1, .int .u64 a1_2], .int .i64 a2, .int .i64 a3] W fun e w' => e = .returned (.int .u16 V) ∧ Below W.heap.size W w') := by
    cases a0_0
    · exact ⟨_, Lib.hid (fun W => pseudo_four W a0_1 a0_2 a1_1 a1_2 a2 a3 a1_0 p1 p3), Lib.hid (fun W => refPseudo_four W a0_1 a0_2 a1_1 a1_2 a2 a3 a1_0 p1 p3 q1 q3)⟩
    · exact ⟨_, Lib.hid (fun W => pseudo_six W a0_1 a0_2 a1_1 a1_2 a2 a3 a1_0 p0 p1 p2 p3), Lib.hid (fun W => refPseudo_six W a0_1 a0_2 a1_1 a1_2 a2 a3 a1_0 p0 p1 p2 p3 q0 q1 q2 q3)⟩
  obtain ⟨V, H1, H2⟩ := HP
  clear p0 p1 p2 p3 q0 q1 q2 q3
  go_enter Try.func6, Try.ntmps6
  go_wp2_with fail
  refine (tawake_yes _).mono ?_
  rintro e w1 ⟨rfl, hB1⟩
  have b1 : Blk w1 w.heap.size 34 #[Value.bool a0_0, Value.int IntKind.u64 a0_1, Value.int IntKind.u64 a0_2] := ((Blk.new w 34 #[Value.bool a0_0, Value.int IntKind.u64 a0_1, Value.int IntKind.u64 a0_2]).alloc (.cells #[Value.bool a1_0, Value.int IntKind.u64 a1_1, Value.int IntKind.u64 a1_2] 34)).below hB1 (by simp; omega)
  have b2 : Blk w1 (w.heap.size + 1) 34 #[Value.bool a1_0, Value.int IntKind.u64 a1_1, Value.int IntKind.u64 a1_2] := by
    have := Blk.new (w.alloc (Obj.cells #[Value.bool a0_0, Value.int IntKind.u64 a0_1, Value.int IntKind.u64 a0_2] 34)) 34 #[Value.bool a1_0, Value.int IntKind.u64 a1_1, Value.int IntKind.u64 a1_2]
    have := this.below hB1 (by simp)
    simpa using this
  have hB : Below w.heap.size w w1 := (((Below.refl _ _).alloc (Nat.le_refl _) _).alloc (by simp) _).trans (hB1.mono (by simp; omega))
  have HC : Hid (∀ W', Below w1.heap.size w1 W' → W'.cell? ⟨w.heap.size, 0, none⟩ = some (.bool a0_0) ∧ W'.cell? ⟨w.heap.size, 1, none⟩ = some (.int .u64 a0_1) ∧ W'.cell? ⟨w.heap.size, 2, none⟩ = some (.int .u64 a0_2) ∧ W'.cell? ⟨w.heap.size + 1, 0, none⟩ = some (.bool a1_0) ∧ W'.cell? ⟨w.heap.size + 1, 1, none⟩ = some (.int .u64 a1_1) ∧ W'.cell? ⟨w.heap.size + 1, 2, none⟩ = some (.int .u64 a1_2)) := by
    show ∀ W', _ → _
    intro W' h
    exact ⟨by rw [(b1.below h b1.lt).cell]; rfl, by rw [(b1.below h b1.lt).cell]; rfl, by rw [(b1.below h b1.lt).cell]; rfl, by rw [(b2.below h b2.lt).cell]; rfl, by rw [(b2.below h b2.lt).cell]; rfl, by rw [(b2.below h b2.lt).cell]; rfl⟩
  have hD : Below w1.heap.size w1 w1.drew := (Below.refl _ _).drew
  have HB := Lib.hid hB
  clear b1 b2 hB hB1
  go_wp2_with fail
  go_region_held3 (fun w' => w'.cell? ⟨w.heap.size, 0, none⟩ = some (.bool a0_0) ∧ w'.cell? ⟨w.heap.size, 1, none⟩ = some (.int .u64 a0_1) ∧ w'.cell? ⟨w.heap.size, 2, none⟩ = some (.int .u64 a0_2) ∧ w'.cell? ⟨w.heap.size + 1, 0, none⟩ = some (.bool a1_0) ∧ w'.cell? ⟨w.heap.size + 1, 1, none⟩ = some (.int .u64 a1_1) ∧ w'.cell? ⟨w.heap.size + 1, 2, none⟩ = some (.int .u64 a1_2))
    (first | exact HC.out _ hD | go_keep)
    ((first
      | (go_at_call 19; (with_reducible refine Calls.mono (H1.out _) ?_); rintro e w2 ⟨rfl, hE⟩; have hD := hD.trans (hE.mono hD.size))
      | (go_at_call 20; (with_reducible refine Calls.mono (H2.out _) ?_); rintro e w3 ⟨rfl, hE⟩; have hD := hD.trans (hE.mono hD.size))))
  go_wp2
  go_ret
  exact ⟨rfl, HB.out.trans (hD.mono HB.out.size)⟩

set_option maxRecDepth 100000 in
theorem contract (H : Type) (enc : TypeId × Value → H) (W : World) (base : Nat) (args : Array Value) (ds gs : List (DataW H)) (before : List MemPlace)
    (hval0 : ∀ (j : Nat) t v, Try.f6.params[j]? = some t → args[j]? = some v → Value.okWide Try.prog W .any base t v)
    (hW : DataW.Whole enc Try.prog Try.f6.params.toList Rows.tallyPseudoSpec.vars false W args.toList ds gs before)
    (hsz0 : (DataW.weightsEach Try.prog (Try.f6.params.toList ++ Rows.tallyPseudoSpec.plain.varTypes Try.prog) (ds ++ gs)).all (· ≤ reachBytes) = true) :
    Calls Try.prog 6 args W fun e W' => ∃ v, e = .returned v ∧ Rows.tallyPseudoSpec.post enc Try.prog Try.f6 false true false false W args v W' := by
  have hsz := hsz0
  clear hsz0
  have hval := hval0
  clear hval0
  have hW' := hW
  obtain ⟨p, q, hA0, hV, rfl, hfz, hnd⟩ := hW
  have hA : DataW.TrodAll enc Try.prog W 0 (fun _ => true) true Try.f6.params.toList args.toList ds p := hA0
  rw [Try.params6] at hA hval hsz
  obtain ⟨v0, vs0, d0, ds0, p0, q0, hargs, rfl, rfl, h0, r0⟩ := trodAll_cons hA
  obtain ⟨v1, vs1, d1, ds1, p1, q1, rfl, rfl, rfl, h1, r1⟩ := trodAll_cons r0
  obtain ⟨v2, vs2, d2, ds2, p2, q2, rfl, rfl, rfl, h2, r2⟩ := trodAll_cons r1
  obtain ⟨v3, vs3, d3, ds3, p3, q3, rfl, rfl, rfl, h3, r3⟩ := trodAll_cons r2
  obtain ⟨rfl, rfl, rfl⟩ := trodAll_nil r3
  obtain rfl : args = #[v0, v1, v2, v3] := by cases args; simp_all
  obtain ⟨rfl, rfl⟩ := trodVars_none hV
  have k0 := h0
  have lt0 : ∀ x ∈ p0, x.block < W.heap.size := by obtain ⟨m, hm⟩ := k0; exact DataW.trod_lt m _ _ _ hm
  obtain ⟨v0_0, v0_1, v0_2, y0_0, y0_1, y0_2, n0, rfl, ed0, ep0, f0_0, f0_1, f0_2⟩ := Go.Joins.open_agg3 Try.underlying34 (by kernel_rfl) (by kernel_rfl) (hval 0 34 v0 rfl rfl) h0
  obtain ⟨a0_0, e0_0, _⟩ := DataW.trod_bool Try.underlying4 f0_0
  injection e0_0 with e0_0 _
  subst e0_0
  obtain ⟨a0_1, e0_1, _, w0_1⟩ := DataW.trod_int Try.underlying32 f0_1
  injection e0_1 with e0_1 _
  subst e0_1
  obtain ⟨a0_2, e0_2, _, w0_2⟩ := DataW.trod_int Try.underlying32 f0_2
  injection e0_2 with e0_2 _
  subst e0_2
  have k1 := h1
  have lt1 : ∀ x ∈ p1, x.block < W.heap.size := by obtain ⟨m, hm⟩ := k1; exact DataW.trod_lt m _ _ _ hm
  obtain ⟨v1_0, v1_1, v1_2, y1_0, y1_1, y1_2, n1, rfl, ed1, ep1, f1_0, f1_1, f1_2⟩ := Go.Joins.open_agg3 Try.underlying34 (by kernel_rfl) (by kernel_rfl) (hval 1 34 v1 rfl rfl) h1
  obtain ⟨a1_0, e1_0, _⟩ := DataW.trod_bool Try.underlying4 f1_0
  injection e1_0 with e1_0 _
  subst e1_0
  obtain ⟨a1_1, e1_1, _, w1_1⟩ := DataW.trod_int Try.underlying32 f1_1
  injection e1_1 with e1_1 _
  subst e1_1
  obtain ⟨a1_2, e1_2, _, w1_2⟩ := DataW.trod_int Try.underlying32 f1_2
  injection e1_2 with e1_2 _
  subst e1_2
  obtain ⟨a2, rfl, rfl, rfl, w2⟩ := open_int Try.underlying3 (hval 2 3 v2 rfl rfl) h2
  obtain ⟨a3, rfl, rfl, rfl, w3⟩ := open_int Try.underlying3 (hval 3 3 v3 rfl rfl) h3
  clear hA0
  refine (walk W a0_0 a0_1 w0_1 a0_2 w0_2 a1_0 a1_1 w1_1 a1_2 w1_2 a2 w2 a3 w3).mono fun e W' ⟨he, bel⟩ => ?_
  subst he
  exact ⟨_, rfl, _, _, _, [], _, [], hW', trodAll_mk1 (shut_bool Try.underlying4 _), (trodAll_cons_mk (Below.trod laidOut (by kernel_rfl) (of_decide_eq_true (by kernel_rfl)) k0 bel lt0) (trodAll_cons_mk (Below.trod laidOut (by kernel_rfl) (of_decide_eq_true (by kernel_rfl)) k1 bel lt1) (trodAll_cons_mk (shut_int Try.underlying3 w2) (trodAll_cons_mk (shut_int Try.underlying3 w3) trodAll_mk0)))), rfl, bel.frame _, fun h => by cases h⟩

set_option maxRecDepth 100000 in
theorem lifted (os : Os) (started : os.Started) (H : Type) (enc : TypeId × Value → H) :
    ReturnsInHanded {} Try.checked os 6 .any (Rows.tallyPseudoSpec.pre6 enc Try.prog Try.f6 Rows.tallyPseudoRow.domain false) (Rows.tallyPseudoSpec.post enc Try.prog Try.f6 false true false false) := by
  refine returnsInHanded_of_change_sized (C := Try.checked) own started (by kernel_rfl) Try.func6
    (ChangeSpec.witness6 (enc := enc) (C := Try.checked) false ⟨#[], #[.agg #[.bool false, .int .u64 0, .int .u64 0], .agg #[.bool false, .int .u64 0, .int .u64 0], .int .i64 0, .int .i64 0], []⟩ 8 (by kernel_rfl) (by kernel_rfl) (by kernel_rfl) (by kernel_rfl)) ?_
  intro W base args ds gs before hval hW _ hsz _
  exact contract H enc W base args ds gs before hval hW hsz

theorem over : Rows.tallyPseudoRow.holds Try.pinned (OpenSpec.ofChange Rows.tallyPseudoSpec) :=
  OpenClaim.holds_of_wide 6 Try.f6 rfl rfl rfl rfl rfl rfl rfl ⟨rfl, rfl, rfl, rfl, rfl⟩ rfl rfl rfl rfl rfl (by kernel_rfl) Try.func6 (by kernel_rfl)
    (of_decide_eq_true (by kernel_rfl)) (by unfold Func.isWrapper; first | (rw [if_pos (by decide +kernel)]; kernel_rfl) | (rw [if_neg (by decide +kernel)]; exact ⟨rfl, rfl⟩))
    (fun os started H enc _ => lifted os started H enc)

theorem proved : Rows.TallyPseudoSaid := over
#print axioms proved
end Go.Proofs.Ytelkjcgfielbpaa.Pseu
