/-
  G2, G5: any bytes are the packet that the document's own answer says, or what is wrong with them, and so is their next hop: for every text.
-/
import Derived.Test.YtbhddodghbhjiaaSAw
import Derived.Test.YtbhddodghbhjiaaSRHp
import Derived.Test.YtbhddodghbhjiaaFrame
namespace Go.Proofs.Ytbhddodghbhjiaa.Takes
open Go.ChangeShapes Go.WideShapes Go.ChangeAt Go.RowKit
set_option linter.unusedVariables false

set_option maxRecDepth 100000 in
set_option maxHeartbeats 8000000 in
theorem walk (w : World) (a0 : ByteArray) (w0 : a0.size ≤ maxLen) :
    Calls Try.prog 5 #[.string a0] w fun e w' => e = .returned (.bool true) ∧ Below w.heap.size w w' := by
  have hs : (a0.size : Int) ≤ 9223372036854775807 := by unfold maxLen at w0; omega
  have HA := Lib.hid (fun W => sawake_yes W)
  have HT := Lib.hid (fun W => stake_any a0 hs W)
  have HR := Lib.hid (fun W => srtake_any a0 hs W)
  have HH := Lib.hid (fun W => shop_any a0 hs W)
  have HG := Lib.hid (fun W => srhop_any a0 hs W)
  unfold tkSV at HT HR
  unfold hpSV at HH HG
  clear w0 hs
  obtain ⟨p, hp⟩ : ∃ p, (tkS a0).1 = p := ⟨_, rfl⟩
  obtain ⟨E, hE⟩ : ∃ E, (tkS a0).2 = E := ⟨_, rfl⟩
  obtain ⟨S, hS⟩ : ∃ S, (hpS a0).1 = S := ⟨_, rfl⟩
  obtain ⟨G, hG⟩ : ∃ G, (hpS a0).2 = G := ⟨_, rfl⟩
  rw [hp, hE] at HT HR
  rw [hS, hG] at HH HG
  clear hp hE hS hG
  obtain ⟨c, f, n, h, s1, a1, b1, s2, a2, b2, d⟩ := p
  replace HT : Hid (∀ W : World, Calls Try.prog 18 #[.string a0] W fun e w' => e = .returned (.tuple #[.agg #[.int .i64 c, .int .i64 f, .int .i64 n, .int .i64 h, .bool s1, .int .u64 a1, .int .u64 b1, .bool s2, .int .u64 a2, .int .u64 b2, .string d], .int .i64 E]) ∧ Below W.heap.size W w') := HT
  replace HR : Hid (∀ W : World, Calls Try.prog 19 #[.string a0] W fun e w' => e = .returned (.tuple #[.agg #[.int .i64 c, .int .i64 f, .int .i64 n, .int .i64 h, .bool s1, .int .u64 a1, .int .u64 b1, .bool s2, .int .u64 a2, .int .u64 b2, .string d], .int .i64 E]) ∧ Below W.heap.size W w') := HR
  go_enter Try.func5, Try.ntmps5
  go_wp2_with fail
  refine Calls.mono (HA.out _) ?_
  rintro e w1 ⟨rfl, hb⟩
  have L1 := Lib.hid hb
  clear hb
  go_wp2_with fail
  refine Calls.mono (HT.out _) ?_
  rintro e w2 ⟨rfl, hb⟩
  have L2 := Lib.hid ((L1.out.trans (hb.mono L1.out.size)).alloc (L1.out.trans (hb.mono L1.out.size)).size (.cells #[.int .i64 c, .int .i64 f, .int .i64 n, .int .i64 h, .bool s1, .int .u64 a1, .int .u64 b1, .bool s2, .int .u64 a2, .int .u64 b2, .string d] 35))
  have K2 := Lib.hid (Blk.new w2 35 #[.int .i64 c, .int .i64 f, .int .i64 n, .int .i64 h, .bool s1, .int .u64 a1, .int .u64 b1, .bool s2, .int .u64 a2, .int .u64 b2, .string d])
  clear hb
  go_wp2_with fail
  refine Calls.mono (HR.out _) ?_
  rintro e w3 ⟨rfl, hb⟩
  have L3 := Lib.hid ((L2.out.trans (hb.mono L2.out.size)).alloc (L2.out.trans (hb.mono L2.out.size)).size (.cells #[.int .i64 c, .int .i64 f, .int .i64 n, .int .i64 h, .bool s1, .int .u64 a1, .int .u64 b1, .bool s2, .int .u64 a2, .int .u64 b2, .string d] 35))
  have K3 := Lib.hid ((K2.out.below hb K2.out.lt).alloc (.cells #[.int .i64 c, .int .i64 f, .int .i64 n, .int .i64 h, .bool s1, .int .u64 a1, .int .u64 b1, .bool s2, .int .u64 a2, .int .u64 b2, .string d] 35))
  have N3 := Lib.hid (Blk.new w3 35 #[.int .i64 c, .int .i64 f, .int .i64 n, .int .i64 h, .bool s1, .int .u64 a1, .int .u64 b1, .bool s2, .int .u64 a2, .int .u64 b2, .string d])
  clear hb
  go_wp2_with fail
  refine Calls.mono (HH.out _) ?_
  rintro e w4 ⟨rfl, hb⟩
  have L4 := Lib.hid (L3.out.trans (hb.mono L3.out.size))
  have K4 := Lib.hid (K3.out.below hb K3.out.lt)
  have N4 := Lib.hid (N3.out.below hb N3.out.lt)
  clear hb
  go_wp2_with fail
  refine Calls.mono (HG.out _) ?_
  rintro e w5 ⟨rfl, hb⟩
  have L5 := Lib.hid (L4.out.trans (hb.mono L4.out.size))
  have K5 := Lib.hid (K4.out.below hb K4.out.lt)
  have N5 := Lib.hid (N4.out.below hb N4.out.lt)
  clear hb
  obtain ⟨f0, f1, f2, f3, f4, f5, f6, f7, f8, f9, f10⟩ := K5.out.e11
  obtain ⟨g0, g1, g2, g3, g4, g5, g6, g7, g8, g9, g10⟩ := N5.out.e11
  go_wp2
  go_ret
  exact ⟨ret_bool (by simp), L5.out⟩
set_option maxRecDepth 100000 in
theorem contract (H : Type) (enc : TypeId × Value → H) (W : World) (base : Nat) (args : Array Value) (ds gs : List (DataW H)) (before : List MemPlace)
    (hval0 : ∀ (j : Nat) t v, Try.f5.params[j]? = some t → args[j]? = some v → Value.okWide Try.prog W .any base t v)
    (hW : DataW.Whole enc Try.prog Try.f5.params.toList Rows.sixTakesSpec.vars false W args.toList ds gs before)
    (hsz0 : (DataW.weightsEach Try.prog (Try.f5.params.toList ++ Rows.sixTakesSpec.plain.varTypes Try.prog) (ds ++ gs)).all (· ≤ reachBytes) = true) :
    Calls Try.prog 5 args W fun e W' => ∃ v, e = .returned v ∧ Rows.sixTakesSpec.post enc Try.prog Try.f5 false true false false W args v W' := by
  have hsz := hsz0
  clear hsz0
  have hval := hval0
  clear hval0
  have hW' := hW
  obtain ⟨p, q, hA0, hV, rfl, hfz, hnd⟩ := hW
  have hA : DataW.TrodAll enc Try.prog W 0 (fun _ => true) true Try.f5.params.toList args.toList ds p := hA0
  rw [Try.params5] at hA hval hsz
  obtain ⟨v0, vs0, d0, ds0, p0, q0, hargs, rfl, rfl, h0, r0⟩ := trodAll_cons hA
  obtain ⟨rfl, rfl, rfl⟩ := trodAll_nil r0
  obtain rfl : args = #[v0] := by cases args; simp_all
  obtain ⟨rfl, rfl⟩ := trodVars_none hV
  obtain ⟨a0, rfl, rfl, rfl, w0⟩ := Go.ChangeMaps.open_string Try.underlying9 (hval 0 9 v0 rfl rfl) h0
  clear hA0
  refine (walk W a0 w0).mono fun e W' ⟨he, bel⟩ => ?_
  subst he
  exact ⟨_, rfl, _, _, _, [], _, [], hW', trodAll_mk1 (shut_bool Try.underlying4 _), (trodAll_cons_mk (Go.ChangeMaps.shut_string Try.underlying9 w0) trodAll_mk0), rfl, bel.frame _, fun h => by cases h⟩

set_option maxRecDepth 100000 in
theorem lifted (os : Os) (started : os.Started) (H : Type) (enc : TypeId × Value → H) :
    ReturnsInHanded {} Try.checked os 5 .any (Rows.sixTakesSpec.pre6 enc Try.prog Try.f5 Rows.sixTakesRow.domain false) (Rows.sixTakesSpec.post enc Try.prog Try.f5 false true false false) := by
  refine returnsInHanded_of_change_sized (C := Try.checked) own started (by kernel_rfl) Try.func5
    (ChangeSpec.witness6 (enc := enc) (C := Try.checked) false ⟨#[], #[.string ByteArray.empty], []⟩ 8 (by kernel_rfl) (by kernel_rfl) (by kernel_rfl) (by kernel_rfl)) ?_
  intro W base args ds gs before hval hW _ hsz _
  exact contract H enc W base args ds gs before hval hW hsz

theorem over : Rows.sixTakesRow.holds Try.pinned (OpenSpec.ofChange Rows.sixTakesSpec) :=
  OpenClaim.holds_of_wide 5 Try.f5 rfl rfl rfl rfl rfl rfl rfl ⟨rfl, rfl, rfl, rfl, rfl⟩ rfl rfl rfl rfl rfl (by kernel_rfl) Try.func5 (by kernel_rfl)
    (of_decide_eq_true (by kernel_rfl)) (by unfold Func.isWrapper; first | (rw [if_pos (by decide +kernel)]; kernel_rfl) | (rw [if_neg (by decide +kernel)]; exact ⟨rfl, rfl⟩))
    (fun os started H enc _ => lifted os started H enc)

theorem proved : Rows.SixTakesSaid := over
#print axioms proved
end Go.Proofs.Ytbhddodghbhjiaa.Takes
