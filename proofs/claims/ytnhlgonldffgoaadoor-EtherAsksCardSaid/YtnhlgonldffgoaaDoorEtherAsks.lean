/-
  E6: what an ARP message is laid as is taken up as that message, whatever stands behind; one that is cut is none: for every message, text and number.
-/
import Derived.Test.YtnhlgonldffgoaaDoorEAw
import Derived.Test.YtnhlgonldffgoaaDoorEIn
import Derived.Handy
namespace Go.Proofs.YtnhlgonldffgoaaDoor.Asks
open Go.ChangeShapes Go.WideShapes Go.ChangeAt Go.RowKit
set_option linter.unusedVariables false

set_option maxRecDepth 100000 in
set_option maxHeartbeats 8000000 in
theorem walk (w : World) (hE : EnvE w) (a0_0 : Int) (w0_0 : (Lit.int .i64 a0_0).wf = true) (a0_1 : Int) (w0_1 : (Lit.int .u64 a0_1).wf = true) (a0_2 : Bool) (a0_3 : Int) (w0_3 : (Lit.int .u64 a0_3).wf = true) (a0_4 : Int) (w0_4 : (Lit.int .u64 a0_4).wf = true) (a0_5 : Int) (w0_5 : (Lit.int .u64 a0_5).wf = true) (a0_6 : Bool) (a0_7 : Int) (w0_7 : (Lit.int .u64 a0_7).wf = true) (a0_8 : Int) (w0_8 : (Lit.int .u64 a0_8).wf = true) (a1 : ByteArray) (w1 : a1.size ≤ maxLen) (a2 : Int) (w2 : (Lit.int .i64 a2).wf = true) :
    Calls Tryd.prog 10 #[.agg #[.int .i64 a0_0, .int .u64 a0_1, .bool a0_2, .int .u64 a0_3, .int .u64 a0_4, .int .u64 a0_5, .bool a0_6, .int .u64 a0_7, .int .u64 a0_8], .string a1, .int .i64 a2] w fun e w' => e = .returned (.bool true) ∧ Below w.heap.size w w' := by
  have HE := Lib.hid hE
  clear hE
  obtain ⟨f0, -⟩ := u6_of' w0_1
  obtain ⟨l0, -⟩ := u6_of' w0_4
  obtain ⟨t0, -⟩ := u6_of' w0_5
  obtain ⟨m0, -⟩ := u6_of' w0_8
  have hcut : -9223372036854775808 ≤ a2 ∧ a2 ≤ 9223372036854775807 := by
    simp [Lit.wf, IntKind.min, IntKind.max, IntKind.bits, IntKind.signed] at w2; omega
  obtain ⟨c0, c1⟩ := hcut
  obtain ⟨V, hV⟩ : ∃ V, arB a0_0 a0_1 a0_2 a0_3 a0_4 a0_5 a0_6 a0_7 a0_8 = V := ⟨_, rfl⟩
  cases V
  · have H1 := Lib.hid (fun W hW => layArp_at a0_0 a0_1 a0_2 a0_3 a0_4 a0_5 a0_6 a0_7 a0_8 f0 l0 t0 m0 (laV_no hV) W hW)
    clear hV
    by_cases h5 : (5000 : Int) < a1.size
    all_goals
      go_enter Tryd.func10, Tryd.ntmps10
      go_wp2_with fail
      refine Calls.mono (eawake_yes _ (HE.out.alloc _)) ?_
      rintro e w1 ⟨rfl, hb⟩
      have K1 := Lib.hid ((Blk.new w 45 #[.int .i64 a0_0, .int .u64 a0_1, .bool a0_2, .int .u64 a0_3, .int .u64 a0_4, .int .u64 a0_5, .bool a0_6, .int .u64 a0_7, .int .u64 a0_8]).below hb (by simp only [World.size_alloc]; omega))
      have L1 := Lib.hid (((Below.refl _ w).alloc (Nat.le_refl _) _).trans (hb.mono (by simp only [World.size_alloc]; omega)))
      have E1 := HE.out.below L1.out
      obtain ⟨f1, f2, f3, f4, f5, f6, f7, f8, f9⟩ := K1.out.c9
      clear hb
      go_wp2_with fail
      refine Calls.mono (H1.out _ E1) ?_
      rintro e w2 ⟨rfl, hb⟩
      have K2 := Lib.hid (K1.out.below hb K1.out.lt)
      have L2 := Lib.hid (L1.out.trans (hb.mono L1.out.size))
      have E2 := HE.out.below L2.out
      clear hb f1 f2 f3 f4 f5 f6 f7 f8 f9
      clear K1 K2 E1 E2
      go_wp2
      go_ret
      exact ⟨rfl, L2.out⟩

  · obtain ⟨ho, q1, rfl, rfl, q2, q3, rfl, rfl, q4⟩ := arB_of hV
    have hla := laV_ok hV
    have hta := fun b => ta_la a0_0 a0_1 a0_4 a0_5 a0_8 b ho f0 q1 l0 q2 t0 q3 m0 q4
    have h28 : (strOfNums (arL a0_0 a0_1 a0_4 a0_5 a0_8)).size = 28 := by rw [strOfNums_size, arL_len]
    obtain ⟨Y, hY⟩ : ∃ Y, strOfNums (arL a0_0 a0_1 a0_4 a0_5 a0_8) = Y := ⟨_, rfl⟩
    rw [hY] at hla h28
    have H1 := Lib.hid (fun W hW => layArp_at a0_0 a0_1 false 0 a0_4 a0_5 false 0 a0_8 f0 l0 t0 m0 hla W hW)
    have H3 := Lib.hid (fun (X : ByteArray) (h : X.size < 28) W hW => takeArp_at X (ta_short h) W hW)
    by_cases h5 : (5000 : Int) < a1.size
    · obtain ⟨Q, hQ⟩ : ∃ Q, a1.extract 0 5000 = Q := ⟨_, rfl⟩
      have hQ5 : Q.size ≤ 5000 := by rw [← hQ, ByteArray.size_extract]; omega
      have h6 : (5000 : Int) ≤ a1.size := by omega
      have hq := hta Q
      rw [hY] at hq
      have H2 := Lib.hid (fun W hW => takeArp_at _ hq W hW)
      clear hV hla hta hY hq ho q1 q2 q3 q4
      by_cases hc : a2 < 0
      · obtain ⟨C, hC⟩ : ∃ C, -(a2 + 1) = C := ⟨_, rfl⟩
        have hC0 : 0 ≤ C := by omega
        have hC1 : C ≤ 9223372036854775807 := by omega
        go_enter Tryd.func10, Tryd.ntmps10
        go_wp2_with fail
        refine Calls.mono (eawake_yes _ (HE.out.alloc _)) ?_
        rintro e w1 ⟨rfl, hb⟩
        have K1 := Lib.hid ((Blk.new w 45 #[.int .i64 a0_0, .int .u64 a0_1, .bool false, .int .u64 0, .int .u64 a0_4, .int .u64 a0_5, .bool false, .int .u64 0, .int .u64 a0_8]).below hb (by simp only [World.size_alloc]; omega))
        have L1 := Lib.hid (((Below.refl _ w).alloc (Nat.le_refl _) _).trans (hb.mono (by simp only [World.size_alloc]; omega)))
        have E1 := HE.out.below L1.out
        obtain ⟨f1, f2, f3, f4, f5, f6, f7, f8, f9⟩ := K1.out.c9
        clear hb
        go_wp2_with fail
        refine Calls.mono (H1.out _ E1) ?_
        rintro e w2 ⟨rfl, hb⟩
        have K2 := Lib.hid (K1.out.below hb K1.out.lt)
        have L2 := Lib.hid (L1.out.trans (hb.mono L1.out.size))
        have E2 := HE.out.below L2.out
        clear hb f1 f2 f3 f4 f5 f6 f7 f8 f9
        obtain ⟨f1, f2, f3, f4, f5, f6, f7, f8, f9⟩ := K2.out.c9
        go_wp2_with fail
        refine Calls.mono (H2.out _ E2) ?_
        rintro e w3 ⟨rfl, hb⟩
        have K3 := Lib.hid ((K2.out.below hb K2.out.lt).alloc (.cells #[.int .i64 a0_0, .int .u64 a0_1, .bool false, .int .u64 0, .int .u64 a0_4, .int .u64 a0_5, .bool false, .int .u64 0, .int .u64 a0_8] 45))
        have L3 := Lib.hid ((L2.out.trans (hb.mono L2.out.size)).alloc (L2.out.trans (hb.mono L2.out.size)).size (.cells #[.int .i64 a0_0, .int .u64 a0_1, .bool false, .int .u64 0, .int .u64 a0_4, .int .u64 a0_5, .bool false, .int .u64 0, .int .u64 a0_8] 45))
        have E3 := HE.out.below L3.out
        clear hb f1 f2 f3 f4 f5 f6 f7 f8 f9
        obtain ⟨f1, f2, f3, f4, f5, f6, f7, f8, f9⟩ := K3.out.c9
        go_wp2_with fail
        refine Calls.mono (H3.out _ ?_ _ E3) ?_
        · rw [ByteArray.size_extract]
          omega
        rintro e w4 ⟨rfl, hb⟩
        have L4 := Lib.hid ((L3.out.trans (hb.mono L3.out.size)).alloc (L3.out.trans (hb.mono L3.out.size)).size (.cells #[.int .i64 0, .int .u64 0, .bool false, .int .u64 0, .int .u64 0, .int .u64 0, .bool false, .int .u64 0, .int .u64 0] 45))
        clear hb f1 f2 f3 f4 f5 f6 f7 f8 f9
        go_wp2
        go_ret
        exact ⟨rfl, L4.out⟩

      · go_enter Tryd.func10, Tryd.ntmps10
        go_wp2_with fail
        refine Calls.mono (eawake_yes _ (HE.out.alloc _)) ?_
        rintro e w1 ⟨rfl, hb⟩
        have K1 := Lib.hid ((Blk.new w 45 #[.int .i64 a0_0, .int .u64 a0_1, .bool false, .int .u64 0, .int .u64 a0_4, .int .u64 a0_5, .bool false, .int .u64 0, .int .u64 a0_8]).below hb (by simp only [World.size_alloc]; omega))
        have L1 := Lib.hid (((Below.refl _ w).alloc (Nat.le_refl _) _).trans (hb.mono (by simp only [World.size_alloc]; omega)))
        have E1 := HE.out.below L1.out
        obtain ⟨f1, f2, f3, f4, f5, f6, f7, f8, f9⟩ := K1.out.c9
        clear hb
        go_wp2_with fail
        refine Calls.mono (H1.out _ E1) ?_
        rintro e w2 ⟨rfl, hb⟩
        have K2 := Lib.hid (K1.out.below hb K1.out.lt)
        have L2 := Lib.hid (L1.out.trans (hb.mono L1.out.size))
        have E2 := HE.out.below L2.out
        clear hb f1 f2 f3 f4 f5 f6 f7 f8 f9
        obtain ⟨f1, f2, f3, f4, f5, f6, f7, f8, f9⟩ := K2.out.c9
        go_wp2_with fail
        refine Calls.mono (H2.out _ E2) ?_
        rintro e w3 ⟨rfl, hb⟩
        have K3 := Lib.hid ((K2.out.below hb K2.out.lt).alloc (.cells #[.int .i64 a0_0, .int .u64 a0_1, .bool false, .int .u64 0, .int .u64 a0_4, .int .u64 a0_5, .bool false, .int .u64 0, .int .u64 a0_8] 45))
        have L3 := Lib.hid ((L2.out.trans (hb.mono L2.out.size)).alloc (L2.out.trans (hb.mono L2.out.size)).size (.cells #[.int .i64 a0_0, .int .u64 a0_1, .bool false, .int .u64 0, .int .u64 a0_4, .int .u64 a0_5, .bool false, .int .u64 0, .int .u64 a0_8] 45))
        have E3 := HE.out.below L3.out
        clear hb f1 f2 f3 f4 f5 f6 f7 f8 f9
        obtain ⟨f1, f2, f3, f4, f5, f6, f7, f8, f9⟩ := K3.out.c9
        go_wp2_with fail
        refine Calls.mono (H3.out _ ?_ _ E3) ?_
        · rw [ByteArray.size_extract]
          omega
        rintro e w4 ⟨rfl, hb⟩
        have L4 := Lib.hid ((L3.out.trans (hb.mono L3.out.size)).alloc (L3.out.trans (hb.mono L3.out.size)).size (.cells #[.int .i64 0, .int .u64 0, .bool false, .int .u64 0, .int .u64 0, .int .u64 0, .bool false, .int .u64 0, .int .u64 0] 45))
        clear hb f1 f2 f3 f4 f5 f6 f7 f8 f9
        go_wp2
        go_ret
        exact ⟨rfl, L4.out⟩

    · have hQ5 : a1.size ≤ 5000 := by omega
      have hq := hta a1
      rw [hY] at hq
      have H2 := Lib.hid (fun W hW => takeArp_at _ hq W hW)
      clear hV hla hta hY hq ho q1 q2 q3 q4
      by_cases hc : a2 < 0
      · obtain ⟨C, hC⟩ : ∃ C, -(a2 + 1) = C := ⟨_, rfl⟩
        have hC0 : 0 ≤ C := by omega
        have hC1 : C ≤ 9223372036854775807 := by omega
        go_enter Tryd.func10, Tryd.ntmps10
        go_wp2_with fail
        refine Calls.mono (eawake_yes _ (HE.out.alloc _)) ?_
        rintro e w1 ⟨rfl, hb⟩
        have K1 := Lib.hid ((Blk.new w 45 #[.int .i64 a0_0, .int .u64 a0_1, .bool false, .int .u64 0, .int .u64 a0_4, .int .u64 a0_5, .bool false, .int .u64 0, .int .u64 a0_8]).below hb (by simp only [World.size_alloc]; omega))
        have L1 := Lib.hid (((Below.refl _ w).alloc (Nat.le_refl _) _).trans (hb.mono (by simp only [World.size_alloc]; omega)))
        have E1 := HE.out.below L1.out
        obtain ⟨f1, f2, f3, f4, f5, f6, f7, f8, f9⟩ := K1.out.c9
        clear hb
        go_wp2_with fail
        refine Calls.mono (H1.out _ E1) ?_
        rintro e w2 ⟨rfl, hb⟩
        have K2 := Lib.hid (K1.out.below hb K1.out.lt)
        have L2 := Lib.hid (L1.out.trans (hb.mono L1.out.size))
        have E2 := HE.out.below L2.out
        clear hb f1 f2 f3 f4 f5 f6 f7 f8 f9
        obtain ⟨f1, f2, f3, f4, f5, f6, f7, f8, f9⟩ := K2.out.c9
        go_wp2_with fail
        refine Calls.mono (H2.out _ E2) ?_
        rintro e w3 ⟨rfl, hb⟩
        have K3 := Lib.hid ((K2.out.below hb K2.out.lt).alloc (.cells #[.int .i64 a0_0, .int .u64 a0_1, .bool false, .int .u64 0, .int .u64 a0_4, .int .u64 a0_5, .bool false, .int .u64 0, .int .u64 a0_8] 45))
        have L3 := Lib.hid ((L2.out.trans (hb.mono L2.out.size)).alloc (L2.out.trans (hb.mono L2.out.size)).size (.cells #[.int .i64 a0_0, .int .u64 a0_1, .bool false, .int .u64 0, .int .u64 a0_4, .int .u64 a0_5, .bool false, .int .u64 0, .int .u64 a0_8] 45))
        have E3 := HE.out.below L3.out
        clear hb f1 f2 f3 f4 f5 f6 f7 f8 f9
        obtain ⟨f1, f2, f3, f4, f5, f6, f7, f8, f9⟩ := K3.out.c9
        go_wp2_with fail
        refine Calls.mono (H3.out _ ?_ _ E3) ?_
        · rw [ByteArray.size_extract]
          omega
        rintro e w4 ⟨rfl, hb⟩
        have L4 := Lib.hid ((L3.out.trans (hb.mono L3.out.size)).alloc (L3.out.trans (hb.mono L3.out.size)).size (.cells #[.int .i64 0, .int .u64 0, .bool false, .int .u64 0, .int .u64 0, .int .u64 0, .bool false, .int .u64 0, .int .u64 0] 45))
        clear hb f1 f2 f3 f4 f5 f6 f7 f8 f9
        go_wp2
        go_ret
        exact ⟨rfl, L4.out⟩

      · go_enter Tryd.func10, Tryd.ntmps10
        go_wp2_with fail
        refine Calls.mono (eawake_yes _ (HE.out.alloc _)) ?_
        rintro e w1 ⟨rfl, hb⟩
        have K1 := Lib.hid ((Blk.new w 45 #[.int .i64 a0_0, .int .u64 a0_1, .bool false, .int .u64 0, .int .u64 a0_4, .int .u64 a0_5, .bool false, .int .u64 0, .int .u64 a0_8]).below hb (by simp only [World.size_alloc]; omega))
        have L1 := Lib.hid (((Below.refl _ w).alloc (Nat.le_refl _) _).trans (hb.mono (by simp only [World.size_alloc]; omega)))
        have E1 := HE.out.below L1.out
        obtain ⟨f1, f2, f3, f4, f5, f6, f7, f8, f9⟩ := K1.out.c9
        clear hb
        go_wp2_with fail
        refine Calls.mono (H1.out _ E1) ?_
        rintro e w2 ⟨rfl, hb⟩
        have K2 := Lib.hid (K1.out.below hb K1.out.lt)
        have L2 := Lib.hid (L1.out.trans (hb.mono L1.out.size))
        have E2 := HE.out.below L2.out
        clear hb f1 f2 f3 f4 f5 f6 f7 f8 f9
        obtain ⟨f1, f2, f3, f4, f5, f6, f7, f8, f9⟩ := K2.out.c9
        go_wp2_with fail
        refine Calls.mono (H2.out _ E2) ?_
        rintro e w3 ⟨rfl, hb⟩
        have K3 := Lib.hid ((K2.out.below hb K2.out.lt).alloc (.cells #[.int .i64 a0_0, .int .u64 a0_1, .bool false, .int .u64 0, .int .u64 a0_4, .int .u64 a0_5, .bool false, .int .u64 0, .int .u64 a0_8] 45))
        have L3 := Lib.hid ((L2.out.trans (hb.mono L2.out.size)).alloc (L2.out.trans (hb.mono L2.out.size)).size (.cells #[.int .i64 a0_0, .int .u64 a0_1, .bool false, .int .u64 0, .int .u64 a0_4, .int .u64 a0_5, .bool false, .int .u64 0, .int .u64 a0_8] 45))
        have E3 := HE.out.below L3.out
        clear hb f1 f2 f3 f4 f5 f6 f7 f8 f9
        obtain ⟨f1, f2, f3, f4, f5, f6, f7, f8, f9⟩ := K3.out.c9
        go_wp2_with fail
        refine Calls.mono (H3.out _ ?_ _ E3) ?_
        · rw [ByteArray.size_extract]
          omega
        rintro e w4 ⟨rfl, hb⟩
        have L4 := Lib.hid ((L3.out.trans (hb.mono L3.out.size)).alloc (L3.out.trans (hb.mono L3.out.size)).size (.cells #[.int .i64 0, .int .u64 0, .bool false, .int .u64 0, .int .u64 0, .int .u64 0, .bool false, .int .u64 0, .int .u64 0] 45))
        clear hb f1 f2 f3 f4 f5 f6 f7 f8 f9
        go_wp2
        go_ret
        exact ⟨rfl, L4.out⟩


set_option maxRecDepth 100000 in
theorem contract (H : Type) (enc : TypeId × Value → H) (W : World) (base : Nat) (args : Array Value) (ds gs : List (DataW H)) (before : List MemPlace)
    (hval0 : ∀ (j : Nat) t v, Tryd.f10.params[j]? = some t → args[j]? = some v → Value.okWide Tryd.prog W .any base t v)
    (hW : DataW.Whole enc Tryd.prog Tryd.f10.params.toList Rows.etherAsksSpec.vars false W args.toList ds gs before)
    (hsz0 : (DataW.weightsEach Tryd.prog (Tryd.f10.params.toList ++ Rows.etherAsksSpec.plain.varTypes Tryd.prog) (ds ++ gs)).all (· ≤ reachBytes) = true) (hE : EnvE W) :
    Calls Tryd.prog 10 args W fun e W' => ∃ v, e = .returned v ∧ Rows.etherAsksSpec.post enc Tryd.prog Tryd.f10 false true false false W args v W' := by
  have hsz := hsz0
  clear hsz0
  have hval := hval0
  clear hval0
  have hW' := hW
  obtain ⟨p, q, hA0, hV, rfl, hfz, hnd⟩ := hW
  have hA : DataW.TrodAll enc Tryd.prog W 0 (fun _ => true) true Tryd.f10.params.toList args.toList ds p := hA0
  rw [Tryd.params10] at hA hval hsz
  obtain ⟨v0, vs0, d0, ds0, p0, q0, hargs, rfl, rfl, h0, r0⟩ := trodAll_cons hA
  obtain ⟨v1, vs1, d1, ds1, p1, q1, rfl, rfl, rfl, h1, r1⟩ := trodAll_cons r0
  obtain ⟨v2, vs2, d2, ds2, p2, q2, rfl, rfl, rfl, h2, r2⟩ := trodAll_cons r1
  obtain ⟨rfl, rfl, rfl⟩ := trodAll_nil r2
  obtain rfl : args = #[v0, v1, v2] := by cases args; simp_all
  obtain ⟨rfl, rfl⟩ := trodVars_none hV
  have k0 := h0
  have lt0 : ∀ x ∈ p0, x.block < W.heap.size := by obtain ⟨m, hm⟩ := k0; exact DataW.trod_lt m _ _ _ hm
  obtain ⟨a0_0, a0_1, a0_2, a0_3, a0_4, a0_5, a0_6, a0_7, a0_8, rfl, w0_0, w0_1, w0_3, w0_4, w0_5, w0_7, w0_8, ep0⟩ := open_arp (hval 0 45 v0 rfl rfl) h0
  obtain ⟨a1, rfl, rfl, rfl, w1⟩ := Go.ChangeMaps.open_string Tryd.underlying9 (hval 1 9 v1 rfl rfl) h1
  obtain ⟨a2, rfl, rfl, rfl, w2⟩ := open_int Tryd.underlying3 (hval 2 3 v2 rfl rfl) h2
  clear hA0
  refine (walk W hE a0_0 w0_0 a0_1 w0_1 a0_2 a0_3 w0_3 a0_4 w0_4 a0_5 w0_5 a0_6 a0_7 w0_7 a0_8 w0_8 a1 w1 a2 w2).mono fun e W' ⟨he, bel⟩ => ?_
  subst he
  exact ⟨_, rfl, _, _, _, [], _, [], hW', trodAll_mk1 (shut_bool Tryd.underlying4 _), (trodAll_cons_mk (Below.trod laidOut (by kernel_rfl) (of_decide_eq_true (by kernel_rfl)) k0 bel lt0) (trodAll_cons_mk (Go.ChangeMaps.shut_string Tryd.underlying9 w1) (trodAll_cons_mk (shut_int Tryd.underlying3 w2) trodAll_mk0))), rfl, bel.frame _, fun h => by cases h⟩

theorem laid_met (os : Os) (args : Array Value) : laidMet Tryd.prog Rows.etherAsksRow.laid ((World.laidAll Tryd.prog os Rows.etherAsksRow.laid).forCall (fun _ _ => 0) ⟨#[], args, []⟩).memory :=
  laidMet_laidAll _ (by kernel_rfl) (by kernel_rfl)
set_option maxRecDepth 100000 in
theorem pre_row (os : Os) {H : Type} (enc : TypeId × Value → H) :
    (OpenSpec.ofChange Rows.etherAsksSpec).preRow enc Tryd.prog Tryd.f10 Rows.etherAsksRow.domain false Rows.etherAsksRow.laid ((World.laidAll Tryd.prog os Rows.etherAsksRow.laid).forCall (fun _ _ => 0) ⟨#[], #[.agg #[.int .i64 0, .int .u64 0, .bool false, .int .u64 0, .int .u64 0, .int .u64 0, .bool false, .int .u64 0, .int .u64 0], .string ByteArray.empty, .int .i64 0], []⟩).memory #[.agg #[.int .i64 0, .int .u64 0, .bool false, .int .u64 0, .int .u64 0, .int .u64 0, .bool false, .int .u64 0, .int .u64 0], .string ByteArray.empty, .int .i64 0] := by
  exact ⟨⟨ChangeSpec.pre_of_preB (fuel := 8) (by kernel_rfl), by rw [MakeChecks.laidMetH_plain _ _ _ (by kernel_rfl)]; exact laid_met os _⟩, sizedMet_of_sizedB (fuel := 8) (by kernel_rfl)⟩
set_option maxRecDepth 100000 in
theorem lifted (os : Os) (started : os.Started) (H : Type) (enc : TypeId × Value → H) (F : Stop.Interp) :
    ReturnsInHanded {} Tryd.checked os 10 .any ((OpenSpec.ofChange Rows.etherAsksSpec).preRow enc Tryd.prog Tryd.f10 Rows.etherAsksRow.domain false Rows.etherAsksRow.laid) (((OpenSpec.ofChange Rows.etherAsksSpec).at F).post enc Tryd.prog Tryd.f10 false true false false) := by
  refine returnsInHanded_of_row (C := Tryd.checked) (s := (OpenSpec.ofChange Rows.etherAsksSpec)) own started (by kernel_rfl) Tryd.func10
    ⟨World.laidAll Tryd.prog os Rows.etherAsksRow.laid, fun _ _ => 0, ⟨#[], #[.agg #[.int .i64 0, .int .u64 0, .bool false, .int .u64 0, .int .u64 0, .int .u64 0, .bool false, .int .u64 0, .int .u64 0], .string ByteArray.empty, .int .i64 0], []⟩, World.laidAll_os _ _ _, World.shaped_of_ZipB (by kernel_rfl) (by kernel_rfl), rfl, (Input.okWide_of_okWideB (by kernel_rfl)).2, pre_row os enc, (by simp only [Assume.holds]; exact ⟨by simp, by simp, fun _ => Modest.zero, by simp, by simp⟩)⟩ ?_
  intro W base args ds gs before hval hW _ hcond hsz hL hsh _
  rw [MakeChecks.laidMetH_plain _ _ _ (by kernel_rfl)] at hL
  exact contract H enc W base args ds gs before hval hW hsz (envE_of hL)

theorem over : Rows.etherAsksRow.holds Tryd.pinned (OpenSpec.ofChange Rows.etherAsksSpec) :=
  OpenClaim.holds_of_cond 10 Tryd.f10 rfl rfl rfl rfl rfl rfl rfl ⟨rfl, rfl, rfl, rfl, rfl⟩ rfl rfl rfl rfl rfl (by kernel_rfl) Tryd.func10 (by kernel_rfl)
    (of_decide_eq_true (by kernel_rfl)) (by unfold Func.isWrapper; first | (rw [if_pos (by decide +kernel)]; kernel_rfl) | (rw [if_neg (by decide +kernel)]; exact ⟨rfl, rfl⟩))
    (fun os started H enc _ F => by rw [OpenClaim.pre_eq_preRow]; exact lifted os started H enc F)

theorem proved : Rows.EtherAsksCardSaid :=
  Claim7.holds_tied_plain_at .later [] Rows.etherAsksCard.laidKinds true Rows.etherAsksCard.stood.harness true over (fun _ h => by cases h) (by kernel_rfl) (fun _ h => by cases h) etherAsks_row_tie rfl ⟨rfl, rfl⟩ (by kernel_rfl) rfl
    (fun f fn hf hfn => by
      obtain rfl : f = 10 := Option.some.inj ((show Tryd.prog.funcNamed Rows.etherAsksRow.func = some 10 by kernel_rfl).symm.trans hf) |>.symm
      obtain rfl : fn = Tryd.f10 := (Option.some.inj (Tryd.func10.symm.trans hfn)).symm
      exact ⟨by kernel_rfl, fun j t ht => by
        rw [Tryd.params10] at ht
        have hm : t ∈ [45, 9, 3] := by simpa using Array.mem_of_getElem? ht
        have hall : ([45, 9, 3].all fun u => !Tryd.prog.wantsStandIn u) = true := by kernel_rfl
        exact (show Tryd.prog.wantsStandIn t = false by simpa using List.all_eq_true.1 hall t hm)⟩)
    (by kernel_rfl)
#print axioms proved
end Go.Proofs.YtnhlgonldffgoaaDoor.Asks
