/-
  G6: whatever packet is taken up is laid as the same bytes; hop by hop nothing but the hops that are left changes: for every text.
-/
import Derived.Test.YtbhddodghbhjiaaSAw
import Derived.Test.YtbhddodghbhjiaaSFrm
namespace Go.Proofs.Ytbhddodghbhjiaa.Again
open Go.ChangeShapes Go.WideShapes Go.ChangeAt Go.RowKit
set_option linter.unusedVariables false

set_option maxRecDepth 100000 in
set_option maxHeartbeats 8000000 in
theorem walk (w : World) (a0 : ByteArray) (w0 : a0.size ≤ maxLen) :
    Calls Try.prog 8 #[.string a0] w fun e w' => e = .returned (.bool true) ∧ Below w.heap.size w w' := by
  have hs : (a0.size : Int) ≤ 9223372036854775807 := by unfold maxLen at w0; omega
  have HA := Lib.hid (fun W => sawake_yes W)
  have HT := Lib.hid (fun W => stake_any a0 hs W)
  have HH := Lib.hid (fun W => shop_any a0 hs W)
  unfold tkSV at HT
  unfold hpSV at HH
  clear w0
  by_cases he : (tkS a0).2 = 0
  · obtain ⟨e, hrg, hw, hd1, hd2, hd3, hl⟩ := tk_okS he
    have HL := Lib.hid (fun W => slay_any (pkX a0) hw W)
    unfold lySV at HL
    have hld : (pkX a0).d.size ≤ 65535 := by omega
    have hly := lyS_ok (rgS_iff.2 hrg) hld
    rw [hly] at HL
    rw [e, he] at HT
    have hhp : hpS a0 = if (pkX a0).h ≤ 1 then (⟨#[]⟩, 63) else lySR { pkX a0 with h := (pkX a0).h - 1 } := by unfold hpS; rw [if_neg (by simpa using he), e]
    have hh := hrg.h
    have hTs : (lyB (pkX a0)).size = 40 + lnS a0 := by rw [lyB_size, hd1]
    have hT3 : a0.extract 0 (lyB (pkX a0)).size = lyB (pkX a0) := by rw [hTs, ← hl]
    have hU2 : 1 < (pkX a0).h → hpS a0 = (lyB { pkX a0 with h := (pkX a0).h - 1 }, 0) ∧ tkS (lyB { pkX a0 with h := (pkX a0).h - 1 }) = ({ pkX a0 with h := (pkX a0).h - 1 }, 0) ∧ (lyB { pkX a0 with h := (pkX a0).h - 1 }).size = 40 + lnS a0 := fun h1 => by
      have hr2 := hrg.down (t := (pkX a0).h - 1) (by omega) (by omega)
      refine ⟨?_, tk_lyS0 { pkX a0 with h := (pkX a0).h - 1 } hr2 (hw.down _) hld, ?_⟩
      · rw [hhp, if_neg (by omega)]
        exact lyS_ok (rgS_iff.2 hr2) hld
      · rw [lyB_size]; show 40 + (pkX a0).d.size = _; rw [hd1]
    have hs1 : (pkX a0).s = true := rfl
    have hs2 : (pkX a0).s' = true := rfl
    obtain ⟨T, hT⟩ : ∃ T, lyB (pkX a0) = T := ⟨_, rfl⟩
    rw [hT] at HL hTs hT3
    obtain ⟨LN, hLN⟩ : ∃ LN, lnS a0 = LN := ⟨_, rfl⟩
    rw [hLN] at hTs hU2 hd3 hd2
    have hsz : (T.size : Int) ≤ a0.size := by omega
    have hT4 : a0.extract 0 T.size = T := hT3
    obtain ⟨p, hp⟩ : ∃ p, pkX a0 = p := ⟨_, rfl⟩
    rw [hp] at HT HL hU2 hhp hh hs1 hs2
    obtain ⟨c, f, n, h, s1, a1, b1, s2, a2, b2, d⟩ := p
    simp only at hU2 hhp hh hs1 hs2
    subst hs1 hs2
    replace HT : Hid (∀ W : World, Calls Try.prog 18 #[.string a0] W fun e w' => e = .returned (.tuple #[.agg #[.int .i64 c, .int .i64 f, .int .i64 n, .int .i64 h, .bool true, .int .u64 a1, .int .u64 b1, .bool true, .int .u64 a2, .int .u64 b2, .string d], .int .i64 0]) ∧ Below W.heap.size W w') := HT
    replace HL : Hid (∀ W : World, Calls Try.prog 16 #[.agg #[.int .i64 c, .int .i64 f, .int .i64 n, .int .i64 h, .bool true, .int .u64 a1, .int .u64 b1, .bool true, .int .u64 a2, .int .u64 b2, .string d]] W fun e w' => e = .returned (.tuple #[.string T, .int .i64 0]) ∧ Below W.heap.size W w') := HL
    have hneg : ¬ (a0.size : Int) < T.size := by omega
    by_cases h1 : 1 < h
    · obtain ⟨u1, u2, u3⟩ := hU2 h1
      rw [u1] at HH
      obtain ⟨U, hU⟩ : ∃ U, lyB (⟨c, f, n, h - 1, true, a1, b1, true, a2, b2, d⟩ : Sx) = U := ⟨_, rfl⟩
      rw [hU] at HH u2 u3
      have HT2 := Lib.hid (fun W => stake_any U (by omega) W)
      unfold tkSV at HT2
      rw [u2] at HT2
      obtain ⟨h2, hh2⟩ : ∃ h2, h - 1 = h2 := ⟨_, rfl⟩
      replace HT2 : Hid (∀ W : World, Calls Try.prog 18 #[.string U] W fun e w' => e = .returned (.tuple #[.agg #[.int .i64 c, .int .i64 f, .int .i64 n, .int .i64 h2, .bool true, .int .u64 a1, .int .u64 b1, .bool true, .int .u64 a2, .int .u64 b2, .string d], .int .i64 0]) ∧ Below W.heap.size W w') := by rw [← hh2]; exact HT2
      replace HH : Hid (∀ W : World, Calls Try.prog 20 #[.string a0] W fun e w' => e = .returned (.tuple #[.string U, .int .i64 0]) ∧ Below W.heap.size W w') := HH
      have hUT : (U.size : Int) = T.size := by omega
      have hn2 : ¬ h < 2 := by omega
      have hw1 : 0 ≤ h - 1 ∧ h - 1 ≤ 255 := by omega
      clear e hrg hw hd1 hd2 hd3 hl hld hly hhp hT hTs hLN hU2 hp hU u1 u2 u3 h1 he hT3
      go_enter Try.func8, Try.ntmps8
      go_wp2_with fail
      refine Calls.mono (HA.out _) ?_
      rintro e w1 ⟨rfl, hb⟩
      have L1 := Lib.hid hb
      clear hb
      go_wp2_with fail
      refine Calls.mono (HT.out _) ?_
      rintro e w2 ⟨rfl, hb⟩
      have L2 := Lib.hid ((L1.out.trans (hb.mono L1.out.size)).alloc (L1.out.trans (hb.mono L1.out.size)).size (.cells #[.int .i64 c, .int .i64 f, .int .i64 n, .int .i64 h, .bool true, .int .u64 a1, .int .u64 b1, .bool true, .int .u64 a2, .int .u64 b2, .string d] 35))
      have K2 := Lib.hid (Blk.new w2 35 #[.int .i64 c, .int .i64 f, .int .i64 n, .int .i64 h, .bool true, .int .u64 a1, .int .u64 b1, .bool true, .int .u64 a2, .int .u64 b2, .string d])
      have hM : w.heap.size ≤ w2.heap.size := (L1.out.trans (hb.mono L1.out.size)).size
      clear hb
      go_wp2_with fail
      refine Calls.mono (HL.out _) ?_
      rintro e w3 ⟨rfl, hb⟩
      have L3 := Lib.hid (L2.out.trans (hb.mono L2.out.size))
      have K3 := Lib.hid (K2.out.below hb K2.out.lt)
      clear hb
      go_wp2_with fail
      refine Calls.mono (HH.out _) ?_
      rintro e w4 ⟨rfl, hb⟩
      have L4 := Lib.hid (L3.out.trans (hb.mono L3.out.size))
      have K4 := Lib.hid (K3.out.below hb K3.out.lt)
      clear hb
      have F4 : Hid (∀ (W : World) (g : Nat), Blk W g 35 #[.int .i64 c, .int .i64 f, .int .i64 n, .int .i64 h, .bool true, .int .u64 a1, .int .u64 b1, .bool true, .int .u64 a2, .int .u64 b2, .string d] → _) := Lib.hid (fun W g (h : Blk W g 35 (scs ⟨c, f, n, h, true, a1, b1, true, a2, b2, d⟩)) => h.s11)
      have G4 : Hid (∀ (W : World) (g : Nat), Blk W g 35 #[.int .i64 c, .int .i64 f, .int .i64 n, .int .i64 h2, .bool true, .int .u64 a1, .int .u64 b1, .bool true, .int .u64 a2, .int .u64 b2, .string d] → _) := Lib.hid (fun W g (h : Blk W g 35 (scs ⟨c, f, n, h2, true, a1, b1, true, a2, b2, d⟩)) => h.s11)
      obtain ⟨f0, f1, f2, f3, f4, f5, f6, f7, f8, f9, f10⟩ := F4.out _ _ K4.out
      go_wp2_with fail
      refine Calls.mono (HT2.out _) ?_
      rintro e w5 ⟨rfl, hb⟩
      have L5 := Lib.hid ((L4.out.trans (hb.mono L4.out.size)).alloc (L4.out.trans (hb.mono L4.out.size)).size (.cells #[.int .i64 c, .int .i64 f, .int .i64 n, .int .i64 h2, .bool true, .int .u64 a1, .int .u64 b1, .bool true, .int .u64 a2, .int .u64 b2, .string d] 35))
      have K5 := Lib.hid ((K4.out.below hb K4.out.lt).alloc (.cells #[.int .i64 c, .int .i64 f, .int .i64 n, .int .i64 h2, .bool true, .int .u64 a1, .int .u64 b1, .bool true, .int .u64 a2, .int .u64 b2, .string d] 35))
      have N5 := Lib.hid (Blk.new w5 35 #[.int .i64 c, .int .i64 f, .int .i64 n, .int .i64 h2, .bool true, .int .u64 a1, .int .u64 b1, .bool true, .int .u64 a2, .int .u64 b2, .string d])
      have K5a := Lib.hid (K4.out.below hb K4.out.lt)
      have L5a := Lib.hid (L4.out.trans (hb.mono L4.out.size))
      have hlt : w2.heap.size < w5.heap.size := K5a.out.lt
      clear hb f0 f1 f2 f3 f4 f5 f6 f7 f8 f9 f10
      obtain ⟨f0, f1, f2, f3, f4, f5, f6, f7, f8, f9, f10⟩ := F4.out _ _ K5.out
      have z3 := K5.out.frozen 3
      have hsz5 : (w5.setCell ⟨w2.heap.size, 3, none⟩ (.int .i64 h2)).heap.size = w5.heap.size := by simp [World.setCell]
      have K6 : Hid (Blk ((w5.setCell ⟨w2.heap.size, 3, none⟩ (.int .i64 h2)).alloc (.cells #[.int .i64 c, .int .i64 f, .int .i64 n, .int .i64 h2, .bool true, .int .u64 a1, .int .u64 b1, .bool true, .int .u64 a2, .int .u64 b2, .string d] 35)) w2.heap.size 35 #[.int .i64 c, .int .i64 f, .int .i64 n, .int .i64 h2, .bool true, .int .u64 a1, .int .u64 b1, .bool true, .int .u64 a2, .int .u64 b2, .string d]) := Lib.hid (by
        have := (K5a.out.set_ 3 (.int .i64 h2)).alloc (.cells #[.int .i64 c, .int .i64 f, .int .i64 n, .int .i64 h2, .bool true, .int .u64 a1, .int .u64 b1, .bool true, .int .u64 a2, .int .u64 b2, .string d] 35)
        simpa using this)
      have N6 : Hid (Blk ((w5.setCell ⟨w2.heap.size, 3, none⟩ (.int .i64 h2)).alloc (.cells #[.int .i64 c, .int .i64 f, .int .i64 n, .int .i64 h2, .bool true, .int .u64 a1, .int .u64 b1, .bool true, .int .u64 a2, .int .u64 b2, .string d] 35)) w5.heap.size 35 #[.int .i64 c, .int .i64 f, .int .i64 n, .int .i64 h2, .bool true, .int .u64 a1, .int .u64 b1, .bool true, .int .u64 a2, .int .u64 b2, .string d]) := Lib.hid (by
        have := Blk.new (w5.setCell ⟨w2.heap.size, 3, none⟩ (.int .i64 h2)) 35 #[.int .i64 c, .int .i64 f, .int .i64 n, .int .i64 h2, .bool true, .int .u64 a1, .int .u64 b1, .bool true, .int .u64 a2, .int .u64 b2, .string d]
        rwa [hsz5] at this)
      have L6 := Lib.hid ((L5a.out.setCell (p := ⟨w2.heap.size, 3, none⟩) hM (.int .i64 h2)).alloc (by rw [hsz5]; omega) (.cells #[.int .i64 c, .int .i64 f, .int .i64 n, .int .i64 h2, .bool true, .int .u64 a1, .int .u64 b1, .bool true, .int .u64 a2, .int .u64 b2, .string d] 35))
      obtain ⟨g0, g1, g2, g3, g4, g5, g6, g7, g8, g9, g10⟩ := G4.out _ _ K6.out
      obtain ⟨m0, m1, m2, m3, m4, m5, m6, m7, m8, m9, m10⟩ := G4.out _ _ N6.out
      go_wp2
      go_ret
      exact ⟨rfl, L6.out⟩
    · have h1' : h ≤ 1 := by omega
      rw [hhp, if_pos h1'] at HH
      have h2 : h < 2 := by omega
      replace HH : Hid (∀ W : World, Calls Try.prog 20 #[.string a0] W fun e w' => e = .returned (.tuple #[.string ⟨#[]⟩, .int .i64 63]) ∧ Below W.heap.size W w') := HH
      clear e hrg hw hd1 hd2 hd3 hl hld hly hhp hT hTs hLN hU2 hp h1 h1' he hT3
      go_enter Try.func8, Try.ntmps8
      go_wp2_with fail
      refine Calls.mono (HA.out _) ?_
      rintro e w1 ⟨rfl, hb⟩
      have L1 := Lib.hid hb
      clear hb
      go_wp2_with fail
      refine Calls.mono (HT.out _) ?_
      rintro e w2 ⟨rfl, hb⟩
      have L2 := Lib.hid ((L1.out.trans (hb.mono L1.out.size)).alloc (L1.out.trans (hb.mono L1.out.size)).size (.cells #[.int .i64 c, .int .i64 f, .int .i64 n, .int .i64 h, .bool true, .int .u64 a1, .int .u64 b1, .bool true, .int .u64 a2, .int .u64 b2, .string d] 35))
      have K2 := Lib.hid (Blk.new w2 35 #[.int .i64 c, .int .i64 f, .int .i64 n, .int .i64 h, .bool true, .int .u64 a1, .int .u64 b1, .bool true, .int .u64 a2, .int .u64 b2, .string d])
      clear hb
      go_wp2_with fail
      refine Calls.mono (HL.out _) ?_
      rintro e w3 ⟨rfl, hb⟩
      have L3 := Lib.hid (L2.out.trans (hb.mono L2.out.size))
      have K3 := Lib.hid (K2.out.below hb K2.out.lt)
      clear hb
      go_wp2_with fail
      refine Calls.mono (HH.out _) ?_
      rintro e w4 ⟨rfl, hb⟩
      have L4 := Lib.hid (L3.out.trans (hb.mono L3.out.size))
      have K4 := Lib.hid (K3.out.below hb K3.out.lt)
      clear hb
      have F4 : Hid (∀ (W : World) (g : Nat), Blk W g 35 #[.int .i64 c, .int .i64 f, .int .i64 n, .int .i64 h, .bool true, .int .u64 a1, .int .u64 b1, .bool true, .int .u64 a2, .int .u64 b2, .string d] → _) := Lib.hid (fun W g (h : Blk W g 35 (scs ⟨c, f, n, h, true, a1, b1, true, a2, b2, d⟩)) => h.s11)
      obtain ⟨f0, f1, f2, f3, f4, f5, f6, f7, f8, f9, f10⟩ := F4.out _ _ K4.out
      go_wp2
      go_ret
      exact ⟨rfl, L4.out⟩
  · have hbad := tk_badS he
    obtain ⟨E, hE⟩ : ∃ E, (tkS a0).2 = E := ⟨_, rfl⟩
    rw [hbad, hE] at HT
    rw [hE] at he
    have hE0 : (E == 0) = false := by simpa using he
    replace HT : Hid (∀ W : World, Calls Try.prog 18 #[.string a0] W fun e w' => e = .returned (.tuple #[.agg #[.int .i64 0, .int .i64 0, .int .i64 0, .int .i64 0, .bool false, .int .u64 0, .int .u64 0, .bool false, .int .u64 0, .int .u64 0, .string ⟨#[]⟩], .int .i64 E]) ∧ Below W.heap.size W w') := HT
    clear he hE hbad HH hs
    go_enter Try.func8, Try.ntmps8
    go_wp2_with fail
    refine Calls.mono (HA.out _) ?_
    rintro e w1 ⟨rfl, hb⟩
    have L1 := Lib.hid hb
    clear hb
    go_wp2_with fail
    refine Calls.mono (HT.out _) ?_
    rintro e w2 ⟨rfl, hb⟩
    have L2 := Lib.hid ((L1.out.trans (hb.mono L1.out.size)).alloc (L1.out.trans (hb.mono L1.out.size)).size (.cells #[.int .i64 0, .int .i64 0, .int .i64 0, .int .i64 0, .bool false, .int .u64 0, .int .u64 0, .bool false, .int .u64 0, .int .u64 0, .string ⟨#[]⟩] 35))
    clear hb
    go_wp2
    go_ret
    exact ⟨ret_bool (by simp), L2.out⟩
set_option maxRecDepth 100000 in
theorem contract (H : Type) (enc : TypeId × Value → H) (W : World) (base : Nat) (args : Array Value) (ds gs : List (DataW H)) (before : List MemPlace)
    (hval0 : ∀ (j : Nat) t v, Try.f8.params[j]? = some t → args[j]? = some v → Value.okWide Try.prog W .any base t v)
    (hW : DataW.Whole enc Try.prog Try.f8.params.toList Rows.sixAgainSpec.vars false W args.toList ds gs before)
    (hsz0 : (DataW.weightsEach Try.prog (Try.f8.params.toList ++ Rows.sixAgainSpec.plain.varTypes Try.prog) (ds ++ gs)).all (· ≤ reachBytes) = true) :
    Calls Try.prog 8 args W fun e W' => ∃ v, e = .returned v ∧ Rows.sixAgainSpec.post enc Try.prog Try.f8 false true false false W args v W' := by
  have hsz := hsz0
  clear hsz0
  have hval := hval0
  clear hval0
  have hW' := hW
  obtain ⟨p, q, hA0, hV, rfl, hfz, hnd⟩ := hW
  have hA : DataW.TrodAll enc Try.prog W 0 (fun _ => true) true Try.f8.params.toList args.toList ds p := hA0
  rw [Try.params8] at hA hval hsz
  obtain ⟨v0, vs0, d0, ds0, p0, q0, hargs, rfl, rfl, h0, r0⟩ := trodAll_cons hA
  obtain ⟨rfl, rfl, rfl⟩ := trodAll_nil r0
  obtain rfl : args = #[v0] := by cases args; simp_all
  obtain ⟨rfl, rfl⟩ := trodVars_none hV
  obtain ⟨a0, rfl, rfl, rfl, w0⟩ := Go.ChangeMaps.open_string Try.underlying9 (hval 0 9 v0 rfl rfl) h0
  clear hA0
  refine (walk W a0 w0).mono fun e W' ⟨he, bel⟩ => ?_
  subst he
  exact ⟨_, rfl, _, _, _, [], _, [], hW', trodAll_mk1 (shut_bool Try.underlying4 _), (trodAll_cons_mk (Go.ChangeMaps.shut_string Try.underlying9 w0) trodAll_mk0), rfl, bel.frame _, fun h => by cases h⟩

set_option maxRecDepth 100000 in
theorem lifted (os : Os) (started : os.Started) (H : Type) (enc : TypeId × Value → H) :
    ReturnsInHanded {} Try.checked os 8 .any (Rows.sixAgainSpec.pre6 enc Try.prog Try.f8 Rows.sixAgainRow.domain false) (Rows.sixAgainSpec.post enc Try.prog Try.f8 false true false false) := by
  refine returnsInHanded_of_change_sized (C := Try.checked) own started (by kernel_rfl) Try.func8
    (ChangeSpec.witness6 (enc := enc) (C := Try.checked) false ⟨#[], #[.string ByteArray.empty], []⟩ 8 (by kernel_rfl) (by kernel_rfl) (by kernel_rfl) (by kernel_rfl)) ?_
  intro W base args ds gs before hval hW _ hsz _
  exact contract H enc W base args ds gs before hval hW hsz

theorem over : Rows.sixAgainRow.holds Try.pinned (OpenSpec.ofChange Rows.sixAgainSpec) :=
  OpenClaim.holds_of_wide 8 Try.f8 rfl rfl rfl rfl rfl rfl rfl ⟨rfl, rfl, rfl, rfl, rfl⟩ rfl rfl rfl rfl rfl (by kernel_rfl) Try.func8 (by kernel_rfl)
    (of_decide_eq_true (by kernel_rfl)) (by unfold Func.isWrapper; first | (rw [if_pos (by decide +kernel)]; kernel_rfl) | (rw [if_neg (by decide +kernel)]; exact ⟨rfl, rfl⟩))
    (fun os started H enc _ => lifted os started H enc)

theorem proved : Rows.SixAgainSaid := over
#print axioms proved
end Go.Proofs.Ytbhddodghbhjiaa.Again
