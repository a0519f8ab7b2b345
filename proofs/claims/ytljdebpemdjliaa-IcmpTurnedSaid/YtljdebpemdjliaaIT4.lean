/-
  IcmpTurned: a piece of its walk.
-/
import Derived.Test.YtljdebpemdjliaaITp
import Derived.Deep.RegionHeld3
import Derived.StillTailTactics
namespace Go.Proofs.Ytljdebpemdjliaa.Turned
open Go.RowKit
set_option linter.unusedVariables false

set_option maxRecDepth 100000 in
set_option maxHeartbeats 16000000 in
theorem four_n (mk mc mr : Int) (md : ByteArray) (a b : Ad) (at_ by_ : Int) (S T : ByteArray) (K : Nat) (x Y D : Int) (HL : Hid (∀ W : World, Calls Try.prog 11 #[Ms.val ⟨false, mk, mc, mr, md⟩, a.val, b.val] W fun e w' => e = .returned (.tuple #[.string S, .int .i64 0]) ∧ Below W.heap.size W w')) (HT : Hid (∀ W : World, Calls Try.prog 13 #[.string T, .bool false, a.val, b.val] W fun e w' => e = .returned (.tuple #[Ms.val ⟨false, 0, 0, 0, ⟨#[]⟩⟩, .int .i64 72]) ∧ Below W.heap.size W w')) (HT2 : Hid (∀ W : World, Calls Try.prog 13 #[.string (S ++ strOfNums [D]), .bool false, a.val, b.val] W fun e w' => e = .returned (.tuple #[Ms.val ⟨false, 0, 0, 0, ⟨#[]⟩⟩, .int .i64 72]) ∧ Below W.heap.size W w')) (hTT : T = strOfNums ((byt S).set K Y)) (hx : (byt S)[K]? = some x) (hY0 : 0 ≤ Y ∧ Y ≤ 255) (hsz : S.size ≤ 65008) (hs8 : 8 ≤ S.size) (hD : 1 + bits .and .i64 by_ 127 = D) (hD1 : 1 ≤ D ∧ D ≤ 128) (hY : bits .xor .u8 x D = Y) (hxb : 0 ≤ x ∧ x ≤ 255) (hn : at_ < 0) (hat : wrap64 (-(at_ + 1)) % (S.size : Int) = K) (hlo : -9223372036854775808 ≤ at_) (hl : ((S.size : Int) == 65008) = false) (w : World) :
    Calls Try.prog 7 #[Ms.val ⟨false, mk, mc, mr, md⟩, .agg (ecs a b), .int .i64 at_, .int .i64 by_] w fun e w' => e = .returned (.bool true) ∧ Below w.heap.size w w' := by
  have HA := Lib.hid (fun W => iawake_yes W)
  obtain ⟨N, hN⟩ : ∃ N, S.size = N := ⟨_, rfl⟩
  have HCV := Lib.hid (fun W => conv_bytes W S)
  have HRI := Lib.hid (fun W => bytesWorld_ri W S)
  have HBW := Lib.hid (fun W => bytesWorld_below W S)
  have hKN : K < S.size := by rw [← byt_len]; exact (List.getElem?_eq_some_iff.1 hx).1
  have HFZ := Lib.hid (fun W => bw_frozen W S K hKN)
  rw [hN] at hat hsz hs8 hKN HCV HRI hl
  have j4 : IntKind.i64.wrap (at_ + 1) = at_ + 1 := by rw [IntKind.wrap_i64]; omega
  obtain ⟨CU, j5⟩ : ∃ C : Int, wrap64 (-(at_ + 1)) = C := ⟨_, rfl⟩
  rw [j5] at hat
  have hC0 : 0 ≤ CU := by rw [← j5]; unfold wrap64; omega
  have hmod : Int.tmod CU (N : Int) = K := by rw [Int.tmod_eq_emod_of_nonneg hC0]; exact hat
  have hmod2 : CU % (N : Int) = K := hat
  have hN0 : ¬ (N : Int) = 0 := by omega
  have hNn : ¬ N = 0 := by omega
  have hNpos : (0 : Int) < N := by omega
  have hKi : (K : Int) < N := by omega
  have hKi0 : (0 : Int) ≤ (K : Int) := by omega
  obtain ⟨M, hM⟩ : ∃ M, bits .and .i64 by_ 127 = M := ⟨_, rfl⟩
  rw [hM] at hD
  have hDw : IntKind.i64.wrap (1 + M) = D := by rw [hD, IntKind.wrap_i64]; omega
  have hD8 : IntKind.u8.wrap D = D := by rw [IntKind.wrap_u8]; omega
  have HX := Lib.hid hx
  have HY0 := Lib.hid hY0
  have HTT := Lib.hid hTT
  have HKN := Lib.hid hKN
  have HSZ := Lib.hid (And.intro hs8 hsz)
  have HD1 := Lib.hid hD1
  have HNN := Lib.hid hN
  clear hx hY0 hTT hKN hsz hs8 hat hD hD1 hxb hlo
  obtain ⟨W0, hW0, km, ke, hL0⟩ := l_args ⟨false, mk, mc, mr, md⟩ a b w
  have K0 := Lib.hid km
  have E0 := Lib.hid ke
  have L0 := Lib.hid hL0
  clear km ke hL0
  go_enter Try.func7, Try.ntmps7
  go_wp2_with fail
  refine Calls.mono (HA.out _) ?_
  rintro e w1 ⟨rfl, hb⟩
  replace hb : Below W0.heap.size W0 w1 := by rw [hW0]; exact hb
  have K1 := Lib.hid (K0.out.below hb K0.out.lt)
  have E1 := Lib.hid (E0.out.below hb E0.out.lt)
  have L1 := Lib.hid (L0.out.trans (hb.mono L0.out.size))
  clear hb hW0 K0 E0 L0
  obtain ⟨f0, f1, f2, f3, f4⟩ := K1.out.i5
  obtain ⟨g0, g1, g2, g3, g4, g5⟩ := E1.out.i6
  go_wp2_with fail
  refine Calls.mono (HL.out _) ?_
  rintro e w2 ⟨rfl, hb⟩
  have K2 := Lib.hid (K1.out.below hb K1.out.lt)
  have E2 := Lib.hid (E1.out.below hb E1.out.lt)
  have L2 := Lib.hid (L1.out.trans (hb.mono L1.out.size))
  clear hb f0 f1 f2 f3 f4 g0 g1 g2 g3 g4 g5 K1 E1 L1
  obtain ⟨f0, f1, f2, f3, f4⟩ := K2.out.i5
  have hcw := HCV.out w2
  have hRI := HRI.out w2
  have hbw := HBW.out w2
  have hfz := HFZ.out w2
  obtain ⟨V, hV⟩ : ∃ V, V = Lib.bytesWorld w2 5 S := ⟨_, rfl⟩
  rw [← hV] at hcw hRI hbw hfz
  have K3 := Lib.hid (K2.out.below hbw K2.out.lt)
  have E3 := Lib.hid (E2.out.below hbw E2.out.lt)
  have L3 := Lib.hid (L2.out.trans (hbw.mono L2.out.size))
  have hl2 : w.heap.size + 1 < w2.heap.size := E2.out.lt
  have hvc : V.cell? ⟨w2.heap.size, K, none⟩ = some (.int .u8 x) := by
    obtain ⟨b', o', e', -, hc⟩ := hRI.2.1 (by have := HKN.out; omega)
    injection e' with e'
    injection e' with e1 e2
    subst e1 e2
    have := hc K x HX.out
    rwa [Nat.zero_add] at this
  have HRS := Lib.hid (ri_set hRI K HKN.out Y HY0.out)
  clear hV hbw hRI K2 E2 L2
  go_wp2
  go_still_tail 18, (by kernel_rfl)
  obtain ⟨V2, hV2⟩ : ∃ V2, V2 = (V.setCell ⟨w2.heap.size, K, none⟩ (.int .u8 Y)).drew := ⟨_, rfl⟩
  have K4 : Hid (Blk V2 w.heap.size 23 (mcs ⟨false, mk, mc, mr, md⟩)) := Lib.hid (by rw [hV2]; exact (K3.out.far (p := ⟨w2.heap.size, K, none⟩) (show w.heap.size ≠ w2.heap.size by omega) (.int .u8 Y)).drew)
  have E4 : Hid (Blk V2 (w.heap.size + 1) 28 (ecs a b)) := Lib.hid (by rw [hV2]; exact (E3.out.far (p := ⟨w2.heap.size, K, none⟩) (show w.heap.size + 1 ≠ w2.heap.size by omega) (.int .u8 Y)).drew)
  have L4 : Hid (Below w.heap.size w V2) := Lib.hid (by rw [hV2]; exact (L3.out.setCell (p := ⟨w2.heap.size, K, none⟩) (show w.heap.size ≤ w2.heap.size by omega) (.int .u8 Y)).drew)
  have hRS : RI .u8 V2 V.heap.size (some ⟨w2.heap.size, 0, none⟩) N ((byt S).set K Y) := by
    rw [hV2]
    exact HRS.out.keep (fun p _ => rfl)
  have hcv := conv_str (c := grownCap w2 N 0 5) hRS
  rw [← HTT.out] at hcv
  clear hcw hRS K3 E3 L3 f0 f1 f2 f3 f4
  obtain ⟨f0, f1, f2, f3, f4⟩ := K4.out.i5
  obtain ⟨g0, g1, g2, g3, g4, g5⟩ := E4.out.i6
  rw [hV2] at hcv f0 f1 f2 f3 f4 g0 g1 g2 g3 g4 g5
  go_wp2_with fail
  refine Calls.mono (HT.out _) ?_
  rintro e w5 ⟨rfl, hb⟩
  replace hb : Below V2.heap.size V2 w5 := by rw [hV2]; exact hb
  have K5 := Lib.hid ((K4.out.below hb K4.out.lt).alloc (.cells (mcs ⟨false, 0, 0, 0, ⟨#[]⟩⟩) 23))
  have E5 := Lib.hid ((E4.out.below hb E4.out.lt).alloc (.cells (mcs ⟨false, 0, 0, 0, ⟨#[]⟩⟩) 23))
  have L5 := Lib.hid ((L4.out.trans (hb.mono L4.out.size)).alloc (L4.out.trans (hb.mono L4.out.size)).size (.cells (mcs ⟨false, 0, 0, 0, ⟨#[]⟩⟩) 23))
  clear hb f0 f1 f2 f3 f4 g0 g1 g2 g3 g4 g5 hcv K4 E4 L4 hvc hfz hV2
  obtain ⟨f0, f1, f2, f3, f4⟩ := K5.out.i5
  have K6 := Lib.hid (K5.out.alloc (.cells #[.int .u8 D] 5))
  have E6 := Lib.hid (E5.out.alloc (.cells #[.int .u8 D] 5))
  have L6 := Lib.hid (L5.out.alloc L5.out.size (.cells #[.int .u8 D] 5))
  have hcv2 := conv_one (w5.alloc (.cells (mcs ⟨false, 0, 0, 0, ⟨#[]⟩⟩) 23)) D
  simp only [World.size_alloc] at hcv2
  have hadd : ∀ W : World, (Op.stringOp .add S (strOfNums [D])).run Try.prog W = .ok (.string (S ++ strOfNums [D])) W := fun W => run_string_add_sum _ _ _ (by have := HSZ.out; rw [strOfNums_size]; show S.size + 1 ≤ _; have := HNN.out; omega)
  clear f0 f1 f2 f3 f4
  obtain ⟨p0, p1, p2, p3, p4⟩ := K5.out.i5
  obtain ⟨f0, f1, f2, f3, f4⟩ := K6.out.i5
  obtain ⟨g0, g1, g2, g3, g4, g5⟩ := E6.out.i6
  go_wp2_with fail
  refine Calls.mono (HT2.out _) ?_
  rintro e w7 ⟨rfl, hb⟩
  have L7 := Lib.hid ((L6.out.trans (hb.mono L6.out.size)).alloc (L6.out.trans (hb.mono L6.out.size)).size (.cells (mcs ⟨false, 0, 0, 0, ⟨#[]⟩⟩) 23))
  clear hb f0 f1 f2 f3 f4 g0 g1 g2 g3 g4 g5 p0 p1 p2 p3 p4 hcv2
  go_wp2
  go_ret
  exact ⟨rfl, L7.out⟩
end Go.Proofs.Ytljdebpemdjliaa.Turned
