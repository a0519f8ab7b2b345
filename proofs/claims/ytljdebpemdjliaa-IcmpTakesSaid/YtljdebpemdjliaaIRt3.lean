/-
  The document's own Take of any text between any two.
-/
import Derived.Test.YtljdebpemdjliaaITk
import Derived.Test.YtljdebpemdjliaaIRf
import Derived.StillTailTactics
namespace Go.Proofs.Ytljdebpemdjliaa
open Go.RowKit
set_option linter.unusedVariables false
theorem byt_at0 (s : ByteArray) (i : Nat) (h : i < s.size) : (byt s)[i]? = some ((s[i]'h).toNat : Int) := by
  unfold byt
  rw [List.getElem?_map, List.getElem?_eq_getElem (by rw [Array.length_toList]; exact h), Option.map_some]
  rfl

set_option maxRecDepth 100000 in
set_option maxHeartbeats 8000000 in
theorem rtk_ok4 (s : ByteArray) (hs : s.size ≤ 140737488351232) (a b : Ad) (ha : WfA a) (hb : WfA b) (h : 8 ≤ s.size) (h2 : s.size ≤ 65008) (heq : SumI false a b s.size (byt s) = 65535) (w : World) :
    Calls Try.prog 14 #[.string s, .bool false, Ad.val a, Ad.val b] w fun e w' => e = .returned (tkIV s false a b) ∧ Below w.heap.size w w' := by
  have H5 := Lib.hid (fun W A c (hz : RI .u8 W W.heap.size A s.size (byt s)) => rsum_any false a b ha hb (fun h => by cases h) W A s.size c (byt s) (by omega) hz)
  have HCV := Lib.hid (fun W => conv_bytes W s)
  have HRI := Lib.hid (fun W => bytesWorld_ri W s)
  have HBW := Lib.hid (fun W => bytesWorld_below W s)
  have HX := Lib.hid (tkI_ok (s := s) (six := false) (a := a) (b := b) (fun h => by cases h) h h2 heq)
  have hI : ¬ (s.size : Int) < 8 := by omega
  have hgt : ¬ (65008 : Int) < s.size := by omega
  have i1 : (8 : Int) ≤ s.size := by omega
  have i2 : (4 : Int) ≤ s.size := by omega
  have i3 : (0 : Int) < s.size := by omega
  have i4 : (1 : Int) < s.size := by omega
  have h0 : 0 < s.size := by omega
  have h1 : 1 < s.size := by omega
  rw [heq] at H5
  obtain ⟨E, hE⟩ : ∃ E, s.extract 4 8 = E := ⟨_, rfl⟩
  have hEs : E.size = 4 := by rw [← hE, ByteArray.size_extract]; omega
  have bE : byt E = ((byt s).take 8).drop 4 := by rw [← hE, byt_extI]
  have HCV2 := Lib.hid (fun W => conv_bytes W E)
  rw [hEs] at HCV2
  have HRI2 := Lib.hid (fun W => bytesWorld_ri W E)
  rw [hEs] at HRI2
  have HBW2 := Lib.hid (fun W => bytesWorld_below W E)
  have HG := Lib.hid (fun (W : World) (c : Nat) (A : Option Addr) (hz : RI .u8 W W.heap.size A 4 (byt E)) => rget_yes W W.heap.size A 4 c 0 4 (byt E) hz (by decide) (by decide) (by decide))
  have e4 : numOf (((byt E).drop 0).take 4) = nAt (byt s) 4 4 := by
    rw [bE, List.drop_zero]
    unfold nAt
    rw [List.drop_take, List.take_take]
    rfl
  rw [e4] at HG
  have hb4 := nAt_bdI (byt_by s) (i := 4) (k := 4) (by rw [byt_len]; omega)
  rw [show (256 : Int) ^ 4 = 4294967296 by decide] at hb4
  have k0 : ((s[0]'h0).toNat : Int) = nAt (byt s) 0 1 := (nAt_one (byt_at0 s 0 h0)).symm
  have k1 : ((s[1]'h1).toNat : Int) = nAt (byt s) 1 1 := (nAt_one (byt_at0 s 1 h1)).symm
  have b0 := nAt_bdI (byt_by s) (i := 0) (k := 1) (by rw [byt_len]; omega)
  have b1 := nAt_bdI (byt_by s) (i := 1) (k := 1) (by rw [byt_len]; omega)
  rw [show (256 : Int) ^ 1 = 256 by decide] at b0 b1
  obtain ⟨D, hD⟩ : ∃ D, s.extract 8 s.size = D := ⟨_, rfl⟩
  have hpk : pkI s false = ⟨false, nAt (byt s) 0 1, nAt (byt s) 1 1, nAt (byt s) 4 4, D⟩ := by unfold pkI; rw [hD]
  rw [hpk] at HX
  obtain ⟨K, hK⟩ : ∃ X, nAt (byt s) 0 1 = X := ⟨_, rfl⟩
  obtain ⟨C, hC⟩ : ∃ X, nAt (byt s) 1 1 = X := ⟨_, rfl⟩
  obtain ⟨R, hR⟩ : ∃ X, nAt (byt s) 4 4 = X := ⟨_, rfl⟩
  rw [hK] at HX k0 b0
  rw [hC] at HX k1 b1
  rw [hR] at HX HG hb4
  have cK : IntKind.i64.wrap K = K := by rw [IntKind.wrap_i64]; omega
  have cC : IntKind.i64.wrap C = C := by rw [IntKind.wrap_i64]; omega
  have cR : IntKind.i64.wrap R = R := by rw [IntKind.wrap_i64]; omega
  clear h h2 hs heq bE hEs hpk hK hC hR ha hb e4 hb4 b0 b1
  obtain ⟨W0, hW0, ka, kb, kr, hL0, hsz⟩ := t_args a b w
  have KA := Lib.hid ka
  have KB := Lib.hid kb
  have KR := Lib.hid kr
  have L0 := Lib.hid hL0
  obtain ⟨f0, f1, f2⟩ := KA.out.i3
  obtain ⟨g0, g1, g2⟩ := KB.out.i3
  clear ka kb hsz hL0
  have hcw := HCV.out W0
  have HZ := Lib.hid (HRI.out W0)
  have hbw := HBW.out W0
  obtain ⟨V, hV⟩ : ∃ V, V = Lib.bytesWorld W0 5 s := ⟨_, rfl⟩
  rw [← hV] at hcw HZ hbw
  have KA1 := Lib.hid (KA.out.below hbw KA.out.lt)
  have KB1 := Lib.hid (KB.out.below hbw KB.out.lt)
  have KR1 := Lib.hid (KR.out.below hbw KR.out.lt)
  have L1 := Lib.hid (L0.out.trans (hbw.mono L0.out.size))
  have hsz0 : W0.heap.size = w.heap.size + 3 := by rw [hW0]; simp
  clear hbw hV kr
  rw [hsz0] at hcw HZ
  rw [hW0, noM] at f0 f1 f2 g0 g1 g2 hcw
  obtain ⟨p0, p1, p2⟩ := KA1.out.i3
  obtain ⟨r0, r1, r2⟩ := KB1.out.i3
  go_enter Try.func14, Try.ntmps14
  go_wp2_with fail
  refine Calls.mono (H5.out V _ _ HZ.out) ?_
  rintro e w2 ⟨rfl, hb⟩
  have KR2 := Lib.hid (KR1.out.below hb KR1.out.lt)
  have L2 := Lib.hid (L1.out.trans (hb.mono L1.out.size))
  have hl2 : w.heap.size + 2 < w2.heap.size := KR2.out.lt
  clear hb f0 f1 f2 g0 g1 g2 p0 p1 p2 r0 r1 r2 hcw HZ hW0 KA KB KR L0 KA1 KB1 KR1 L1 hsz0
  have hcw := HCV2.out w2
  have HZ := Lib.hid (HRI2.out w2)
  have hbw := HBW2.out w2
  obtain ⟨V2, hV⟩ : ∃ V, V = Lib.bytesWorld w2 5 E := ⟨_, rfl⟩
  rw [← hV] at hcw HZ hbw
  have KR3 := Lib.hid (KR2.out.below hbw KR2.out.lt)
  have L3 := Lib.hid (L2.out.trans (hbw.mono L2.out.size))
  clear hbw hV KR2 L2
  go_wp2_with fail
  refine Calls.mono (HG.out V2 _ _ HZ.out) ?_
  rintro e w3 ⟨rfl, rfl⟩
  clear hcw HZ
  obtain ⟨n0, n1, n2, n3, n4⟩ := KR3.out.i5
  have z0 := KR3.out.frozen 0
  have z1 := KR3.out.frozen 1
  have z2 := KR3.out.frozen 2
  have z3 := KR3.out.frozen 3
  have z4 := KR3.out.frozen 4
  go_wp2
  go_still_tail 12, (by kernel_rfl)
  refine wpList_st5 rfl (.tmp 8) (.tmp 58) rfl (w.heap.size + 2) ⟨false, K, C, R, D⟩ noM rfl rfl KR3.out.drew ?_
  intro w6 hk6 hb6
  have K6 := Lib.hid hk6
  have L6 := Lib.hid (L3.out.drew.trans (hb6.mono (by omega)))
  clear hk6 hb6 n0 n1 n2 n3 n4 z0 z1 z2 z3 z4
  go_wp2
  obtain ⟨q0, q1, q2, q3, q4⟩ := K6.out.i5
  exact bodyPost_ret (v := .tuple #[Ms.val ⟨false, K, C, R, D⟩, .int .i64 0]) (by simp [results, Try.results14, go_sem, q0, q1, q2, q3, q4]) rfl ⟨by unfold tkIV; rw [HX.out], L6.out⟩

set_option maxRecDepth 100000 in
set_option maxHeartbeats 8000000 in
theorem rtk_ok6 (s : ByteArray) (hs : s.size ≤ 140737488351232) (ah al bh bl : Int) (ha : WfA ⟨true, ah, al⟩) (hb : WfA ⟨true, bh, bl⟩) (h : 8 ≤ s.size) (h2 : s.size ≤ 65008) (heq : SumI true ⟨true, ah, al⟩ ⟨true, bh, bl⟩ s.size (byt s) = 65535) (w : World) :
    Calls Try.prog 14 #[.string s, .bool true, Ad.val ⟨true, ah, al⟩, Ad.val ⟨true, bh, bl⟩] w fun e w' => e = .returned (tkIV s true ⟨true, ah, al⟩ ⟨true, bh, bl⟩) ∧ Below w.heap.size w w' := by
  have H5 := Lib.hid (fun W A c (hz : RI .u8 W W.heap.size A s.size (byt s)) => rsum_any true ⟨true, ah, al⟩ ⟨true, bh, bl⟩ ha hb (fun _ => rfl) W A s.size c (byt s) (by omega) hz)
  have HCV := Lib.hid (fun W => conv_bytes W s)
  have HRI := Lib.hid (fun W => bytesWorld_ri W s)
  have HBW := Lib.hid (fun W => bytesWorld_below W s)
  have HX := Lib.hid (tkI_ok (s := s) (six := true) (a := ⟨true, ah, al⟩) (b := ⟨true, bh, bl⟩) (fun _ => rfl) h h2 heq)
  have hI : ¬ (s.size : Int) < 8 := by omega
  have hgt : ¬ (65008 : Int) < s.size := by omega
  have i1 : (8 : Int) ≤ s.size := by omega
  have i2 : (4 : Int) ≤ s.size := by omega
  have i3 : (0 : Int) < s.size := by omega
  have i4 : (1 : Int) < s.size := by omega
  have h0 : 0 < s.size := by omega
  have h1 : 1 < s.size := by omega
  rw [heq] at H5
  obtain ⟨E, hE⟩ : ∃ E, s.extract 4 8 = E := ⟨_, rfl⟩
  have hEs : E.size = 4 := by rw [← hE, ByteArray.size_extract]; omega
  have bE : byt E = ((byt s).take 8).drop 4 := by rw [← hE, byt_extI]
  have HCV2 := Lib.hid (fun W => conv_bytes W E)
  rw [hEs] at HCV2
  have HRI2 := Lib.hid (fun W => bytesWorld_ri W E)
  rw [hEs] at HRI2
  have HBW2 := Lib.hid (fun W => bytesWorld_below W E)
  have HG := Lib.hid (fun (W : World) (c : Nat) (A : Option Addr) (hz : RI .u8 W W.heap.size A 4 (byt E)) => rget_yes W W.heap.size A 4 c 0 4 (byt E) hz (by decide) (by decide) (by decide))
  have e4 : numOf (((byt E).drop 0).take 4) = nAt (byt s) 4 4 := by
    rw [bE, List.drop_zero]
    unfold nAt
    rw [List.drop_take, List.take_take]
    rfl
  rw [e4] at HG
  have hb4 := nAt_bdI (byt_by s) (i := 4) (k := 4) (by rw [byt_len]; omega)
  rw [show (256 : Int) ^ 4 = 4294967296 by decide] at hb4
  have k0 : ((s[0]'h0).toNat : Int) = nAt (byt s) 0 1 := (nAt_one (byt_at0 s 0 h0)).symm
  have k1 : ((s[1]'h1).toNat : Int) = nAt (byt s) 1 1 := (nAt_one (byt_at0 s 1 h1)).symm
  have b0 := nAt_bdI (byt_by s) (i := 0) (k := 1) (by rw [byt_len]; omega)
  have b1 := nAt_bdI (byt_by s) (i := 1) (k := 1) (by rw [byt_len]; omega)
  rw [show (256 : Int) ^ 1 = 256 by decide] at b0 b1
  obtain ⟨D, hD⟩ : ∃ D, s.extract 8 s.size = D := ⟨_, rfl⟩
  have hpk : pkI s true = ⟨true, nAt (byt s) 0 1, nAt (byt s) 1 1, nAt (byt s) 4 4, D⟩ := by unfold pkI; rw [hD]
  rw [hpk] at HX
  obtain ⟨K, hK⟩ : ∃ X, nAt (byt s) 0 1 = X := ⟨_, rfl⟩
  obtain ⟨C, hC⟩ : ∃ X, nAt (byt s) 1 1 = X := ⟨_, rfl⟩
  obtain ⟨R, hR⟩ : ∃ X, nAt (byt s) 4 4 = X := ⟨_, rfl⟩
  rw [hK] at HX k0 b0
  rw [hC] at HX k1 b1
  rw [hR] at HX HG hb4
  have cK : IntKind.i64.wrap K = K := by rw [IntKind.wrap_i64]; omega
  have cC : IntKind.i64.wrap C = C := by rw [IntKind.wrap_i64]; omega
  have cR : IntKind.i64.wrap R = R := by rw [IntKind.wrap_i64]; omega
  clear h h2 hs heq bE hEs hpk hK hC hR ha hb e4 hb4 b0 b1
  obtain ⟨W0, hW0, ka, kb, kr, hL0, hsz⟩ := t_args ⟨true, ah, al⟩ ⟨true, bh, bl⟩ w
  have KA := Lib.hid ka
  have KB := Lib.hid kb
  have KR := Lib.hid kr
  have L0 := Lib.hid hL0
  obtain ⟨f0, f1, f2⟩ := KA.out.i3
  obtain ⟨g0, g1, g2⟩ := KB.out.i3
  clear ka kb hsz hL0
  have hcw := HCV.out W0
  have HZ := Lib.hid (HRI.out W0)
  have hbw := HBW.out W0
  obtain ⟨V, hV⟩ : ∃ V, V = Lib.bytesWorld W0 5 s := ⟨_, rfl⟩
  rw [← hV] at hcw HZ hbw
  have KA1 := Lib.hid (KA.out.below hbw KA.out.lt)
  have KB1 := Lib.hid (KB.out.below hbw KB.out.lt)
  have KR1 := Lib.hid (KR.out.below hbw KR.out.lt)
  have L1 := Lib.hid (L0.out.trans (hbw.mono L0.out.size))
  have hsz0 : W0.heap.size = w.heap.size + 3 := by rw [hW0]; simp
  clear hbw hV kr
  rw [hsz0] at hcw HZ
  rw [hW0, noM] at f0 f1 f2 g0 g1 g2 hcw
  obtain ⟨p0, p1, p2⟩ := KA1.out.i3
  obtain ⟨r0, r1, r2⟩ := KB1.out.i3
  go_enter Try.func14, Try.ntmps14
  go_wp2_with fail
  refine Calls.mono (H5.out V _ _ HZ.out) ?_
  rintro e w2 ⟨rfl, hb⟩
  have KR2 := Lib.hid (KR1.out.below hb KR1.out.lt)
  have L2 := Lib.hid (L1.out.trans (hb.mono L1.out.size))
  have hl2 : w.heap.size + 2 < w2.heap.size := KR2.out.lt
  clear hb f0 f1 f2 g0 g1 g2 p0 p1 p2 r0 r1 r2 hcw HZ hW0 KA KB KR L0 KA1 KB1 KR1 L1 hsz0
  have hcw := HCV2.out w2
  have HZ := Lib.hid (HRI2.out w2)
  have hbw := HBW2.out w2
  obtain ⟨V2, hV⟩ : ∃ V, V = Lib.bytesWorld w2 5 E := ⟨_, rfl⟩
  rw [← hV] at hcw HZ hbw
  have KR3 := Lib.hid (KR2.out.below hbw KR2.out.lt)
  have L3 := Lib.hid (L2.out.trans (hbw.mono L2.out.size))
  clear hbw hV KR2 L2
  go_wp2_with fail
  refine Calls.mono (HG.out V2 _ _ HZ.out) ?_
  rintro e w3 ⟨rfl, rfl⟩
  clear hcw HZ
  obtain ⟨n0, n1, n2, n3, n4⟩ := KR3.out.i5
  have z0 := KR3.out.frozen 0
  have z1 := KR3.out.frozen 1
  have z2 := KR3.out.frozen 2
  have z3 := KR3.out.frozen 3
  have z4 := KR3.out.frozen 4
  go_wp2
  go_still_tail 12, (by kernel_rfl)
  refine wpList_st5 rfl (.tmp 8) (.tmp 58) rfl (w.heap.size + 2) ⟨true, K, C, R, D⟩ noM rfl rfl KR3.out.drew ?_
  intro w6 hk6 hb6
  have K6 := Lib.hid hk6
  have L6 := Lib.hid (L3.out.drew.trans (hb6.mono (by omega)))
  clear hk6 hb6 n0 n1 n2 n3 n4 z0 z1 z2 z3 z4
  go_wp2
  obtain ⟨q0, q1, q2, q3, q4⟩ := K6.out.i5
  exact bodyPost_ret (v := .tuple #[Ms.val ⟨true, K, C, R, D⟩, .int .i64 0]) (by simp [results, Try.results14, go_sem, q0, q1, q2, q3, q4]) rfl ⟨by unfold tkIV; rw [HX.out], L6.out⟩
end Go.Proofs.Ytljdebpemdjliaa
