/-
  The document's own Lay of any packet.
-/
import Derived.Test.YtbhddodghbhjiaaSPk
import Derived.Test.YtbhddodghbhjiaaRefPut
import Derived.Test.YtbhddodghbhjiaaFConv
namespace Go.Proofs.Ytbhddodghbhjiaa
open Go.RowKit
set_option linter.unusedVariables false

theorem srput (k n m : Nat) (hk : k ≤ 8) (h0 : 0 < k) (v : Int) (hv0 : 0 ≤ v) (hv1 : v ≤ 18446744073709551615) (hn : n ≤ 2000) {zs ys : List Int} (hm : n + k = m) (hy : zs ++ putOf k v = ys) (w : World) (A : Option Addr) (c : Nat) (hz : RI .u8 w w.heap.size A n zs) (hA : A = none → c = 0) :
    Calls Try.prog 45 #[.slice A n c, .int .i64 (k : Int), .int .u64 v] w fun e w' => ∃ A' c', e = .returned (.slice A' m c') ∧ RI .u8 w' w'.heap.size A' m ys ∧ (A' = none → c' = 0) ∧ Below w.heap.size w w' := by
  subst hm hy
  refine (refPut_at w w.heap.size A n c k v (k : Int) _ zs hz hA (Nat.le_refl _) hk (by omega) hv0 hv1 (if_neg (by omega)) (if_neg (by omega))).mono fun e w' ⟨A', c', a, b, _, d⟩ => ⟨A', c', a, b, fun h => ?_, d⟩
  obtain ⟨_, _, e', _⟩ := b.2.1 (by omega)
  rw [e'] at h; cases h
theorem rbt_at (n m : Int) {b : Bool} (e : bt n m = b) (w : World) :
    Calls Try.prog 44 #[.int .i64 n, .int .i64 m] w fun e w' => e = .returned (.bool b) ∧ w = w' := by
  have HE := Lib.hid e
  by_cases h0 : 0 ≤ n
  · by_cases h1 : n ≤ m
    all_goals
      clear e
      go_enter Try.func44, Try.ntmps44
      go_wp2
      go_ret
      exact ⟨ret_bool (by rw [← HE.out]; simp [bt, h0, h1]), rfl⟩
  · clear e
    go_enter Try.func44, Try.ntmps44
    go_wp2
    go_ret
    exact ⟨ret_bool (by rw [← HE.out]; simp [bt]; omega), rfl⟩

set_option maxRecDepth 100000 in
set_option maxHeartbeats 2000000 in
theorem srl_0 (p : Sx) (hX : lySR p = (⟨#[]⟩, 60)) (c0 : bt p.c 255 = false) (w : World) :
    Calls Try.prog 17 #[p.val] w fun e w' => e = .returned (lySV p) ∧ Below w.heap.size w w' := by
  have HX := Lib.hid hX
  clear hX
  have H0 := Lib.hid (fun W => rbt_at p.c 255 c0 W)
  have K0 := Blk.new w 35 (scs p)
  have L0 := Lib.hid ((Below.refl _ w).alloc (Nat.le_refl _) (.cells (scs p) 35))
  have HK0 := Lib.hid K0
  obtain ⟨f0, f1, f2, f3, f4, f5, f6, f7, f8, f9, f10⟩ := K0.s11
  clear K0 c0
  go_enter Try.func17, Try.ntmps17
  go_wp2_with fail
  refine Calls.mono (H0.out _) ?_
  rintro e w0 ⟨rfl, rfl⟩
  go_wp2
  go_ret2
  exact ⟨by unfold lySV; rw [HX.out]; rfl, L0.out⟩
set_option maxRecDepth 100000 in
set_option maxHeartbeats 2000000 in
theorem srl_1 (p : Sx) (hX : lySR p = (⟨#[]⟩, 60)) (c0 : bt p.c 255 = true) (c1 : bt p.n 255 = false) (w : World) :
    Calls Try.prog 17 #[p.val] w fun e w' => e = .returned (lySV p) ∧ Below w.heap.size w w' := by
  have HX := Lib.hid hX
  clear hX
  have H0 := Lib.hid (fun W => rbt_at p.c 255 c0 W)
  have H1 := Lib.hid (fun W => rbt_at p.n 255 c1 W)
  have K0 := Blk.new w 35 (scs p)
  have L0 := Lib.hid ((Below.refl _ w).alloc (Nat.le_refl _) (.cells (scs p) 35))
  have HK0 := Lib.hid K0
  obtain ⟨f0, f1, f2, f3, f4, f5, f6, f7, f8, f9, f10⟩ := K0.s11
  clear K0 c0 c1
  go_enter Try.func17, Try.ntmps17
  go_wp2_with fail
  refine Calls.mono (H0.out _) ?_
  rintro e w0 ⟨rfl, rfl⟩
  go_wp2_with fail
  refine Calls.mono (H1.out _) ?_
  rintro e w1 ⟨rfl, rfl⟩
  go_wp2
  go_ret2
  exact ⟨by unfold lySV; rw [HX.out]; rfl, L0.out⟩
set_option maxRecDepth 100000 in
set_option maxHeartbeats 2000000 in
theorem srl_2 (p : Sx) (hX : lySR p = (⟨#[]⟩, 60)) (c0 : bt p.c 255 = true) (c1 : bt p.n 255 = true) (c2 : bt p.h 255 = false) (w : World) :
    Calls Try.prog 17 #[p.val] w fun e w' => e = .returned (lySV p) ∧ Below w.heap.size w w' := by
  have HX := Lib.hid hX
  clear hX
  have H0 := Lib.hid (fun W => rbt_at p.c 255 c0 W)
  have H1 := Lib.hid (fun W => rbt_at p.n 255 c1 W)
  have H2 := Lib.hid (fun W => rbt_at p.h 255 c2 W)
  have K0 := Blk.new w 35 (scs p)
  have L0 := Lib.hid ((Below.refl _ w).alloc (Nat.le_refl _) (.cells (scs p) 35))
  have HK0 := Lib.hid K0
  obtain ⟨f0, f1, f2, f3, f4, f5, f6, f7, f8, f9, f10⟩ := K0.s11
  clear K0 c0 c1 c2
  go_enter Try.func17, Try.ntmps17
  go_wp2_with fail
  refine Calls.mono (H0.out _) ?_
  rintro e w0 ⟨rfl, rfl⟩
  go_wp2_with fail
  refine Calls.mono (H1.out _) ?_
  rintro e w1 ⟨rfl, rfl⟩
  go_wp2_with fail
  refine Calls.mono (H2.out _) ?_
  rintro e w2 ⟨rfl, rfl⟩
  go_wp2
  go_ret2
  exact ⟨by unfold lySV; rw [HX.out]; rfl, L0.out⟩
set_option maxRecDepth 100000 in
set_option maxHeartbeats 2000000 in
theorem srl_3 (p : Sx) (hX : lySR p = (⟨#[]⟩, 60)) (c0 : bt p.c 255 = true) (c1 : bt p.n 255 = true) (c2 : bt p.h 255 = true) (c3 : bt p.f 1048575 = false) (w : World) :
    Calls Try.prog 17 #[p.val] w fun e w' => e = .returned (lySV p) ∧ Below w.heap.size w w' := by
  have HX := Lib.hid hX
  clear hX
  have H0 := Lib.hid (fun W => rbt_at p.c 255 c0 W)
  have H1 := Lib.hid (fun W => rbt_at p.n 255 c1 W)
  have H2 := Lib.hid (fun W => rbt_at p.h 255 c2 W)
  have H3 := Lib.hid (fun W => rbt_at p.f 1048575 c3 W)
  have K0 := Blk.new w 35 (scs p)
  have L0 := Lib.hid ((Below.refl _ w).alloc (Nat.le_refl _) (.cells (scs p) 35))
  have HK0 := Lib.hid K0
  obtain ⟨f0, f1, f2, f3, f4, f5, f6, f7, f8, f9, f10⟩ := K0.s11
  clear K0 c0 c1 c2 c3
  go_enter Try.func17, Try.ntmps17
  go_wp2_with fail
  refine Calls.mono (H0.out _) ?_
  rintro e w0 ⟨rfl, rfl⟩
  go_wp2_with fail
  refine Calls.mono (H1.out _) ?_
  rintro e w1 ⟨rfl, rfl⟩
  go_wp2_with fail
  refine Calls.mono (H2.out _) ?_
  rintro e w2 ⟨rfl, rfl⟩
  go_wp2_with fail
  refine Calls.mono (H3.out _) ?_
  rintro e w3 ⟨rfl, rfl⟩
  go_wp2
  go_ret2
  exact ⟨by unfold lySV; rw [HX.out]; rfl, L0.out⟩
set_option maxRecDepth 100000 in
set_option maxHeartbeats 2000000 in
theorem srl_4 (p : Sx) (hX : lySR p = (⟨#[]⟩, 60)) (c0 : bt p.c 255 = true) (c1 : bt p.n 255 = true) (c2 : bt p.h 255 = true) (c3 : bt p.f 1048575 = true) (c4 : p.s = false) (w : World) :
    Calls Try.prog 17 #[p.val] w fun e w' => e = .returned (lySV p) ∧ Below w.heap.size w w' := by
  have HX := Lib.hid hX
  clear hX
  have H0 := Lib.hid (fun W => rbt_at p.c 255 c0 W)
  have H1 := Lib.hid (fun W => rbt_at p.n 255 c1 W)
  have H2 := Lib.hid (fun W => rbt_at p.h 255 c2 W)
  have H3 := Lib.hid (fun W => rbt_at p.f 1048575 c3 W)
  have K0 := Blk.new w 35 (scs p)
  have L0 := Lib.hid ((Below.refl _ w).alloc (Nat.le_refl _) (.cells (scs p) 35))
  have HK0 := Lib.hid K0
  obtain ⟨f0, f1, f2, f3, f4, f5, f6, f7, f8, f9, f10⟩ := K0.s11
  rw [c4] at f4
  clear K0 c0 c1 c2 c3 c4
  go_enter Try.func17, Try.ntmps17
  go_wp2_with fail
  refine Calls.mono (H0.out _) ?_
  rintro e w0 ⟨rfl, rfl⟩
  go_wp2_with fail
  refine Calls.mono (H1.out _) ?_
  rintro e w1 ⟨rfl, rfl⟩
  go_wp2_with fail
  refine Calls.mono (H2.out _) ?_
  rintro e w2 ⟨rfl, rfl⟩
  go_wp2_with fail
  refine Calls.mono (H3.out _) ?_
  rintro e w3 ⟨rfl, rfl⟩
  go_wp2
  go_ret2
  exact ⟨by unfold lySV; rw [HX.out]; rfl, L0.out⟩
set_option maxRecDepth 100000 in
set_option maxHeartbeats 2000000 in
theorem srl_5 (p : Sx) (hX : lySR p = (⟨#[]⟩, 60)) (c0 : bt p.c 255 = true) (c1 : bt p.n 255 = true) (c2 : bt p.h 255 = true) (c3 : bt p.f 1048575 = true) (c4 : p.s = true) (c5 : p.s' = false) (w : World) :
    Calls Try.prog 17 #[p.val] w fun e w' => e = .returned (lySV p) ∧ Below w.heap.size w w' := by
  have HX := Lib.hid hX
  clear hX
  have H0 := Lib.hid (fun W => rbt_at p.c 255 c0 W)
  have H1 := Lib.hid (fun W => rbt_at p.n 255 c1 W)
  have H2 := Lib.hid (fun W => rbt_at p.h 255 c2 W)
  have H3 := Lib.hid (fun W => rbt_at p.f 1048575 c3 W)
  have K0 := Blk.new w 35 (scs p)
  have L0 := Lib.hid ((Below.refl _ w).alloc (Nat.le_refl _) (.cells (scs p) 35))
  have HK0 := Lib.hid K0
  obtain ⟨f0, f1, f2, f3, f4, f5, f6, f7, f8, f9, f10⟩ := K0.s11
  rw [c4] at f4
  rw [c5] at f7
  clear K0 c0 c1 c2 c3 c4 c5
  go_enter Try.func17, Try.ntmps17
  go_wp2_with fail
  refine Calls.mono (H0.out _) ?_
  rintro e w0 ⟨rfl, rfl⟩
  go_wp2_with fail
  refine Calls.mono (H1.out _) ?_
  rintro e w1 ⟨rfl, rfl⟩
  go_wp2_with fail
  refine Calls.mono (H2.out _) ?_
  rintro e w2 ⟨rfl, rfl⟩
  go_wp2_with fail
  refine Calls.mono (H3.out _) ?_
  rintro e w3 ⟨rfl, rfl⟩
  go_wp2
  go_ret2
  exact ⟨by unfold lySV; rw [HX.out]; rfl, L0.out⟩
set_option maxRecDepth 100000 in
set_option maxHeartbeats 2000000 in
theorem srl_6 (p : Sx) (hX : lySR p = (⟨#[]⟩, 62)) (hd : 65535 < p.d.size) (c0 : bt p.c 255 = true) (c1 : bt p.n 255 = true) (c2 : bt p.h 255 = true) (c3 : bt p.f 1048575 = true) (c4 : p.s = true) (c5 : p.s' = true) (w : World) :
    Calls Try.prog 17 #[p.val] w fun e w' => e = .returned (lySV p) ∧ Below w.heap.size w w' := by
  have HX := Lib.hid hX
  have hdI : (65535 : Int) < p.d.size := by omega
  clear hX hd
  have H0 := Lib.hid (fun W => rbt_at p.c 255 c0 W)
  have H1 := Lib.hid (fun W => rbt_at p.n 255 c1 W)
  have H2 := Lib.hid (fun W => rbt_at p.h 255 c2 W)
  have H3 := Lib.hid (fun W => rbt_at p.f 1048575 c3 W)
  have K0 := Blk.new w 35 (scs p)
  have L0 := Lib.hid ((Below.refl _ w).alloc (Nat.le_refl _) (.cells (scs p) 35))
  have HK0 := Lib.hid K0
  obtain ⟨f0, f1, f2, f3, f4, f5, f6, f7, f8, f9, f10⟩ := K0.s11
  rw [c4] at f4
  rw [c5] at f7
  clear K0 c0 c1 c2 c3 c4 c5
  go_enter Try.func17, Try.ntmps17
  go_wp2_with fail
  refine Calls.mono (H0.out _) ?_
  rintro e w0 ⟨rfl, rfl⟩
  go_wp2_with fail
  refine Calls.mono (H1.out _) ?_
  rintro e w1 ⟨rfl, rfl⟩
  go_wp2_with fail
  refine Calls.mono (H2.out _) ?_
  rintro e w2 ⟨rfl, rfl⟩
  go_wp2_with fail
  refine Calls.mono (H3.out _) ?_
  rintro e w3 ⟨rfl, rfl⟩
  go_wp2
  go_ret2
  exact ⟨by unfold lySV; rw [HX.out]; rfl, L0.out⟩
set_option maxRecDepth 100000 in
set_option maxHeartbeats 8000000 in
theorem srl_7 (p : Sx) (h : RgS p) (hw : WfS p) (hX : lySR p = (lyB p, 0)) (hd : p.d.size ≤ 65535) (c0 : bt p.c 255 = true) (c1 : bt p.n 255 = true) (c2 : bt p.h 255 = true) (c3 : bt p.f 1048575 = true) (c4 : p.s = true) (c5 : p.s' = true) (w : World) :
    Calls Try.prog 17 #[p.val] w fun e w' => e = .returned (lySV p) ∧ Below w.heap.size w w' := by
  have H0 := Lib.hid (fun W => rbt_at p.c 255 c0 W)
  have H1 := Lib.hid (fun W => rbt_at p.n 255 c1 W)
  have H2 := Lib.hid (fun W => rbt_at p.h 255 c2 W)
  have H3 := Lib.hid (fun W => rbt_at p.f 1048575 c3 W)
  have hc := h.c
  have hf := h.f
  have hn := h.n
  have hh := h.h
  have hfb := fsN_bd h
  have hF0 : fsN p = 1610612736 + p.c * 1048576 + p.f := rfl
  have hH : hdS p = putOf 4 (fsN p) ++ putOf 2 (p.d.size : Int) ++ putOf 1 p.n ++ putOf 1 p.h ++ putOf 8 p.a ++ putOf 8 p.b ++ putOf 8 p.a' ++ putOf 8 p.b' := rfl
  obtain ⟨F, hF⟩ : ∃ F, fsN p = F := ⟨_, rfl⟩
  rw [hF] at hfb hF0 hH
  have hF1 : 1610612736 + p.c * 1048576 + p.f = F := hF0.symm
  obtain ⟨Z1, hZ1⟩ : ∃ Z, ([] : List Int) ++ putOf 4 F = Z := ⟨_, rfl⟩
  obtain ⟨Z2, hZ2⟩ : ∃ Z, Z1 ++ putOf 2 (p.d.size : Int) = Z := ⟨_, rfl⟩
  obtain ⟨Z3, hZ3⟩ : ∃ Z, Z2 ++ putOf 1 p.n = Z := ⟨_, rfl⟩
  obtain ⟨Z4, hZ4⟩ : ∃ Z, Z3 ++ putOf 1 p.h = Z := ⟨_, rfl⟩
  obtain ⟨Z5, hZ5⟩ : ∃ Z, Z4 ++ putOf 8 p.a = Z := ⟨_, rfl⟩
  obtain ⟨Z6, hZ6⟩ : ∃ Z, Z5 ++ putOf 8 p.b = Z := ⟨_, rfl⟩
  obtain ⟨Z7, hZ7⟩ : ∃ Z, Z6 ++ putOf 8 p.a' = Z := ⟨_, rfl⟩
  obtain ⟨Z8, hZ8⟩ : ∃ Z, Z7 ++ putOf 8 p.b' = Z := ⟨_, rfl⟩
  have hH2 : hdS p = Z8 := by rw [← hZ8, ← hZ7, ← hZ6, ← hZ5, ← hZ4, ← hZ3, ← hZ2, ← hZ1, hH]; simp
  have HP0 := Lib.hid (srput 4 0 4 (by decide) (by decide) F hfb.1 (by omega) (by decide) rfl hZ1)
  have HP1 := Lib.hid (srput 2 4 6 (by decide) (by decide) (p.d.size : Int) (by omega) (by omega) (by decide) rfl hZ2)
  have HP2 := Lib.hid (srput 1 6 7 (by decide) (by decide) p.n hn.1 (by omega) (by decide) rfl hZ3)
  have HP3 := Lib.hid (srput 1 7 8 (by decide) (by decide) p.h hh.1 (by omega) (by decide) rfl hZ4)
  have HP4 := Lib.hid (srput 8 8 16 (by decide) (by decide) p.a hw.a.1 hw.a.2 (by decide) rfl hZ5)
  have HP5 := Lib.hid (srput 8 16 24 (by decide) (by decide) p.b hw.b.1 hw.b.2 (by decide) rfl hZ6)
  have HP6 := Lib.hid (srput 8 24 32 (by decide) (by decide) p.a' hw.a'.1 hw.a'.2 (by decide) rfl hZ7)
  have HP7 := Lib.hid (srput 8 32 40 (by decide) (by decide) p.b' hw.b'.1 hw.b'.2 (by decide) rfl hZ8)
  have hwF : IntKind.u64.wrap F = F := by rw [IntKind.wrap_u64]; omega
  obtain ⟨SS, hSS⟩ : ∃ SS, strOfNums Z8 = SS := ⟨_, rfl⟩
  have hssz : SS.size ≤ 100 := by rw [← hSS, ← hH2, strOfNums_size, hdS_len]; decide
  have HX : Hid (lySR p = (SS ++ p.d, 0)) := Lib.hid (by rw [hX]; unfold lyB; rw [hH2, hSS])
  have HSS := Lib.hid hSS
  have hadd : ∀ W : World, (Op.stringOp .add SS p.d).run Try.prog W = .ok (.string (SS ++ p.d)) W := fun W => run_string_add_sum _ _ _ (by omega)
  have hdI : (p.d.size : Int) ≤ 65535 := by omega
  clear h hw hX hd hF0 hH hH2 hSS hF hssz hZ1 hZ2 hZ3 hZ4 hZ5 hZ6 hZ7 hZ8
  have K0 := Blk.new w 35 (scs p)
  have L0 := Lib.hid ((Below.refl _ w).alloc (Nat.le_refl _) (.cells (scs p) 35))
  have HK0 := Lib.hid K0
  obtain ⟨f0, f1, f2, f3, f4, f5, f6, f7, f8, f9, f10⟩ := K0.s11
  rw [c4] at f4
  rw [c5] at f7
  clear K0 c0 c1 c2 c3 c4 c5
  go_enter Try.func17, Try.ntmps17
  go_wp2_with fail
  refine Calls.mono (H0.out _) ?_
  rintro e w0 ⟨rfl, rfl⟩
  go_wp2_with fail
  refine Calls.mono (H1.out _) ?_
  rintro e w1 ⟨rfl, rfl⟩
  go_wp2_with fail
  refine Calls.mono (H2.out _) ?_
  rintro e w2 ⟨rfl, rfl⟩
  go_wp2_with fail
  refine Calls.mono (H3.out _) ?_
  rintro e w3 ⟨rfl, rfl⟩
  go_wp2_with fail
  refine Calls.mono (HP0.out _ none 0 RI.nil_ (fun _ => rfl)) ?_
  rintro e x1 ⟨A1, n1, rfl, hr, hA1, hb⟩
  have R1 := Lib.hid hr
  have HK1 := Lib.hid (HK0.out.below hb HK0.out.lt)
  have L1 := Lib.hid (L0.out.trans (hb.mono L0.out.size))
  clear hr hb f0 f1 f2 f3 f4 f5 f6 f7 f8 f9 f10
  obtain ⟨f0, f1, f2, f3, f4, f5, f6, f7, f8, f9, f10⟩ := HK1.out.s11
  go_wp2_with fail
  refine Calls.mono (HP1.out _ _ _ R1.out hA1) ?_
  rintro e x2 ⟨A2, n2, rfl, hr, hA2, hb⟩
  have R2 := Lib.hid hr
  have HK2 := Lib.hid (HK1.out.below hb HK1.out.lt)
  have L2 := Lib.hid (L1.out.trans (hb.mono L1.out.size))
  clear hr hb f0 f1 f2 f3 f4 f5 f6 f7 f8 f9 f10
  obtain ⟨f0, f1, f2, f3, f4, f5, f6, f7, f8, f9, f10⟩ := HK2.out.s11
  go_wp2_with fail
  refine Calls.mono (HP2.out _ _ _ R2.out hA2) ?_
  rintro e x3 ⟨A3, n3, rfl, hr, hA3, hb⟩
  have R3 := Lib.hid hr
  have HK3 := Lib.hid (HK2.out.below hb HK2.out.lt)
  have L3 := Lib.hid (L2.out.trans (hb.mono L2.out.size))
  clear hr hb f0 f1 f2 f3 f4 f5 f6 f7 f8 f9 f10
  obtain ⟨f0, f1, f2, f3, f4, f5, f6, f7, f8, f9, f10⟩ := HK3.out.s11
  go_wp2_with fail
  refine Calls.mono (HP3.out _ _ _ R3.out hA3) ?_
  rintro e x4 ⟨A4, n4, rfl, hr, hA4, hb⟩
  have R4 := Lib.hid hr
  have HK4 := Lib.hid (HK3.out.below hb HK3.out.lt)
  have L4 := Lib.hid (L3.out.trans (hb.mono L3.out.size))
  clear hr hb f0 f1 f2 f3 f4 f5 f6 f7 f8 f9 f10
  obtain ⟨f0, f1, f2, f3, f4, f5, f6, f7, f8, f9, f10⟩ := HK4.out.s11
  go_wp2_with fail
  refine Calls.mono (HP4.out _ _ _ R4.out hA4) ?_
  rintro e x5 ⟨A5, n5, rfl, hr, hA5, hb⟩
  have R5 := Lib.hid hr
  have HK5 := Lib.hid (HK4.out.below hb HK4.out.lt)
  have L5 := Lib.hid (L4.out.trans (hb.mono L4.out.size))
  clear hr hb f0 f1 f2 f3 f4 f5 f6 f7 f8 f9 f10
  obtain ⟨f0, f1, f2, f3, f4, f5, f6, f7, f8, f9, f10⟩ := HK5.out.s11
  go_wp2_with fail
  refine Calls.mono (HP5.out _ _ _ R5.out hA5) ?_
  rintro e x6 ⟨A6, n6, rfl, hr, hA6, hb⟩
  have R6 := Lib.hid hr
  have HK6 := Lib.hid (HK5.out.below hb HK5.out.lt)
  have L6 := Lib.hid (L5.out.trans (hb.mono L5.out.size))
  clear hr hb f0 f1 f2 f3 f4 f5 f6 f7 f8 f9 f10
  obtain ⟨f0, f1, f2, f3, f4, f5, f6, f7, f8, f9, f10⟩ := HK6.out.s11
  go_wp2_with fail
  refine Calls.mono (HP6.out _ _ _ R6.out hA6) ?_
  rintro e x7 ⟨A7, n7, rfl, hr, hA7, hb⟩
  have R7 := Lib.hid hr
  have HK7 := Lib.hid (HK6.out.below hb HK6.out.lt)
  have L7 := Lib.hid (L6.out.trans (hb.mono L6.out.size))
  clear hr hb f0 f1 f2 f3 f4 f5 f6 f7 f8 f9 f10
  obtain ⟨f0, f1, f2, f3, f4, f5, f6, f7, f8, f9, f10⟩ := HK7.out.s11
  go_wp2_with fail
  refine Calls.mono (HP7.out _ _ _ R7.out hA7) ?_
  rintro e x8 ⟨A8, n8, rfl, hr, hA8, hb⟩
  have R8 := Lib.hid hr
  have HK8 := Lib.hid (HK7.out.below hb HK7.out.lt)
  have L8 := Lib.hid (L7.out.trans (hb.mono L7.out.size))
  clear hr hb f0 f1 f2 f3 f4 f5 f6 f7 f8 f9 f10
  obtain ⟨f0, f1, f2, f3, f4, f5, f6, f7, f8, f9, f10⟩ := HK8.out.s11
  have hcv := conv_str (c := n8) R8.out
  rw [HSS.out] at hcv
  go_wp2
  go_ret2
  exact ⟨by unfold lySV; rw [HX.out]; rfl, L8.out⟩
theorem srlay_any (p : Sx) (hw : WfS p) (w : World) :
    Calls Try.prog 17 #[p.val] w fun e w' => e = .returned (lySV p) ∧ Below w.heap.size w w' := by
  have E : rgSB p = (bt p.c 255 && bt p.f 1048575 && bt p.n 255 && bt p.h 255 && p.s && p.s') := rfl
  rcases Bool.eq_false_or_eq_true (bt p.c 255) with c0 | c0
  rotate_left
  · exact srl_0 p (lyS_no (by rw [E]; simp [c0])) c0 w
  rcases Bool.eq_false_or_eq_true (bt p.n 255) with c1 | c1
  rotate_left
  · exact srl_1 p (lyS_no (by rw [E]; simp [c0, c1])) c0 c1 w
  rcases Bool.eq_false_or_eq_true (bt p.h 255) with c2 | c2
  rotate_left
  · exact srl_2 p (lyS_no (by rw [E]; simp [c0, c1, c2])) c0 c1 c2 w
  rcases Bool.eq_false_or_eq_true (bt p.f 1048575) with c3 | c3
  rotate_left
  · exact srl_3 p (lyS_no (by rw [E]; simp [c0, c1, c2, c3])) c0 c1 c2 c3 w
  rcases Bool.eq_false_or_eq_true (p.s) with c4 | c4
  rotate_left
  · exact srl_4 p (lyS_no (by rw [E]; simp [c0, c1, c2, c3, c4])) c0 c1 c2 c3 c4 w
  rcases Bool.eq_false_or_eq_true (p.s') with c5 | c5
  rotate_left
  · exact srl_5 p (lyS_no (by rw [E]; simp [c0, c1, c2, c3, c4, c5])) c0 c1 c2 c3 c4 c5 w
  have hr : rgSB p = true := by rw [E]; simp [c0, c1, c2, c3, c4, c5]
  by_cases hd : 65535 < p.d.size
  · exact srl_6 p (lyS_long hr hd) hd c0 c1 c2 c3 c4 c5 w
  · exact srl_7 p (rgS_iff.1 hr) hw (lyS_ok hr (by omega)) (by omega) c0 c1 c2 c3 c4 c5 w
end Go.Proofs.Ytbhddodghbhjiaa
