/-
  addr.Class of any address.
-/
import Derived.Test.YtlbkphnbpenbcaaEMac
import Derived.Test.YtlbkphnbpenbcaaGroups
import Derived.Test.YtlbkphnbpenbcaaEq
namespace Go.Proofs.Ytlbkphnbpenbcaa
open Go.RowKit
set_option linter.unusedVariables false

theorem wfu16 {z : Int} (h : 0 ≤ z ∧ z ≤ 65535) : (Lit.int .u16 z).wf = true := by
  simp [Lit.wf, IntKind.min, IntKind.max, IntKind.bits, IntKind.signed]; omega
theorem eq_grs (h l : Int) (k : Int) (hk : 0 ≤ k ∧ k ≤ 65535) {b : Bool} (hb : decide ([gr h 0, gr h 1, gr h 2, gr h 3, gr l 0, gr l 1, gr l 2, gr l 3] = [0, 0, 0, 0, 0, 0, 0, k]) = b) (W : World) :
    (Op.equalIn 10000 106 (grs h l) (.agg #[.int .u16 0, .int .u16 0, .int .u16 0, .int .u16 0, .int .u16 0, .int .u16 0, .int .u16 0, .int .u16 k])).run Try.prog W = .ok b W :=
  eq_ints (n := 8) Try.underlying106 Try.underlying104 (by kernel_rfl) (by kernel_rfl) (by kernel_rfl) [gr h 0, gr h 1, gr h 2, gr h 3, gr l 0, gr l 1, gr l 2, gr l 3] [0, 0, 0, 0, 0, 0, 0, k] rfl rfl
    (fun z hz => by
      simp only [List.mem_cons, List.not_mem_nil, or_false] at hz
      rcases hz with rfl | rfl | rfl | rfl | rfl | rfl | rfl | rfl <;> exact wfu16 (gr_bd _ _))
    (fun z hz => by
      simp only [List.mem_cons, List.not_mem_nil, or_false] at hz
      rcases hz with rfl | rfl | rfl | rfl | rfl | rfl | rfl | rfl <;> first | exact wfu16 hk | exact wfu16 (by decide)) hb W
theorem grs_eq (h l k : Int) (hh : U6 h) (hl : U6 l) (hk : 0 ≤ k ∧ k ≤ 65535) : [gr h 0, gr h 1, gr h 2, gr h 3, gr l 0, gr l 1, gr l 2, gr l 3] = [0, 0, 0, 0, 0, 0, 0, k] ↔ h = 0 ∧ l = k := by
  obtain ⟨h0, h1⟩ := hh
  obtain ⟨l0, l1⟩ := hl
  simp only [List.cons.injEq, and_true, ← gr_0, ← gr_1, ← gr_2, ← gr_3]
  omega

set_option maxRecDepth 100000 in
set_option maxHeartbeats 2000000 in
theorem classSix_any (h l : Int) (hh : U6 h) (hl : U6 l) (w : World) :
    Calls Try.prog 62 #[grs h l] w fun e w' => e = .returned (.int .i64 (clsV true h l)) ∧ Below w.heap.size w w' := by
  have e0 := grs_eq h l 0 hh hl (by decide)
  have e1 := grs_eq h l 1 hh hl (by decide)
  obtain ⟨V, hV⟩ : ∃ V, clsV true h l = V := ⟨_, rfl⟩
  have hV2 : V = (if h = 0 ∧ l = 0 then 0 else if h = 0 ∧ l = 1 then 1 else if h / 18014398509481984 = 1018 then 2 else if h / 72057594037927936 = 255 then 3 else 5) := by rw [← hV]; simp [clsV]
  rw [hV]
  have HV := Lib.hid hV2
  have d6 : gr h 0 / 64 = h / 18014398509481984 := by rw [← gr_0]; have := hh.2; have := hh.1; omega
  have d8 : gr h 0 / 256 = h / 72057594037927936 := by rw [← gr_0]; have := hh.2; have := hh.1; omega
  have hg := gr_bd h 0
  by_cases c0 : h = 0 ∧ l = 0
  · have q1 : ∀ W : World, _ := fun W => eq_grs h l 0 (by decide) (b := true) (by simpa using e0.2 c0) W
    have HX : Hid (V = 0) := Lib.hid (by rw [HV.out, if_pos c0])
    clear hV hV2 HV e0 e1 d6 d8 c0
    go_enter Try.func62, Try.ntmps62
    go_wp2
    go_ret
    exact ⟨ret_k HX.out.symm, (Below.refl _ _).alloc (Nat.le_refl _) _⟩
  · have q1 : ∀ W : World, _ := fun W => eq_grs h l 0 (by decide) (b := false) (by simpa using fun x => c0 (e0.1 x)) W
    by_cases c1 : h = 0 ∧ l = 1
    · have q2 : ∀ W : World, _ := fun W => eq_grs h l 1 (by decide) (b := true) (by simpa using e1.2 c1) W
      have HX : Hid (V = 1) := Lib.hid (by rw [HV.out, if_neg c0, if_pos c1])
      clear hV hV2 HV e0 e1 d6 d8 c0 c1
      go_enter Try.func62, Try.ntmps62
      go_wp2
      go_ret
      exact ⟨ret_k HX.out.symm, (Below.refl _ _).alloc (Nat.le_refl _) _⟩
    · have q2 : ∀ W : World, _ := fun W => eq_grs h l 1 (by decide) (b := false) (by simpa using fun x => c1 (e1.1 x)) W
      by_cases c2 : gr h 0 / 64 = 1018
      · have HX : Hid (V = 2) := Lib.hid (by rw [HV.out, if_neg c0, if_neg c1, ← d6, if_pos c2])
        clear hV hV2 HV e0 e1 d6 d8 c0 c1
        go_enter Try.func62, Try.ntmps62
        go_wp2
        go_ret
        exact ⟨ret_k HX.out.symm, (Below.refl _ _).alloc (Nat.le_refl _) _⟩
      · by_cases c3 : gr h 0 / 256 = 255
        · have HX : Hid (V = 3) := Lib.hid (by rw [HV.out, if_neg c0, if_neg c1, ← d6, if_neg c2, ← d8, if_pos c3])
          clear hV hV2 HV e0 e1 d6 d8 c0 c1
          go_enter Try.func62, Try.ntmps62
          go_wp2
          go_ret
          exact ⟨ret_k HX.out.symm, (Below.refl _ _).alloc (Nat.le_refl _) _⟩
        · have HX : Hid (V = 5) := Lib.hid (by rw [HV.out, if_neg c0, if_neg c1, ← d6, if_neg c2, ← d8, if_neg c3])
          clear hV hV2 HV e0 e1 d6 d8 c0 c1
          go_enter Try.func62, Try.ntmps62
          go_wp2
          go_ret
          exact ⟨ret_k HX.out.symm, (Below.refl _ _).alloc (Nat.le_refl _) _⟩

set_option maxRecDepth 100000 in
set_option maxHeartbeats 2000000 in
theorem classFour_any (l : Int) (h0 : 0 ≤ l) (h1 : l ≤ 4294967295) (w : World) :
    Calls Try.prog 64 #[adr false 0 l] w fun e w' => e = .returned (.int .i64 (clsV false 0 l)) ∧ Below w.heap.size w w' := by
  obtain ⟨V, hV⟩ : ∃ V, clsV false 0 l = V := ⟨_, rfl⟩
  have hV2 : V = (if l = 0 then 0 else if l / 16777216 = 127 then 1 else if l / 65536 = 43518 then 2 else if l = 4294967295 then 4 else if l / 268435456 = 14 then 3 else 5) := by rw [← hV]; simp [clsV, h1]
  rw [hV]
  have HV := Lib.hid hV2
  clear hV hV2
  by_cases c0 : l = 0
  · have HX : Hid (V = 0) := Lib.hid (by rw [HV.out, if_pos c0])
    clear HV
    go_enter Try.func64, Try.ntmps64
    go_wp2
    go_ret
    exact ⟨ret_k HX.out.symm, (Below.refl _ _).alloc (Nat.le_refl _) _⟩
  · by_cases c1 : l / 16777216 = 127
    · have HX : Hid (V = 1) := Lib.hid (by rw [HV.out, if_neg c0, if_pos c1])
      clear HV
      go_enter Try.func64, Try.ntmps64
      go_wp2
      go_ret
      exact ⟨ret_k HX.out.symm, (Below.refl _ _).alloc (Nat.le_refl _) _⟩
    · by_cases c2 : l / 65536 = 43518
      · have HX : Hid (V = 2) := Lib.hid (by rw [HV.out, if_neg c0, if_neg c1, if_pos c2])
        clear HV
        go_enter Try.func64, Try.ntmps64
        go_wp2
        go_ret
        exact ⟨ret_k HX.out.symm, (Below.refl _ _).alloc (Nat.le_refl _) _⟩
      · by_cases c3 : l = 4294967295
        · have HX : Hid (V = 4) := Lib.hid (by rw [HV.out, if_neg c0, if_neg c1, if_neg c2, if_pos c3])
          clear HV
          go_enter Try.func64, Try.ntmps64
          go_wp2
          go_ret
          exact ⟨ret_k HX.out.symm, (Below.refl _ _).alloc (Nat.le_refl _) _⟩
        · by_cases c4 : l / 268435456 = 14
          · have HX : Hid (V = 3) := Lib.hid (by rw [HV.out, if_neg c0, if_neg c1, if_neg c2, if_neg c3, if_pos c4])
            clear HV
            go_enter Try.func64, Try.ntmps64
            go_wp2
            go_ret
            exact ⟨ret_k HX.out.symm, (Below.refl _ _).alloc (Nat.le_refl _) _⟩
          · have HX : Hid (V = 5) := Lib.hid (by rw [HV.out, if_neg c0, if_neg c1, if_neg c2, if_neg c3, if_neg c4])
            clear HV
            go_enter Try.func64, Try.ntmps64
            go_wp2
            go_ret
            exact ⟨ret_k HX.out.symm, (Below.refl _ _).alloc (Nat.le_refl _) _⟩

theorem cls_no {s : Bool} {h l : Int} (e : vld s h l = false) : clsV s h l = -1 := by
  unfold clsV
  rw [if_pos (show (s || (decide (h = 0) && decide (l ≤ 4294967295))) = false from e)]
set_option maxRecDepth 100000 in
set_option maxHeartbeats 2000000 in
theorem class_any (s : Bool) (h l : Int) (hh : U6 h) (hl : U6 l) (w : World) :
    Calls Try.prog 51 #[adr s h l] w fun e w' => e = .returned (.int .i64 (clsV s h l)) ∧ Below w.heap.size w w' := by
  obtain ⟨V, hV⟩ : ∃ V, vld s h l = V := ⟨_, rfl⟩
  have H1 := Lib.hid (fun W => valid_at s h l W hV)
  cases V
  · have HX := Lib.hid (cls_no hV)
    clear hV
    go_enter Try.func51, Try.ntmps51
    go_wp2_with fail
    refine Calls.mono (H1.out _) ?_
    rintro e w1 ⟨rfl, hb⟩
    have L1 := ((Below.refl _ w).alloc (Nat.le_refl _) _).trans (hb.mono (by simp only [World.size_alloc]; omega))
    clear hb
    go_wp2
    go_ret
    exact ⟨ret_k (by rw [HX.out]), L1⟩
  · cases s
    · obtain ⟨rfl, h4⟩ := vld_four hV
      have H3 := Lib.hid (fun W => classFour_any l hl.1 h4 W)
      clear hV hh hl h4
      go_enter Try.func51, Try.ntmps51
      go_wp2_with fail
      refine Calls.mono (H1.out _) ?_
      rintro e w1 ⟨rfl, hb⟩
      have R1 := Lib.hid ((Blk.new w 30 _).below hb (by simp only [World.size_alloc]; omega))
      have L1 := Lib.hid (((Below.refl _ w).alloc (Nat.le_refl _) _).trans (hb.mono (by simp only [World.size_alloc]; omega)))
      obtain ⟨g1, g2, g3⟩ := R1.out.c3
      clear hb
      go_wp2_with fail
      refine Calls.mono (H3.out _) ?_
      rintro e w2 ⟨rfl, hb⟩
      have L2 := L1.out.trans (hb.mono L1.out.size)
      clear hb g1 g2 g3
      go_wp2
      go_ret
      exact ⟨rfl, L2⟩
    · have H2 := Lib.hid (fun W => groups_any true h l hh hl W)
      have H3 := Lib.hid (fun W => classSix_any h l hh hl W)
      clear hV hh hl
      go_enter Try.func51, Try.ntmps51
      go_wp2_with fail
      refine Calls.mono (H1.out _) ?_
      rintro e w1 ⟨rfl, hb⟩
      have R1 := Lib.hid ((Blk.new w 30 _).below hb (by simp only [World.size_alloc]; omega))
      have L1 := Lib.hid (((Below.refl _ w).alloc (Nat.le_refl _) _).trans (hb.mono (by simp only [World.size_alloc]; omega)))
      obtain ⟨g1, g2, g3⟩ := R1.out.c3
      clear hb
      go_wp2_with fail
      refine Calls.mono (H2.out _) ?_
      rintro e w2 ⟨rfl, hb⟩
      have L2 := Lib.hid (L1.out.trans (hb.mono L1.out.size))
      clear hb g1 g2 g3
      go_wp2_with fail
      refine Calls.mono (H3.out _) ?_
      rintro e w3 ⟨rfl, hb⟩
      have L3 := L2.out.trans (hb.mono L2.out.size)
      clear hb
      go_wp2
      go_ret
      exact ⟨rfl, L3⟩
theorem class_at (s : Bool) (h l : Int) (hh : U6 h) (hl : U6 l) {v : Int} (hv : clsV s h l = v) (w : World) :
    Calls Try.prog 51 #[adr s h l] w fun e w' => e = .returned (.int .i64 v) ∧ Below w.heap.size w w' := by
  subst hv; exact class_any s h l hh hl w
end Go.Proofs.Ytlbkphnbpenbcaa
