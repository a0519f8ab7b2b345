/-
  Several texts in one: PRCo.
-/
import Derived.Test.YtgfkmgbcajdcdaaGreatDoorKbb
import Derived.Deep.RegionHeld3
import Derived.BigGuard
import Derived.StillTailTactics
namespace Go.Proofs.YtgfkmgbcajdcdaaGreatDoor
open Go.RowKit
set_option linter.unusedVariables false

set_option maxRecDepth 100000 in
set_option maxHeartbeats 4000000 in
theorem rcom_n1 (s : Bool) (h l : Nat) (s' : Bool) (h' l' : Nat) (v : vld s h l = false) (w : World) :
    Calls Tryz.prog 113 #[adr s h l, adr s' h' l'] w fun e w' => e = .returned (.int .i64 (-1)) ∧ Below w.heap.size w w' := by
  obtain ⟨V1, hV1⟩ : ∃ V, vld s h l = V := ⟨_, rfl⟩
  obtain ⟨V2, hV2⟩ : ∃ V, vld s' h' l' = V := ⟨_, rfl⟩
  have H1 := Lib.hid (fun w => rvalid_at s h l w hV1)
  have H2 := Lib.hid (fun w => rvalid_at s' h' l' w hV2)
  rw [v] at hV1
  subst hV1
  clear v hV2
  go_enter Tryz.func113, Tryz.ntmps113
  go_wp2_with fail
  refine Calls.mono (H1.out _) ?_
  rintro e w1 ⟨rfl, hb⟩
  have K1 := Lib.hid ((Blk.new w 28 #[.bool s, .int .u64 h, .int .u64 l]).alloc (.cells #[.bool s', .int .u64 h', .int .u64 l'] 28) |>.below hb (by simp only [World.size_alloc]; omega))
  have Q1 := Lib.hid ((Blk.new (w.alloc (.cells #[.bool s, .int .u64 h, .int .u64 l] 28)) 28 #[.bool s', .int .u64 h', .int .u64 l']).below hb (by simp only [World.size_alloc]; omega))
  rw [World.size_alloc] at Q1
  have L1 := Lib.hid ((((Below.refl _ w).alloc (Nat.le_refl _) _).alloc (by simp) _).trans (hb.mono (by simp only [World.size_alloc]; omega)))
  have s1 : w.heap.size + 1 < w1.heap.size := by have := hb.size; simp only [World.size_alloc] at this; omega
  clear hb
  obtain ⟨f0, f1, f2⟩ := K1.out.c3
  obtain ⟨g0, g1, g2⟩ := Q1.out.c3
  go_wp2_with fail
  refine Calls.mono (H2.out _) ?_
  rintro e w2 ⟨rfl, hb⟩
  clear f0 f1 f2 g0 g1 g2
  have K2 := Lib.hid (K1.out.below hb K1.out.lt)
  have Q2 := Lib.hid (Q1.out.below hb Q1.out.lt)
  have L2 := Lib.hid (L1.out.trans (hb.mono L1.out.size))
  have s2 : w.heap.size + 1 < w2.heap.size := by have := hb.size; omega
  clear hb
  obtain ⟨f0, f1, f2⟩ := K2.out.c3
  obtain ⟨g0, g1, g2⟩ := Q2.out.c3
  clear f0 f1 f2 g0 g1 g2
  go_wp2
  go_ret
  exact ⟨rfl, L2.out⟩

set_option maxRecDepth 100000 in
set_option maxHeartbeats 4000000 in
theorem rcom_n2 (s : Bool) (h l : Nat) (s' : Bool) (h' l' : Nat) (v : vld s h l = true) (v' : vld s' h' l' = false) (w : World) :
    Calls Tryz.prog 113 #[adr s h l, adr s' h' l'] w fun e w' => e = .returned (.int .i64 (-1)) ∧ Below w.heap.size w w' := by
  obtain ⟨V1, hV1⟩ : ∃ V, vld s h l = V := ⟨_, rfl⟩
  obtain ⟨V2, hV2⟩ : ∃ V, vld s' h' l' = V := ⟨_, rfl⟩
  have H1 := Lib.hid (fun w => rvalid_at s h l w hV1)
  have H2 := Lib.hid (fun w => rvalid_at s' h' l' w hV2)
  rw [v] at hV1
  rw [v'] at hV2
  subst hV1 hV2
  clear v v'
  go_enter Tryz.func113, Tryz.ntmps113
  go_wp2_with fail
  refine Calls.mono (H1.out _) ?_
  rintro e w1 ⟨rfl, hb⟩
  have K1 := Lib.hid ((Blk.new w 28 #[.bool s, .int .u64 h, .int .u64 l]).alloc (.cells #[.bool s', .int .u64 h', .int .u64 l'] 28) |>.below hb (by simp only [World.size_alloc]; omega))
  have Q1 := Lib.hid ((Blk.new (w.alloc (.cells #[.bool s, .int .u64 h, .int .u64 l] 28)) 28 #[.bool s', .int .u64 h', .int .u64 l']).below hb (by simp only [World.size_alloc]; omega))
  rw [World.size_alloc] at Q1
  have L1 := Lib.hid ((((Below.refl _ w).alloc (Nat.le_refl _) _).alloc (by simp) _).trans (hb.mono (by simp only [World.size_alloc]; omega)))
  have s1 : w.heap.size + 1 < w1.heap.size := by have := hb.size; simp only [World.size_alloc] at this; omega
  clear hb
  obtain ⟨f0, f1, f2⟩ := K1.out.c3
  obtain ⟨g0, g1, g2⟩ := Q1.out.c3
  go_wp2_with fail
  refine Calls.mono (H2.out _) ?_
  rintro e w2 ⟨rfl, hb⟩
  clear f0 f1 f2 g0 g1 g2
  have K2 := Lib.hid (K1.out.below hb K1.out.lt)
  have Q2 := Lib.hid (Q1.out.below hb Q1.out.lt)
  have L2 := Lib.hid (L1.out.trans (hb.mono L1.out.size))
  have s2 : w.heap.size + 1 < w2.heap.size := by have := hb.size; omega
  clear hb
  obtain ⟨f0, f1, f2⟩ := K2.out.c3
  obtain ⟨g0, g1, g2⟩ := Q2.out.c3
  clear f0 f1 f2 g0 g1 g2
  go_wp2
  go_ret
  exact ⟨rfl, L2.out⟩

set_option maxRecDepth 100000 in
set_option maxHeartbeats 4000000 in
theorem rcom_n3 (s : Bool) (h l : Nat) (s' : Bool) (h' l' : Nat) (v : vld s h l = true) (v' : vld s' h' l' = true) (ne : ¬ s = s') (w : World) :
    Calls Tryz.prog 113 #[adr s h l, adr s' h' l'] w fun e w' => e = .returned (.int .i64 (-1)) ∧ Below w.heap.size w w' := by
  obtain ⟨V1, hV1⟩ : ∃ V, vld s h l = V := ⟨_, rfl⟩
  obtain ⟨V2, hV2⟩ : ∃ V, vld s' h' l' = V := ⟨_, rfl⟩
  have H1 := Lib.hid (fun w => rvalid_at s h l w hV1)
  have H2 := Lib.hid (fun w => rvalid_at s' h' l' w hV2)
  rw [v] at hV1
  rw [v'] at hV2
  subst hV1 hV2
  clear v v'
  cases s <;> cases s'
  · exact absurd rfl ne
  · skip
    go_enter Tryz.func113, Tryz.ntmps113
    go_wp2_with fail
    refine Calls.mono (H1.out _) ?_
    rintro e w1 ⟨rfl, hb⟩
    have K1 := Lib.hid ((Blk.new w 28 #[.bool false, .int .u64 h, .int .u64 l]).alloc (.cells #[.bool true, .int .u64 h', .int .u64 l'] 28) |>.below hb (by simp only [World.size_alloc]; omega))
    have Q1 := Lib.hid ((Blk.new (w.alloc (.cells #[.bool false, .int .u64 h, .int .u64 l] 28)) 28 #[.bool true, .int .u64 h', .int .u64 l']).below hb (by simp only [World.size_alloc]; omega))
    rw [World.size_alloc] at Q1
    have L1 := Lib.hid ((((Below.refl _ w).alloc (Nat.le_refl _) _).alloc (by simp) _).trans (hb.mono (by simp only [World.size_alloc]; omega)))
    have s1 : w.heap.size + 1 < w1.heap.size := by have := hb.size; simp only [World.size_alloc] at this; omega
    clear hb
    obtain ⟨f0, f1, f2⟩ := K1.out.c3
    obtain ⟨g0, g1, g2⟩ := Q1.out.c3
    go_wp2_with fail
    refine Calls.mono (H2.out _) ?_
    rintro e w2 ⟨rfl, hb⟩
    clear f0 f1 f2 g0 g1 g2
    have K2 := Lib.hid (K1.out.below hb K1.out.lt)
    have Q2 := Lib.hid (Q1.out.below hb Q1.out.lt)
    have L2 := Lib.hid (L1.out.trans (hb.mono L1.out.size))
    have s2 : w.heap.size + 1 < w2.heap.size := by have := hb.size; omega
    clear hb
    obtain ⟨f0, f1, f2⟩ := K2.out.c3
    obtain ⟨g0, g1, g2⟩ := Q2.out.c3
    go_wp2
    go_ret
    exact ⟨rfl, L2.out⟩
  · skip
    go_enter Tryz.func113, Tryz.ntmps113
    go_wp2_with fail
    refine Calls.mono (H1.out _) ?_
    rintro e w1 ⟨rfl, hb⟩
    have K1 := Lib.hid ((Blk.new w 28 #[.bool true, .int .u64 h, .int .u64 l]).alloc (.cells #[.bool false, .int .u64 h', .int .u64 l'] 28) |>.below hb (by simp only [World.size_alloc]; omega))
    have Q1 := Lib.hid ((Blk.new (w.alloc (.cells #[.bool true, .int .u64 h, .int .u64 l] 28)) 28 #[.bool false, .int .u64 h', .int .u64 l']).below hb (by simp only [World.size_alloc]; omega))
    rw [World.size_alloc] at Q1
    have L1 := Lib.hid ((((Below.refl _ w).alloc (Nat.le_refl _) _).alloc (by simp) _).trans (hb.mono (by simp only [World.size_alloc]; omega)))
    have s1 : w.heap.size + 1 < w1.heap.size := by have := hb.size; simp only [World.size_alloc] at this; omega
    clear hb
    obtain ⟨f0, f1, f2⟩ := K1.out.c3
    obtain ⟨g0, g1, g2⟩ := Q1.out.c3
    go_wp2_with fail
    refine Calls.mono (H2.out _) ?_
    rintro e w2 ⟨rfl, hb⟩
    clear f0 f1 f2 g0 g1 g2
    have K2 := Lib.hid (K1.out.below hb K1.out.lt)
    have Q2 := Lib.hid (Q1.out.below hb Q1.out.lt)
    have L2 := Lib.hid (L1.out.trans (hb.mono L1.out.size))
    have s2 : w.heap.size + 1 < w2.heap.size := by have := hb.size; omega
    clear hb
    obtain ⟨f0, f1, f2⟩ := K2.out.c3
    obtain ⟨g0, g1, g2⟩ := Q2.out.c3
    go_wp2
    go_ret
    exact ⟨rfl, L2.out⟩
  · exact absurd rfl ne

theorem com_step (n m W k : Nat) (hk : k < W) : (bt n W k = bt m W k → cmn (W - k) n m = cmn (W - (k + 1)) n m + 1) ∧ (¬ bt n W k = bt m W k → cmn (W - k) n m = 0) := by
  have e : W - k = (W - (k + 1)) + 1 := by omega
  rw [e, cmn_succ]
  unfold bt
  rw [show W - 1 - k = W - (k + 1) by omega]
  exact ⟨fun h => if_pos h, fun h => if_neg h⟩

set_option maxRecDepth 100000 in
set_option maxHeartbeats 4000000 in
theorem rcom_yes (s : Bool) (h l h' l' : Nat) (hh : N64 h) (hl : N64 l) (hh' : N64 h') (hl' : N64 l') (v : vld s h l = true) (v' : vld s h' l' = true) (w : World) :
    Calls Tryz.prog 113 #[adr s h l, adr s h' l'] w fun e w' => e = .returned (.int .i64 (comV s h l s h' l')) ∧ Below w.heap.size w w' := by
  have H1 := Lib.hid (fun w => rvalid_at s h l w v)
  have H2 := Lib.hid (fun w => rvalid_at s h' l' w v')
  obtain ⟨W, hW⟩ : ∃ W, (wd s : Int) = W := ⟨_, rfl⟩
  have HW := Lib.hid (fun w => rwidth_at s h l W hW w)
  have HWd := Lib.hid hW
  have W1 : W ≤ 128 := by rw [← hW]; unfold wd; split <;> omega
  obtain ⟨R, hR⟩ : ∃ R, comV s h l s h' l' = R := ⟨_, rfl⟩
  have HR : Hid ((cmn (wd s) (nm h l) (nm h' l') : Int) = R) := Lib.hid (by rw [← hR]; unfold comV; rw [if_pos ⟨v, v', rfl⟩])
  rw [hR]
  have hh := Lib.hid hh
  have hl := Lib.hid hl
  have hh' := Lib.hid hh'
  have hl' := Lib.hid hl'
  have v := Lib.hid v
  have v' := Lib.hid v'
  clear hW hR
  go_enter Tryz.func113, Tryz.ntmps113
  go_wp2_with fail
  refine Calls.mono (H1.out _) ?_
  rintro e w1 ⟨rfl, hb⟩
  have K1 := Lib.hid ((Blk.new w 28 #[.bool s, .int .u64 h, .int .u64 l]).alloc (.cells #[.bool s, .int .u64 h', .int .u64 l'] 28) |>.below hb (by simp only [World.size_alloc]; omega))
  have Q1 := Lib.hid ((Blk.new (w.alloc (.cells #[.bool s, .int .u64 h, .int .u64 l] 28)) 28 #[.bool s, .int .u64 h', .int .u64 l']).below hb (by simp only [World.size_alloc]; omega))
  rw [World.size_alloc] at Q1
  have L1 := Lib.hid ((((Below.refl _ w).alloc (Nat.le_refl _) _).alloc (by simp) _).trans (hb.mono (by simp only [World.size_alloc]; omega)))
  have s1 : w.heap.size + 1 < w1.heap.size := by have := hb.size; simp only [World.size_alloc] at this; omega
  clear hb
  obtain ⟨f0, f1, f2⟩ := K1.out.c3
  obtain ⟨g0, g1, g2⟩ := Q1.out.c3
  go_wp2_with fail
  refine Calls.mono (H2.out _) ?_
  rintro e w2 ⟨rfl, hb⟩
  clear f0 f1 f2 g0 g1 g2
  have K2 := Lib.hid (K1.out.below hb K1.out.lt)
  have Q2 := Lib.hid (Q1.out.below hb Q1.out.lt)
  have L2 := Lib.hid (L1.out.trans (hb.mono L1.out.size))
  have s2 : w.heap.size + 1 < w2.heap.size := by have := hb.size; omega
  clear hb
  obtain ⟨f0, f1, f2⟩ := K2.out.c3
  obtain ⟨g0, g1, g2⟩ := Q2.out.c3
  go_wp2
  clear f0 f1 f2 g0 g1 g2
  go_loopw [7] (fun n wr => ∃ k : Nat, k ≤ wd s ∧ n = .int .i64 (k : Int) ∧ Blk wr w.heap.size 28 #[.bool s, .int .u64 h, .int .u64 l] ∧ Blk wr (w.heap.size + 1) 28 #[.bool s, .int .u64 h', .int .u64 l'] ∧ Below w.heap.size w wr ∧ cmn (wd s) (nm h l) (nm h' l') = k + cmn (wd s - k) (nm h l) (nm h' l')) (fun n _ => (wd s - intOf n).toNat)
  case atStart => exact ⟨0, by omega, rfl, K2.out, Q2.out, L2.out, by simp⟩
  case round =>
    obtain ⟨k, hk, rfl, hkk, hqq, hbel, hcm⟩ := hrel
    have HK := Lib.hid hkk
    have HQ := Lib.hid hqq
    have HL := Lib.hid hbel
    have HCM := Lib.hid hcm
    have kW : (k : Int) ≤ W := by have := HWd.out; omega
    have k0 : (0 : Int) ≤ k := by omega
    clear hkk hqq hbel hcm
    by_cases hlt : k < wd s
    · have gd : decide ((k : Int) < W) = true := by have := HWd.out; simp; omega
      obtain ⟨b1, hb1⟩ : ∃ b, bt (nm h l) (wd s) k = b := ⟨_, rfl⟩
      obtain ⟨b2, hb2⟩ : ∃ b, bt (nm h' l') (wd s) k = b := ⟨_, rfl⟩
      have HB1 := Lib.hid (fun w => rbit_any s h l k hh.out hl.out v.out hlt hb1 w)
      have HB2 := Lib.hid (fun w => rbit_any s h' l' k hh'.out hl'.out v'.out hlt hb2 w)
      have HS := Lib.hid (com_step (nm h l) (nm h' l') (wd s) k hlt)
      by_cases hbb : b1 = b2
      · have HS2 := Lib.hid (HS.out.1 (by rw [hb1, hb2]; exact hbb))
        have gb : ((b1 : Int) == (b2 : Int)) = true := by simp [hbb]
        clear HS hb1 hb2 hbb hlt
        have HC : Hid (∀ W', Below wr.heap.size wr W' → W'.cell? ⟨w.heap.size, 0, none⟩ = some (.bool s) ∧ W'.cell? ⟨w.heap.size, 1, none⟩ = some (.int .u64 h) ∧ W'.cell? ⟨w.heap.size, 2, none⟩ = some (.int .u64 l) ∧ W'.cell? ⟨w.heap.size + 1, 0, none⟩ = some (.bool s) ∧ W'.cell? ⟨w.heap.size + 1, 1, none⟩ = some (.int .u64 h') ∧ W'.cell? ⟨w.heap.size + 1, 2, none⟩ = some (.int .u64 l')) := by
          show ∀ W', _ → _
          intro W' hB
          obtain ⟨a0, a1, a2⟩ := (HK.out.below hB HK.out.lt).c3
          obtain ⟨b0, b1, b2⟩ := (HQ.out.below hB HQ.out.lt).c3
          exact ⟨a0, a1, a2, b0, b1, b2⟩
        have hR : Below wr.heap.size wr wr.drew := (Below.refl _ _).drew
        go_wp2
        refine wp_region_held_drew (S := (fun w' => w'.cell? ⟨w.heap.size, 0, none⟩ = some (.bool s) ∧ w'.cell? ⟨w.heap.size, 1, none⟩ = some (.int .u64 h) ∧ w'.cell? ⟨w.heap.size, 2, none⟩ = some (.int .u64 l) ∧ w'.cell? ⟨w.heap.size + 1, 0, none⟩ = some (.bool s) ∧ w'.cell? ⟨w.heap.size + 1, 1, none⟩ = some (.int .u64 h') ∧ w'.cell? ⟨w.heap.size + 1, 2, none⟩ = some (.int .u64 l'))) (by kernel_rfl) ?_ (fun hHeld => ?_)
        · exact HC.out _ hR
        refine wpAnyH_take (i := 0) (oi := { dst := some 25, op := Go.Op.move (Go.Operand.tmp 7), type := 3, pos := "ref.go:76", after := #[], guard := none }) (v := ?_) rfl (by kernel_rfl) (by kernel_rfl) (by kernel_rfl) (fun _ _ _ h => h) (Or.inl ⟨by rfl, ?_⟩) (by assumption) ?_
        rotate_left
        · intro w hSw
          (try dsimp only at hSw)
          go_simp
          try (with_reducible rfl)
        try simp only [Act.put, List.setIfInBounds_toArray, List.set_cons_zero, List.set_cons_succ]
        refine wpAnyH_take (i := 1) (oi := { dst := some 26, op := Go.Op.load 28 (Go.Operand.tmp 2), type := 28, pos := "ref.go:76", after := #[], guard := none }) (v := ?_) rfl (by kernel_rfl) (by kernel_rfl) (by kernel_rfl) (fun _ _ _ h => h) (Or.inl ⟨by rfl, ?_⟩) (by assumption) ?_
        rotate_left
        · intro w hSw
          (try dsimp only at hSw)
          go_simp
          try (with_reducible rfl)
        try simp only [Act.put, List.setIfInBounds_toArray, List.set_cons_zero, List.set_cons_succ]
        refine wpAnyH_ready (rs := [2]) (by kernel_rfl) (by simp) ?_
        refine AllReadyH.cons (o := { dst := some 27, op := Go.Op.call { callee := Go.Callee.value (Go.Operand.func 103), args := #[Go.Operand.tmp 26], argTypes := #[28] }, type := 3, pos := "ref.go:76", after := #[{ on := 1, ground := Go.Ground.data }], guard := none }) rfl (fun K hK => ?_) AllReadyH.nil
        go_simp
        (go_at_call 103; (with_reducible refine Calls.mono (HW.out _) ?_); rintro e W' ⟨rfl, hb⟩; replace hR := hR.trans (hb.mono hR.size); clear hb)
        go_wp2_with fail
        refine hK.out _ _ ?_ (fun hHeld => ?_)
        · exact HC.out _ hR
        clear hK K
        try simp only [Act.put, List.setIfInBounds_toArray, List.set_cons_zero, List.set_cons_succ]
        refine wpAnyH_take (i := 3) (oi := { dst := some 28, op := Go.Op.binOp Go.BinOp.lss 3 (Go.Operand.tmp 25) (Go.Operand.tmp 27) 3, type := 4, pos := "ref.go:76", after := #[{ on := 0, ground := Go.Ground.data }, { on := 2, ground := Go.Ground.data }], guard := none }) (v := ?_) rfl (by kernel_rfl) (by kernel_rfl) (by kernel_rfl) (fun _ _ _ h => h) (Or.inl ⟨by rfl, ?_⟩) (by assumption) ?_
        rotate_left
        · intro w hSw
          (try dsimp only at hSw)
          go_simp
          try (with_reducible rfl)
        try simp only [Act.put, List.setIfInBounds_toArray, List.set_cons_zero, List.set_cons_succ]
        refine wpAnyH_take (i := 4) (oi := { dst := some 29, op := Go.Op.move (Go.Operand.tmp 28), type := 4, pos := "ref.go:76", after := #[{ on := 3, ground := Go.Ground.data }, { on := 2, ground := Go.Ground.chain }], guard := none }) (v := ?_) rfl (by kernel_rfl) (by kernel_rfl) (by kernel_rfl) (fun _ _ _ h => h) (Or.inl ⟨by rfl, ?_⟩) (by assumption) ?_
        rotate_left
        · intro w hSw
          (try dsimp only at hSw)
          go_simp
          try (with_reducible rfl)
        try simp only [Act.put, List.setIfInBounds_toArray, List.set_cons_zero, List.set_cons_succ]
        refine wpAnyH_take (i := 5) (oi := { dst := some 30, op := Go.Op.load 28 (Go.Operand.tmp 2), type := 28, pos := "ref.go:76", after := #[{ on := 4, ground := Go.Ground.guard }], guard := some (4, true) }) (v := ?_) rfl (by kernel_rfl) (by kernel_rfl) (by kernel_rfl) (fun _ _ _ h => h) (Or.inl ⟨by rfl, ?_⟩) (by assumption) ?_
        rotate_left
        · intro w hSw
          (try dsimp only at hSw)
          go_simp
          try (with_reducible rfl)
        try simp only [Act.put, List.setIfInBounds_toArray, List.set_cons_zero, List.set_cons_succ]
        refine wpAnyH_take (i := 6) (oi := { dst := some 31, op := Go.Op.move (Go.Operand.tmp 7), type := 3, pos := "ref.go:76", after := #[{ on := 4, ground := Go.Ground.guard }], guard := some (4, true) }) (v := ?_) rfl (by kernel_rfl) (by kernel_rfl) (by kernel_rfl) (fun _ _ _ h => h) (Or.inl ⟨by rfl, ?_⟩) (by assumption) ?_
        rotate_left
        · intro w hSw
          (try dsimp only at hSw)
          go_simp
          try (with_reducible rfl)
        try simp only [Act.put, List.setIfInBounds_toArray, List.set_cons_zero, List.set_cons_succ]
        refine wpAnyH_take (i := 8) (oi := { dst := some 33, op := Go.Op.load 28 (Go.Operand.tmp 3), type := 28, pos := "ref.go:76", after := #[{ on := 4, ground := Go.Ground.guard }], guard := some (4, true) }) (v := ?_) rfl (by kernel_rfl) (by kernel_rfl) (by kernel_rfl) (fun _ _ _ h => h) (Or.inl ⟨by rfl, ?_⟩) (by assumption) ?_
        rotate_left
        · intro w hSw
          (try dsimp only at hSw)
          go_simp
          try (with_reducible rfl)
        try simp only [Act.put, List.setIfInBounds_toArray, List.set_cons_zero, List.set_cons_succ]
        refine wpAnyH_take (i := 9) (oi := { dst := some 34, op := Go.Op.move (Go.Operand.tmp 7), type := 3, pos := "ref.go:76", after := #[{ on := 4, ground := Go.Ground.guard }], guard := some (4, true) }) (v := ?_) rfl (by kernel_rfl) (by kernel_rfl) (by kernel_rfl) (fun _ _ _ h => h) (Or.inl ⟨by rfl, ?_⟩) (by assumption) ?_
        rotate_left
        · intro w hSw
          (try dsimp only at hSw)
          go_simp
          try (with_reducible rfl)
        try simp only [Act.put, List.setIfInBounds_toArray, List.set_cons_zero, List.set_cons_succ]
        refine wpAnyH_ready (rs := [7]) (by kernel_rfl) (by simp) ?_
        refine AllReadyH.cons (o := { dst := some 32, op := Go.Op.call { callee := Go.Callee.value (Go.Operand.func 141), args := #[Go.Operand.tmp 30, Go.Operand.tmp 31], argTypes := #[28, 3] }, type := 3, pos := "ref.go:76", after := #[{ on := 5, ground := Go.Ground.data }, { on := 6, ground := Go.Ground.data }, { on := 4, ground := Go.Ground.chain }, { on := 4, ground := Go.Ground.guard }], guard := some (4, true) }) rfl (fun K hK => ?_) AllReadyH.nil
        go_simp
        (go_at_call 141; (with_reducible refine Calls.mono (HB1.out _) ?_); rintro e W' ⟨rfl, hb⟩; replace hR := hR.trans (hb.mono hR.size); clear hb)
        go_wp2_with fail
        refine hK.out _ _ ?_ (fun hHeld => ?_)
        · exact HC.out _ hR
        clear hK K
        try simp only [Act.put, List.setIfInBounds_toArray, List.set_cons_zero, List.set_cons_succ]
        refine wpAnyH_ready (rs := [10]) (by kernel_rfl) (by simp) ?_
        refine AllReadyH.cons (o := { dst := some 35, op := Go.Op.call { callee := Go.Callee.value (Go.Operand.func 141), args := #[Go.Operand.tmp 33, Go.Operand.tmp 34], argTypes := #[28, 3] }, type := 3, pos := "ref.go:76", after := #[{ on := 8, ground := Go.Ground.data }, { on := 9, ground := Go.Ground.data }, { on := 7, ground := Go.Ground.chain }, { on := 4, ground := Go.Ground.guard }], guard := some (4, true) }) rfl (fun K hK => ?_) AllReadyH.nil
        go_simp
        (go_at_call 141; (with_reducible refine Calls.mono (HB2.out _) ?_); rintro e W' ⟨rfl, hb⟩; replace hR := hR.trans (hb.mono hR.size); clear hb)
        go_wp2_with fail
        refine hK.out _ _ ?_ (fun hHeld => ?_)
        · exact HC.out _ hR
        clear hK K
        try simp only [Act.put, List.setIfInBounds_toArray, List.set_cons_zero, List.set_cons_succ]
        refine wpAnyH_take (i := 11) (oi := { dst := some 36, op := Go.Op.binOp Go.BinOp.eql 3 (Go.Operand.tmp 32) (Go.Operand.tmp 35) 3, type := 4, pos := "ref.go:76", after := #[{ on := 7, ground := Go.Ground.data }, { on := 10, ground := Go.Ground.data }, { on := 4, ground := Go.Ground.guard }], guard := some (4, true) }) (v := ?_) rfl (by kernel_rfl) (by kernel_rfl) (by kernel_rfl) (fun _ _ _ h => h) (Or.inl ⟨by rfl, ?_⟩) (by assumption) ?_
        rotate_left
        · intro w hSw
          (try dsimp only at hSw)
          go_simp
          try (with_reducible rfl)
        try simp only [Act.put, List.setIfInBounds_toArray, List.set_cons_zero, List.set_cons_succ]
        refine wpAnyH_take (i := 12) (oi := { dst := some 37, op := Go.Op.pick (Go.Operand.tmp 29) (Go.Operand.tmp 36) (Go.Operand.const (Go.Value.bool false)), type := 4, pos := "ref.go:76", after := #[{ on := 4, ground := Go.Ground.data }, { on := 11, ground := Go.Ground.data }], guard := none }) (v := ?_) rfl (by kernel_rfl) (by kernel_rfl) (by kernel_rfl) (fun _ _ _ h => h) (Or.inl ⟨by rfl, ?_⟩) (by assumption) ?_
        rotate_left
        · intro w hSw
          (try dsimp only at hSw)
          go_simp
          try (with_reducible rfl)
        try simp only [Act.put, List.setIfInBounds_toArray, List.set_cons_zero, List.set_cons_succ]
        refine wpAnyH_done (by kernel_rfl) ?_ _
        have L5 := Lib.hid (HL.out.trans (hR.mono HL.out.size))
        have K5 := Lib.hid (HK.out.below hR HK.out.lt)
        have Q5 := Lib.hid (HQ.out.below hR HQ.out.lt)
        have lt5 : k < wd s := by have := HWd.out; simp at gd; omega
        clear hR gb gd
        go_wp2
        go_roundw
        case rel => exact ⟨k + 1, by omega, by go_num, K5.out, Q5.out, L5.out, by have := HCM.out; have := HS2.out; omega⟩
        case measure => simp [intOf]; omega
      · have HS2 := Lib.hid (HS.out.2 (by rw [hb1, hb2]; exact hbb))
        have gb : ((b1 : Int) == (b2 : Int)) = false := by simp; omega
        clear HS hb1 hb2 hlt
        have HC : Hid (∀ W', Below wr.heap.size wr W' → W'.cell? ⟨w.heap.size, 0, none⟩ = some (.bool s) ∧ W'.cell? ⟨w.heap.size, 1, none⟩ = some (.int .u64 h) ∧ W'.cell? ⟨w.heap.size, 2, none⟩ = some (.int .u64 l) ∧ W'.cell? ⟨w.heap.size + 1, 0, none⟩ = some (.bool s) ∧ W'.cell? ⟨w.heap.size + 1, 1, none⟩ = some (.int .u64 h') ∧ W'.cell? ⟨w.heap.size + 1, 2, none⟩ = some (.int .u64 l')) := by
          show ∀ W', _ → _
          intro W' hB
          obtain ⟨a0, a1, a2⟩ := (HK.out.below hB HK.out.lt).c3
          obtain ⟨b0, b1, b2⟩ := (HQ.out.below hB HQ.out.lt).c3
          exact ⟨a0, a1, a2, b0, b1, b2⟩
        have hR : Below wr.heap.size wr wr.drew := (Below.refl _ _).drew
        go_wp2
        refine wp_region_held_drew (S := (fun w' => w'.cell? ⟨w.heap.size, 0, none⟩ = some (.bool s) ∧ w'.cell? ⟨w.heap.size, 1, none⟩ = some (.int .u64 h) ∧ w'.cell? ⟨w.heap.size, 2, none⟩ = some (.int .u64 l) ∧ w'.cell? ⟨w.heap.size + 1, 0, none⟩ = some (.bool s) ∧ w'.cell? ⟨w.heap.size + 1, 1, none⟩ = some (.int .u64 h') ∧ w'.cell? ⟨w.heap.size + 1, 2, none⟩ = some (.int .u64 l'))) (by kernel_rfl) ?_ (fun hHeld => ?_)
        · exact HC.out _ hR
        refine wpAnyH_take (i := 0) (oi := { dst := some 25, op := Go.Op.move (Go.Operand.tmp 7), type := 3, pos := "ref.go:76", after := #[], guard := none }) (v := ?_) rfl (by kernel_rfl) (by kernel_rfl) (by kernel_rfl) (fun _ _ _ h => h) (Or.inl ⟨by rfl, ?_⟩) (by assumption) ?_
        rotate_left
        · intro w hSw
          (try dsimp only at hSw)
          go_simp
          try (with_reducible rfl)
        try simp only [Act.put, List.setIfInBounds_toArray, List.set_cons_zero, List.set_cons_succ]
        refine wpAnyH_take (i := 1) (oi := { dst := some 26, op := Go.Op.load 28 (Go.Operand.tmp 2), type := 28, pos := "ref.go:76", after := #[], guard := none }) (v := ?_) rfl (by kernel_rfl) (by kernel_rfl) (by kernel_rfl) (fun _ _ _ h => h) (Or.inl ⟨by rfl, ?_⟩) (by assumption) ?_
        rotate_left
        · intro w hSw
          (try dsimp only at hSw)
          go_simp
          try (with_reducible rfl)
        try simp only [Act.put, List.setIfInBounds_toArray, List.set_cons_zero, List.set_cons_succ]
        refine wpAnyH_ready (rs := [2]) (by kernel_rfl) (by simp) ?_
        refine AllReadyH.cons (o := { dst := some 27, op := Go.Op.call { callee := Go.Callee.value (Go.Operand.func 103), args := #[Go.Operand.tmp 26], argTypes := #[28] }, type := 3, pos := "ref.go:76", after := #[{ on := 1, ground := Go.Ground.data }], guard := none }) rfl (fun K hK => ?_) AllReadyH.nil
        go_simp
        (go_at_call 103; (with_reducible refine Calls.mono (HW.out _) ?_); rintro e W' ⟨rfl, hb⟩; replace hR := hR.trans (hb.mono hR.size); clear hb)
        go_wp2_with fail
        refine hK.out _ _ ?_ (fun hHeld => ?_)
        · exact HC.out _ hR
        clear hK K
        try simp only [Act.put, List.setIfInBounds_toArray, List.set_cons_zero, List.set_cons_succ]
        refine wpAnyH_take (i := 3) (oi := { dst := some 28, op := Go.Op.binOp Go.BinOp.lss 3 (Go.Operand.tmp 25) (Go.Operand.tmp 27) 3, type := 4, pos := "ref.go:76", after := #[{ on := 0, ground := Go.Ground.data }, { on := 2, ground := Go.Ground.data }], guard := none }) (v := ?_) rfl (by kernel_rfl) (by kernel_rfl) (by kernel_rfl) (fun _ _ _ h => h) (Or.inl ⟨by rfl, ?_⟩) (by assumption) ?_
        rotate_left
        · intro w hSw
          (try dsimp only at hSw)
          go_simp
          try (with_reducible rfl)
        try simp only [Act.put, List.setIfInBounds_toArray, List.set_cons_zero, List.set_cons_succ]
        refine wpAnyH_take (i := 4) (oi := { dst := some 29, op := Go.Op.move (Go.Operand.tmp 28), type := 4, pos := "ref.go:76", after := #[{ on := 3, ground := Go.Ground.data }, { on := 2, ground := Go.Ground.chain }], guard := none }) (v := ?_) rfl (by kernel_rfl) (by kernel_rfl) (by kernel_rfl) (fun _ _ _ h => h) (Or.inl ⟨by rfl, ?_⟩) (by assumption) ?_
        rotate_left
        · intro w hSw
          (try dsimp only at hSw)
          go_simp
          try (with_reducible rfl)
        try simp only [Act.put, List.setIfInBounds_toArray, List.set_cons_zero, List.set_cons_succ]
        refine wpAnyH_take (i := 5) (oi := { dst := some 30, op := Go.Op.load 28 (Go.Operand.tmp 2), type := 28, pos := "ref.go:76", after := #[{ on := 4, ground := Go.Ground.guard }], guard := some (4, true) }) (v := ?_) rfl (by kernel_rfl) (by kernel_rfl) (by kernel_rfl) (fun _ _ _ h => h) (Or.inl ⟨by rfl, ?_⟩) (by assumption) ?_
        rotate_left
        · intro w hSw
          (try dsimp only at hSw)
          go_simp
          try (with_reducible rfl)
        try simp only [Act.put, List.setIfInBounds_toArray, List.set_cons_zero, List.set_cons_succ]
        refine wpAnyH_take (i := 6) (oi := { dst := some 31, op := Go.Op.move (Go.Operand.tmp 7), type := 3, pos := "ref.go:76", after := #[{ on := 4, ground := Go.Ground.guard }], guard := some (4, true) }) (v := ?_) rfl (by kernel_rfl) (by kernel_rfl) (by kernel_rfl) (fun _ _ _ h => h) (Or.inl ⟨by rfl, ?_⟩) (by assumption) ?_
        rotate_left
        · intro w hSw
          (try dsimp only at hSw)
          go_simp
          try (with_reducible rfl)
        try simp only [Act.put, List.setIfInBounds_toArray, List.set_cons_zero, List.set_cons_succ]
        refine wpAnyH_take (i := 8) (oi := { dst := some 33, op := Go.Op.load 28 (Go.Operand.tmp 3), type := 28, pos := "ref.go:76", after := #[{ on := 4, ground := Go.Ground.guard }], guard := some (4, true) }) (v := ?_) rfl (by kernel_rfl) (by kernel_rfl) (by kernel_rfl) (fun _ _ _ h => h) (Or.inl ⟨by rfl, ?_⟩) (by assumption) ?_
        rotate_left
        · intro w hSw
          (try dsimp only at hSw)
          go_simp
          try (with_reducible rfl)
        try simp only [Act.put, List.setIfInBounds_toArray, List.set_cons_zero, List.set_cons_succ]
        refine wpAnyH_take (i := 9) (oi := { dst := some 34, op := Go.Op.move (Go.Operand.tmp 7), type := 3, pos := "ref.go:76", after := #[{ on := 4, ground := Go.Ground.guard }], guard := some (4, true) }) (v := ?_) rfl (by kernel_rfl) (by kernel_rfl) (by kernel_rfl) (fun _ _ _ h => h) (Or.inl ⟨by rfl, ?_⟩) (by assumption) ?_
        rotate_left
        · intro w hSw
          (try dsimp only at hSw)
          go_simp
          try (with_reducible rfl)
        try simp only [Act.put, List.setIfInBounds_toArray, List.set_cons_zero, List.set_cons_succ]
        refine wpAnyH_ready (rs := [7]) (by kernel_rfl) (by simp) ?_
        refine AllReadyH.cons (o := { dst := some 32, op := Go.Op.call { callee := Go.Callee.value (Go.Operand.func 141), args := #[Go.Operand.tmp 30, Go.Operand.tmp 31], argTypes := #[28, 3] }, type := 3, pos := "ref.go:76", after := #[{ on := 5, ground := Go.Ground.data }, { on := 6, ground := Go.Ground.data }, { on := 4, ground := Go.Ground.chain }, { on := 4, ground := Go.Ground.guard }], guard := some (4, true) }) rfl (fun K hK => ?_) AllReadyH.nil
        go_simp
        (go_at_call 141; (with_reducible refine Calls.mono (HB1.out _) ?_); rintro e W' ⟨rfl, hb⟩; replace hR := hR.trans (hb.mono hR.size); clear hb)
        go_wp2_with fail
        refine hK.out _ _ ?_ (fun hHeld => ?_)
        · exact HC.out _ hR
        clear hK K
        try simp only [Act.put, List.setIfInBounds_toArray, List.set_cons_zero, List.set_cons_succ]
        refine wpAnyH_ready (rs := [10]) (by kernel_rfl) (by simp) ?_
        refine AllReadyH.cons (o := { dst := some 35, op := Go.Op.call { callee := Go.Callee.value (Go.Operand.func 141), args := #[Go.Operand.tmp 33, Go.Operand.tmp 34], argTypes := #[28, 3] }, type := 3, pos := "ref.go:76", after := #[{ on := 8, ground := Go.Ground.data }, { on := 9, ground := Go.Ground.data }, { on := 7, ground := Go.Ground.chain }, { on := 4, ground := Go.Ground.guard }], guard := some (4, true) }) rfl (fun K hK => ?_) AllReadyH.nil
        go_simp
        (go_at_call 141; (with_reducible refine Calls.mono (HB2.out _) ?_); rintro e W' ⟨rfl, hb⟩; replace hR := hR.trans (hb.mono hR.size); clear hb)
        go_wp2_with fail
        refine hK.out _ _ ?_ (fun hHeld => ?_)
        · exact HC.out _ hR
        clear hK K
        try simp only [Act.put, List.setIfInBounds_toArray, List.set_cons_zero, List.set_cons_succ]
        refine wpAnyH_take (i := 11) (oi := { dst := some 36, op := Go.Op.binOp Go.BinOp.eql 3 (Go.Operand.tmp 32) (Go.Operand.tmp 35) 3, type := 4, pos := "ref.go:76", after := #[{ on := 7, ground := Go.Ground.data }, { on := 10, ground := Go.Ground.data }, { on := 4, ground := Go.Ground.guard }], guard := some (4, true) }) (v := ?_) rfl (by kernel_rfl) (by kernel_rfl) (by kernel_rfl) (fun _ _ _ h => h) (Or.inl ⟨by rfl, ?_⟩) (by assumption) ?_
        rotate_left
        · intro w hSw
          (try dsimp only at hSw)
          go_simp
          try (with_reducible rfl)
        try simp only [Act.put, List.setIfInBounds_toArray, List.set_cons_zero, List.set_cons_succ]
        refine wpAnyH_take (i := 12) (oi := { dst := some 37, op := Go.Op.pick (Go.Operand.tmp 29) (Go.Operand.tmp 36) (Go.Operand.const (Go.Value.bool false)), type := 4, pos := "ref.go:76", after := #[{ on := 4, ground := Go.Ground.data }, { on := 11, ground := Go.Ground.data }], guard := none }) (v := ?_) rfl (by kernel_rfl) (by kernel_rfl) (by kernel_rfl) (fun _ _ _ h => h) (Or.inl ⟨by rfl, ?_⟩) (by assumption) ?_
        rotate_left
        · intro w hSw
          (try dsimp only at hSw)
          go_simp
          try (with_reducible rfl)
        try simp only [Act.put, List.setIfInBounds_toArray, List.set_cons_zero, List.set_cons_succ]
        refine wpAnyH_done (by kernel_rfl) ?_ _
        have L5 := Lib.hid (HL.out.trans (hR.mono HL.out.size))
        clear hR gb gd
        go_wp2
        go_ret
        exact ⟨ret_i64 (by rw [← HR.out]; have := HCM.out; have := HS2.out; omega), L5.out⟩
    · have gd : decide ((k : Int) < W) = false := by have := HWd.out; simp; omega
      have ek : k = wd s := by omega
      have EK := Lib.hid ek
      clear ek hlt
      have HC : Hid (∀ W', Below wr.heap.size wr W' → W'.cell? ⟨w.heap.size, 0, none⟩ = some (.bool s) ∧ W'.cell? ⟨w.heap.size, 1, none⟩ = some (.int .u64 h) ∧ W'.cell? ⟨w.heap.size, 2, none⟩ = some (.int .u64 l) ∧ W'.cell? ⟨w.heap.size + 1, 0, none⟩ = some (.bool s) ∧ W'.cell? ⟨w.heap.size + 1, 1, none⟩ = some (.int .u64 h') ∧ W'.cell? ⟨w.heap.size + 1, 2, none⟩ = some (.int .u64 l')) := by
        show ∀ W', _ → _
        intro W' hB
        obtain ⟨a0, a1, a2⟩ := (HK.out.below hB HK.out.lt).c3
        obtain ⟨b0, b1, b2⟩ := (HQ.out.below hB HQ.out.lt).c3
        exact ⟨a0, a1, a2, b0, b1, b2⟩
      have hR : Below wr.heap.size wr wr.drew := (Below.refl _ _).drew
      go_wp2
      refine wp_region_held_drew (S := (fun w' => w'.cell? ⟨w.heap.size, 0, none⟩ = some (.bool s) ∧ w'.cell? ⟨w.heap.size, 1, none⟩ = some (.int .u64 h) ∧ w'.cell? ⟨w.heap.size, 2, none⟩ = some (.int .u64 l) ∧ w'.cell? ⟨w.heap.size + 1, 0, none⟩ = some (.bool s) ∧ w'.cell? ⟨w.heap.size + 1, 1, none⟩ = some (.int .u64 h') ∧ w'.cell? ⟨w.heap.size + 1, 2, none⟩ = some (.int .u64 l'))) (by kernel_rfl) ?_ (fun hHeld => ?_)
      · exact HC.out _ hR
      refine wpAnyH_take (i := 0) (oi := { dst := some 25, op := Go.Op.move (Go.Operand.tmp 7), type := 3, pos := "ref.go:76", after := #[], guard := none }) (v := ?_) rfl (by kernel_rfl) (by kernel_rfl) (by kernel_rfl) (fun _ _ _ h => h) (Or.inl ⟨by rfl, ?_⟩) (by assumption) ?_
      rotate_left
      · intro w hSw
        (try dsimp only at hSw)
        go_simp
        try (with_reducible rfl)
      try simp only [Act.put, List.setIfInBounds_toArray, List.set_cons_zero, List.set_cons_succ]
      refine wpAnyH_take (i := 1) (oi := { dst := some 26, op := Go.Op.load 28 (Go.Operand.tmp 2), type := 28, pos := "ref.go:76", after := #[], guard := none }) (v := ?_) rfl (by kernel_rfl) (by kernel_rfl) (by kernel_rfl) (fun _ _ _ h => h) (Or.inl ⟨by rfl, ?_⟩) (by assumption) ?_
      rotate_left
      · intro w hSw
        (try dsimp only at hSw)
        go_simp
        try (with_reducible rfl)
      try simp only [Act.put, List.setIfInBounds_toArray, List.set_cons_zero, List.set_cons_succ]
      refine wpAnyH_ready (rs := [2]) (by kernel_rfl) (by simp) ?_
      refine AllReadyH.cons (o := { dst := some 27, op := Go.Op.call { callee := Go.Callee.value (Go.Operand.func 103), args := #[Go.Operand.tmp 26], argTypes := #[28] }, type := 3, pos := "ref.go:76", after := #[{ on := 1, ground := Go.Ground.data }], guard := none }) rfl (fun K hK => ?_) AllReadyH.nil
      go_simp
      (go_at_call 103; (with_reducible refine Calls.mono (HW.out _) ?_); rintro e W' ⟨rfl, hb⟩; replace hR := hR.trans (hb.mono hR.size); clear hb)
      go_wp2_with fail
      refine hK.out _ _ ?_ (fun hHeld => ?_)
      · exact HC.out _ hR
      clear hK K
      try simp only [Act.put, List.setIfInBounds_toArray, List.set_cons_zero, List.set_cons_succ]
      refine wpAnyH_take (i := 3) (oi := { dst := some 28, op := Go.Op.binOp Go.BinOp.lss 3 (Go.Operand.tmp 25) (Go.Operand.tmp 27) 3, type := 4, pos := "ref.go:76", after := #[{ on := 0, ground := Go.Ground.data }, { on := 2, ground := Go.Ground.data }], guard := none }) (v := ?_) rfl (by kernel_rfl) (by kernel_rfl) (by kernel_rfl) (fun _ _ _ h => h) (Or.inl ⟨by rfl, ?_⟩) (by assumption) ?_
      rotate_left
      · intro w hSw
        (try dsimp only at hSw)
        go_simp
        try (with_reducible rfl)
      try simp only [Act.put, List.setIfInBounds_toArray, List.set_cons_zero, List.set_cons_succ]
      refine wpAnyH_take (i := 4) (oi := { dst := some 29, op := Go.Op.move (Go.Operand.tmp 28), type := 4, pos := "ref.go:76", after := #[{ on := 3, ground := Go.Ground.data }, { on := 2, ground := Go.Ground.chain }], guard := none }) (v := ?_) rfl (by kernel_rfl) (by kernel_rfl) (by kernel_rfl) (fun _ _ _ h => h) (Or.inl ⟨by rfl, ?_⟩) (by assumption) ?_
      rotate_left
      · intro w hSw
        (try dsimp only at hSw)
        go_simp
        try (with_reducible rfl)
      try simp only [Act.put, List.setIfInBounds_toArray, List.set_cons_zero, List.set_cons_succ]
      refine wpAnyH_take (i := 5) (oi := { dst := some 30, op := Go.Op.load 28 (Go.Operand.tmp 2), type := 28, pos := "ref.go:76", after := #[{ on := 4, ground := Go.Ground.guard }], guard := some (4, true) }) (v := undef) rfl (by kernel_rfl) (by kernel_rfl) (by kernel_rfl) (fun _ _ _ h => h) (Or.inr ⟨by rfl, rfl⟩) (by assumption) ?_
      try simp only [Act.put, List.setIfInBounds_toArray, List.set_cons_zero, List.set_cons_succ]
      refine wpAnyH_take (i := 6) (oi := { dst := some 31, op := Go.Op.move (Go.Operand.tmp 7), type := 3, pos := "ref.go:76", after := #[{ on := 4, ground := Go.Ground.guard }], guard := some (4, true) }) (v := undef) rfl (by kernel_rfl) (by kernel_rfl) (by kernel_rfl) (fun _ _ _ h => h) (Or.inr ⟨by rfl, rfl⟩) (by assumption) ?_
      try simp only [Act.put, List.setIfInBounds_toArray, List.set_cons_zero, List.set_cons_succ]
      refine wpAnyH_take (i := 7) (oi := { dst := some 32, op := Go.Op.call { callee := Go.Callee.value (Go.Operand.func 141), args := #[Go.Operand.tmp 30, Go.Operand.tmp 31], argTypes := #[28, 3] }, type := 3, pos := "ref.go:76", after := #[{ on := 5, ground := Go.Ground.data }, { on := 6, ground := Go.Ground.data }, { on := 4, ground := Go.Ground.chain }, { on := 4, ground := Go.Ground.guard }], guard := some (4, true) }) (v := undef) rfl (by kernel_rfl) (by kernel_rfl) (by kernel_rfl) (fun _ _ _ h => h) (Or.inr ⟨by rfl, rfl⟩) (by assumption) ?_
      try simp only [Act.put, List.setIfInBounds_toArray, List.set_cons_zero, List.set_cons_succ]
      refine wpAnyH_take (i := 8) (oi := { dst := some 33, op := Go.Op.load 28 (Go.Operand.tmp 3), type := 28, pos := "ref.go:76", after := #[{ on := 4, ground := Go.Ground.guard }], guard := some (4, true) }) (v := undef) rfl (by kernel_rfl) (by kernel_rfl) (by kernel_rfl) (fun _ _ _ h => h) (Or.inr ⟨by rfl, rfl⟩) (by assumption) ?_
      try simp only [Act.put, List.setIfInBounds_toArray, List.set_cons_zero, List.set_cons_succ]
      refine wpAnyH_take (i := 9) (oi := { dst := some 34, op := Go.Op.move (Go.Operand.tmp 7), type := 3, pos := "ref.go:76", after := #[{ on := 4, ground := Go.Ground.guard }], guard := some (4, true) }) (v := undef) rfl (by kernel_rfl) (by kernel_rfl) (by kernel_rfl) (fun _ _ _ h => h) (Or.inr ⟨by rfl, rfl⟩) (by assumption) ?_
      try simp only [Act.put, List.setIfInBounds_toArray, List.set_cons_zero, List.set_cons_succ]
      refine wpAnyH_take (i := 10) (oi := { dst := some 35, op := Go.Op.call { callee := Go.Callee.value (Go.Operand.func 141), args := #[Go.Operand.tmp 33, Go.Operand.tmp 34], argTypes := #[28, 3] }, type := 3, pos := "ref.go:76", after := #[{ on := 8, ground := Go.Ground.data }, { on := 9, ground := Go.Ground.data }, { on := 7, ground := Go.Ground.chain }, { on := 4, ground := Go.Ground.guard }], guard := some (4, true) }) (v := undef) rfl (by kernel_rfl) (by kernel_rfl) (by kernel_rfl) (fun _ _ _ h => h) (Or.inr ⟨by rfl, rfl⟩) (by assumption) ?_
      try simp only [Act.put, List.setIfInBounds_toArray, List.set_cons_zero, List.set_cons_succ]
      refine wpAnyH_take (i := 11) (oi := { dst := some 36, op := Go.Op.binOp Go.BinOp.eql 3 (Go.Operand.tmp 32) (Go.Operand.tmp 35) 3, type := 4, pos := "ref.go:76", after := #[{ on := 7, ground := Go.Ground.data }, { on := 10, ground := Go.Ground.data }, { on := 4, ground := Go.Ground.guard }], guard := some (4, true) }) (v := undef) rfl (by kernel_rfl) (by kernel_rfl) (by kernel_rfl) (fun _ _ _ h => h) (Or.inr ⟨by rfl, rfl⟩) (by assumption) ?_
      try simp only [Act.put, List.setIfInBounds_toArray, List.set_cons_zero, List.set_cons_succ]
      refine wpAnyH_take (i := 12) (oi := { dst := some 37, op := Go.Op.pick (Go.Operand.tmp 29) (Go.Operand.tmp 36) (Go.Operand.const (Go.Value.bool false)), type := 4, pos := "ref.go:76", after := #[{ on := 4, ground := Go.Ground.data }, { on := 11, ground := Go.Ground.data }], guard := none }) (v := ?_) rfl (by kernel_rfl) (by kernel_rfl) (by kernel_rfl) (fun _ _ _ h => h) (Or.inl ⟨by rfl, ?_⟩) (by assumption) ?_
      rotate_left
      · intro w hSw
        (try dsimp only at hSw)
        go_simp
        try (with_reducible rfl)
      try simp only [Act.put, List.setIfInBounds_toArray, List.set_cons_zero, List.set_cons_succ]
      refine wpAnyH_done (by kernel_rfl) ?_ _
      have L5 := Lib.hid (HL.out.trans (hR.mono HL.out.size))
      clear hR gd
      go_wp2
      go_ret
      exact ⟨ret_i64 (by rw [← HR.out]; have := HCM.out; rw [EK.out, Nat.sub_self] at this; have e0 : cmn 0 (nm h l) (nm h' l') = 0 := rfl; have ek := EK.out; omega), L5.out⟩

theorem rcommon_at (s : Bool) (h l : Nat) (s' : Bool) (h' l' : Nat) (hh : N64 h) (hl : N64 l) (hh' : N64 h') (hl' : N64 l') {v : Int} (ev : comV s h l s' h' l' = v) (w : World) :
    Calls Tryz.prog 113 #[adr s h l, adr s' h' l'] w fun e w' => e = .returned (.int .i64 v) ∧ Below w.heap.size w w' := by
  subst ev
  by_cases v : vld s h l = true
  · by_cases v' : vld s' h' l' = true
    · by_cases e : s = s'
      · subst e; exact rcom_yes s h l h' l' hh hl hh' hl' v v' w
      · have c : comV s h l s' h' l' = -1 := by unfold comV; rw [if_neg (fun x => e x.2.2)]
        rw [c]; exact rcom_n3 s h l s' h' l' v v' e w
    · have c : comV s h l s' h' l' = -1 := by unfold comV; rw [if_neg (fun x => v' x.2.1)]
      rw [c]; exact rcom_n2 s h l s' h' l' v (by simpa using v') w
  · have c : comV s h l s' h' l' = -1 := by unfold comV; rw [if_neg (fun x => v x.1)]
    rw [c]; exact rcom_n1 s h l s' h' l' (by simpa using v) w
end Go.Proofs.YtgfkmgbcajdcdaaGreatDoor
