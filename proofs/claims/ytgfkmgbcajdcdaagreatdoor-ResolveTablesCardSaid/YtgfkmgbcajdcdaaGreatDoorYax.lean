/-
  Several texts in one: PRCo, IfS, IfL, IfH, IfJ, IfK.
-/
import Derived.Test.YtgfkmgbcajdcdaaGreatDoorYas
import Derived.Test.YtgfkmgbcajdcdaaGreatDoorYad
import Derived.Deep.RegionHeld3
import Derived.BigGuard
import Derived.StillTailTactics
import Derived.Test.YtgfkmgbcajdcdaaGreatDoorYaw
import Derived.Test.YtgfkmgbcajdcdaaGreatDoorYaa
set_option linter.unusedVariables false
set_option maxRecDepth 100000
set_option maxHeartbeats 16000000
namespace Go.Proofs.YtgfkmgbcajdcdaaGreatDoor
open Go.RowKit

theorem rcom_n1 (s : Bool) (h l : Nat) (s' : Bool) (h' l' : Nat) (v : vld s h l = false) (w : World) :
  Calls Tryz.prog 113 #[adr s h l, adr s' h' l'] w fun e w' => e = .returned (.int .i64 (-1)) ∧ Below w.heap.size w w' := by
 obtain ⟨V1, hV1⟩ : ∃ V, vld s h l = V := ⟨_, rfl⟩
 obtain ⟨V2, hV2⟩ : ∃ V, vld s' h' l' = V := ⟨_, rfl⟩
 have H1 := lH (fun w => rvalid_at s h l w hV1)
 have H2 := lH (fun w => rvalid_at s' h' l' w hV2)
 rw [v] at hV1
 subst hV1
 clear v hV2
 go_enter Tryz.func113, Tryz.ntmps113
 go_wp2_with fail
 refine cZm (H1.out _) ?_
 rintro e w1 ⟨rfl, hb⟩
 have K1 := lH ((Blk.new w 28 #[.bool s, .int .u64 h, .int .u64 l]).alloc (.cells #[.bool s', .int .u64 h', .int .u64 l'] 28) |>.below hb (by simp only [zA]; omega))
 have Q1 := lH ((Blk.new (w.alloc (.cells #[.bool s, .int .u64 h, .int .u64 l] 28)) 28 #[.bool s', .int .u64 h', .int .u64 l']).below hb (by simp only [zA]; omega))
 rw [zA] at Q1
 have L1 := lH ((((Below.refl _ w).alloc (Nat.le_refl _) _).alloc (by simp) _).trans (hb.mono (by simp only [zA]; omega)))
 have s1 : w.heap.size + 1 < w1.heap.size := by have := hb.size; simp only [zA] at this; omega
 clear hb
 obtain ⟨f0, f1, f2⟩ := K1.out.c3
 obtain ⟨g0, g1, g2⟩ := Q1.out.c3
 go_wp2_with fail
 refine cZm (H2.out _) ?_
 rintro e w2 ⟨rfl, hb⟩
 clear f0 f1 f2 g0 g1 g2
 have K2 := lH (K1.out.below hb K1.out.lt)
 have Q2 := lH (Q1.out.below hb Q1.out.lt)
 have L2 := lH (L1.out.trans (hb.mono L1.out.size))
 have s2 : w.heap.size + 1 < w2.heap.size := by have := hb.size; omega
 clear hb
 obtain ⟨f0, f1, f2⟩ := K2.out.c3
 obtain ⟨g0, g1, g2⟩ := Q2.out.c3
 clear f0 f1 f2 g0 g1 g2
 go_wp2
 go_ret
 exact ⟨rfl, L2.out⟩

theorem rcom_n2 (s : Bool) (h l : Nat) (s' : Bool) (h' l' : Nat) (v : vld s h l = true) (v' : vld s' h' l' = false) (w : World) :
  Calls Tryz.prog 113 #[adr s h l, adr s' h' l'] w fun e w' => e = .returned (.int .i64 (-1)) ∧ Below w.heap.size w w' := by
 obtain ⟨V1, hV1⟩ : ∃ V, vld s h l = V := ⟨_, rfl⟩
 obtain ⟨V2, hV2⟩ : ∃ V, vld s' h' l' = V := ⟨_, rfl⟩
 have H1 := lH (fun w => rvalid_at s h l w hV1)
 have H2 := lH (fun w => rvalid_at s' h' l' w hV2)
 rw [v] at hV1
 rw [v'] at hV2
 subst hV1 hV2
 clear v v'
 go_enter Tryz.func113, Tryz.ntmps113
 go_wp2_with fail
 refine cZm (H1.out _) ?_
 rintro e w1 ⟨rfl, hb⟩
 have K1 := lH ((Blk.new w 28 #[.bool s, .int .u64 h, .int .u64 l]).alloc (.cells #[.bool s', .int .u64 h', .int .u64 l'] 28) |>.below hb (by simp only [zA]; omega))
 have Q1 := lH ((Blk.new (w.alloc (.cells #[.bool s, .int .u64 h, .int .u64 l] 28)) 28 #[.bool s', .int .u64 h', .int .u64 l']).below hb (by simp only [zA]; omega))
 rw [zA] at Q1
 have L1 := lH ((((Below.refl _ w).alloc (Nat.le_refl _) _).alloc (by simp) _).trans (hb.mono (by simp only [zA]; omega)))
 have s1 : w.heap.size + 1 < w1.heap.size := by have := hb.size; simp only [zA] at this; omega
 clear hb
 obtain ⟨f0, f1, f2⟩ := K1.out.c3
 obtain ⟨g0, g1, g2⟩ := Q1.out.c3
 go_wp2_with fail
 refine cZm (H2.out _) ?_
 rintro e w2 ⟨rfl, hb⟩
 clear f0 f1 f2 g0 g1 g2
 have K2 := lH (K1.out.below hb K1.out.lt)
 have Q2 := lH (Q1.out.below hb Q1.out.lt)
 have L2 := lH (L1.out.trans (hb.mono L1.out.size))
 have s2 : w.heap.size + 1 < w2.heap.size := by have := hb.size; omega
 clear hb
 obtain ⟨f0, f1, f2⟩ := K2.out.c3
 obtain ⟨g0, g1, g2⟩ := Q2.out.c3
 clear f0 f1 f2 g0 g1 g2
 go_wp2
 go_ret
 exact ⟨rfl, L2.out⟩

theorem rcom_n3 (s : Bool) (h l : Nat) (s' : Bool) (h' l' : Nat) (v : vld s h l = true) (v' : vld s' h' l' = true) (ne : ¬ s = s') (w : World) :
  Calls Tryz.prog 113 #[adr s h l, adr s' h' l'] w fun e w' => e = .returned (.int .i64 (-1)) ∧ Below w.heap.size w w' := by
 obtain ⟨V1, hV1⟩ : ∃ V, vld s h l = V := ⟨_, rfl⟩
 obtain ⟨V2, hV2⟩ : ∃ V, vld s' h' l' = V := ⟨_, rfl⟩
 have H1 := lH (fun w => rvalid_at s h l w hV1)
 have H2 := lH (fun w => rvalid_at s' h' l' w hV2)
 rw [v] at hV1
 rw [v'] at hV2
 subst hV1 hV2
 clear v v'
 cases s <;> cases s'
 ·exact absurd rfl ne
 ·skip
  go_enter Tryz.func113, Tryz.ntmps113
  go_wp2_with fail
  refine cZm (H1.out _) ?_
  rintro e w1 ⟨rfl, hb⟩
  have K1 := lH ((Blk.new w 28 #[.bool false, .int .u64 h, .int .u64 l]).alloc (.cells #[.bool true, .int .u64 h', .int .u64 l'] 28) |>.below hb (by simp only [zA]; omega))
  have Q1 := lH ((Blk.new (w.alloc (.cells #[.bool false, .int .u64 h, .int .u64 l] 28)) 28 #[.bool true, .int .u64 h', .int .u64 l']).below hb (by simp only [zA]; omega))
  rw [zA] at Q1
  have L1 := lH ((((Below.refl _ w).alloc (Nat.le_refl _) _).alloc (by simp) _).trans (hb.mono (by simp only [zA]; omega)))
  have s1 : w.heap.size + 1 < w1.heap.size := by have := hb.size; simp only [zA] at this; omega
  clear hb
  obtain ⟨f0, f1, f2⟩ := K1.out.c3
  obtain ⟨g0, g1, g2⟩ := Q1.out.c3
  go_wp2_with fail
  refine cZm (H2.out _) ?_
  rintro e w2 ⟨rfl, hb⟩
  clear f0 f1 f2 g0 g1 g2
  have K2 := lH (K1.out.below hb K1.out.lt)
  have Q2 := lH (Q1.out.below hb Q1.out.lt)
  have L2 := lH (L1.out.trans (hb.mono L1.out.size))
  have s2 : w.heap.size + 1 < w2.heap.size := by have := hb.size; omega
  clear hb
  obtain ⟨f0, f1, f2⟩ := K2.out.c3
  obtain ⟨g0, g1, g2⟩ := Q2.out.c3
  go_wp2
  go_ret
  exact ⟨rfl, L2.out⟩
 ·skip
  go_enter Tryz.func113, Tryz.ntmps113
  go_wp2_with fail
  refine cZm (H1.out _) ?_
  rintro e w1 ⟨rfl, hb⟩
  have K1 := lH ((Blk.new w 28 #[.bool true, .int .u64 h, .int .u64 l]).alloc (.cells #[.bool false, .int .u64 h', .int .u64 l'] 28) |>.below hb (by simp only [zA]; omega))
  have Q1 := lH ((Blk.new (w.alloc (.cells #[.bool true, .int .u64 h, .int .u64 l] 28)) 28 #[.bool false, .int .u64 h', .int .u64 l']).below hb (by simp only [zA]; omega))
  rw [zA] at Q1
  have L1 := lH ((((Below.refl _ w).alloc (Nat.le_refl _) _).alloc (by simp) _).trans (hb.mono (by simp only [zA]; omega)))
  have s1 : w.heap.size + 1 < w1.heap.size := by have := hb.size; simp only [zA] at this; omega
  clear hb
  obtain ⟨f0, f1, f2⟩ := K1.out.c3
  obtain ⟨g0, g1, g2⟩ := Q1.out.c3
  go_wp2_with fail
  refine cZm (H2.out _) ?_
  rintro e w2 ⟨rfl, hb⟩
  clear f0 f1 f2 g0 g1 g2
  have K2 := lH (K1.out.below hb K1.out.lt)
  have Q2 := lH (Q1.out.below hb Q1.out.lt)
  have L2 := lH (L1.out.trans (hb.mono L1.out.size))
  have s2 : w.heap.size + 1 < w2.heap.size := by have := hb.size; omega
  clear hb
  obtain ⟨f0, f1, f2⟩ := K2.out.c3
  obtain ⟨g0, g1, g2⟩ := Q2.out.c3
  go_wp2
  go_ret
  exact ⟨rfl, L2.out⟩
 ·exact absurd rfl ne

theorem com_step (n m W k : Nat) (hk : k < W) : (bt n W k = bt m W k → cmn (W - k) n m = cmn (W - (k + 1)) n m + 1) ∧ (¬ bt n W k = bt m W k → cmn (W - k) n m = 0) := by
 have e : W - k = (W - (k + 1)) + 1 := by omega
 rw [e, cmn_succ]
 unfold bt
 rw [show W - 1 - k = W - (k + 1) by omega]
 exact ⟨fun h => if_pos h, fun h => if_neg h⟩

theorem rcom_yes (s : Bool) (h l h' l' : Nat) (hh : N64 h) (hl : N64 l) (hh' : N64 h') (hl' : N64 l') (v : vld s h l = true) (v' : vld s h' l' = true) (w : World) :
  Calls Tryz.prog 113 #[adr s h l, adr s h' l'] w fun e w' => e = .returned (.int .i64 (comV s h l s h' l')) ∧ Below w.heap.size w w' := by
 have H1 := lH (fun w => rvalid_at s h l w v)
 have H2 := lH (fun w => rvalid_at s h' l' w v')
 obtain ⟨W, hW⟩ : ∃ W, (wd s : Int) = W := ⟨_, rfl⟩
 have HW := lH (fun w => rwidth_at s h l W hW w)
 have HWd := lH hW
 have W1 : W ≤ 128 := by rw [← hW]; unfold wd; split <;> omega
 obtain ⟨R, hR⟩ : ∃ R, comV s h l s h' l' = R := ⟨_, rfl⟩
 have HR : Hid ((cmn (wd s) (nm h l) (nm h' l') : Int) = R) := lH (by rw [← hR]; unfold comV; rw [if_pos ⟨v, v', rfl⟩])
 rw [hR]
 have hh := lH hh
 have hl := lH hl
 have hh' := lH hh'
 have hl' := lH hl'
 have v := lH v
 have v' := lH v'
 clear hW hR
 go_enter Tryz.func113, Tryz.ntmps113
 go_wp2_with fail
 refine cZm (H1.out _) ?_
 rintro e w1 ⟨rfl, hb⟩
 have K1 := lH ((Blk.new w 28 #[.bool s, .int .u64 h, .int .u64 l]).alloc (.cells #[.bool s, .int .u64 h', .int .u64 l'] 28) |>.below hb (by simp only [zA]; omega))
 have Q1 := lH ((Blk.new (w.alloc (.cells #[.bool s, .int .u64 h, .int .u64 l] 28)) 28 #[.bool s, .int .u64 h', .int .u64 l']).below hb (by simp only [zA]; omega))
 rw [zA] at Q1
 have L1 := lH ((((Below.refl _ w).alloc (Nat.le_refl _) _).alloc (by simp) _).trans (hb.mono (by simp only [zA]; omega)))
 have s1 : w.heap.size + 1 < w1.heap.size := by have := hb.size; simp only [zA] at this; omega
 clear hb
 obtain ⟨f0, f1, f2⟩ := K1.out.c3
 obtain ⟨g0, g1, g2⟩ := Q1.out.c3
 go_wp2_with fail
 refine cZm (H2.out _) ?_
 rintro e w2 ⟨rfl, hb⟩
 clear f0 f1 f2 g0 g1 g2
 have K2 := lH (K1.out.below hb K1.out.lt)
 have Q2 := lH (Q1.out.below hb Q1.out.lt)
 have L2 := lH (L1.out.trans (hb.mono L1.out.size))
 have s2 : w.heap.size + 1 < w2.heap.size := by have := hb.size; omega
 clear hb
 obtain ⟨f0, f1, f2⟩ := K2.out.c3
 obtain ⟨g0, g1, g2⟩ := Q2.out.c3
 go_wp2
 clear f0 f1 f2 g0 g1 g2
 go_loopw [7] (fun n wr => ∃ k : Nat, k ≤ wd s ∧ n = .int .i64 (k : Int) ∧ Blk wr w.heap.size 28 #[.bool s, .int .u64 h, .int .u64 l] ∧ Blk wr (w.heap.size + 1) 28 #[.bool s, .int .u64 h', .int .u64 l'] ∧ Below w.heap.size w wr ∧ cmn (wd s) (nm h l) (nm h' l') = k + cmn (wd s - k) (nm h l) (nm h' l')) (fun n _ => (wd s - intOf n).toNat)
 case atStart => exact ⟨0, by omega, rfl, K2.out, Q2.out, L2.out, by simp⟩
 case round =>
  obtain ⟨k, hk, rfl, hkk, hqq, hbel, hcm⟩ := hrel
  have HK := lH hkk
  have HQ := lH hqq
  have HL := lH hbel
  have HCM := lH hcm
  have kW : (k : Int) ≤ W := by have := HWd.out; omega
  have k0 : (0 : Int) ≤ k := by omega
  clear hkk hqq hbel hcm
  by_cases hlt : k < wd s
  ·have gd : decide ((k : Int) < W) = true := by have := HWd.out; simp; omega
   obtain ⟨b1, hb1⟩ : ∃ b, bt (nm h l) (wd s) k = b := ⟨_, rfl⟩
   obtain ⟨b2, hb2⟩ : ∃ b, bt (nm h' l') (wd s) k = b := ⟨_, rfl⟩
   have HB1 := lH (fun w => rbit_any s h l k hh.out hl.out v.out hlt hb1 w)
   have HB2 := lH (fun w => rbit_any s h' l' k hh'.out hl'.out v'.out hlt hb2 w)
   have HS := lH (com_step (nm h l) (nm h' l') (wd s) k hlt)
   by_cases hbb : b1 = b2
   ·have HS2 := lH (HS.out.1 (by rw [hb1, hb2]; exact hbb))
    have gb : ((b1 : Int) == (b2 : Int)) = true := by simp [hbb]
    clear HS hb1 hb2 hbb hlt
    have HC : Hid (∀ W', Below wr.heap.size wr W' → W'.cell? ⟨w.heap.size, 0, none⟩ = some (.bool s) ∧ W'.cell? ⟨w.heap.size, 1, none⟩ = some (.int .u64 h) ∧ W'.cell? ⟨w.heap.size, 2, none⟩ = some (.int .u64 l) ∧ W'.cell? ⟨w.heap.size + 1, 0, none⟩ = some (.bool s) ∧ W'.cell? ⟨w.heap.size + 1, 1, none⟩ = some (.int .u64 h') ∧ W'.cell? ⟨w.heap.size + 1, 2, none⟩ = some (.int .u64 l')) := by
     show ∀ W', _ → _
     intro W' hB
     obtain ⟨a0, a1, a2⟩ := (HK.out.below hB HK.out.lt).c3
     obtain ⟨b0, b1, b2⟩ := (HQ.out.below hB HQ.out.lt).c3
     exact ⟨a0, a1, a2, b0, b1, b2⟩
    have hR : Below wr.heap.size wr wr.drew := (Below.refl _ _).drew
    go_wp2
    refine wp_region_held_drew (S := (fun w' => w'.cell? ⟨w.heap.size, 0, none⟩ = some (.bool s) ∧ w'.cell? ⟨w.heap.size, 1, none⟩ = some (.int .u64 h) ∧ w'.cell? ⟨w.heap.size, 2, none⟩ = some (.int .u64 l) ∧ w'.cell? ⟨w.heap.size + 1, 0, none⟩ = some (.bool s) ∧ w'.cell? ⟨w.heap.size + 1, 1, none⟩ = some (.int .u64 h') ∧ w'.cell? ⟨w.heap.size + 1, 2, none⟩ = some (.int .u64 l'))) (by kernel_rfl) ?_ (fun hHeld => ?_)
    ·exact HC.out _ hR
    refine tkH 0 ?_
    refine tkH 1 ?_
    refine wpAnyH_ready (rs := [2]) (by kernel_rfl) (by simp) ?_
    refine AllReadyH.cons (o := { dst := some 27, op := Go.Op.call { callee := Go.Callee.value (Go.Operand.func 103), args := #[Go.Operand.tmp 26], argTypes := #[28] }, type := 3, pos := "ref.go:76", after := #[{ on := 1, ground := Go.Ground.data }], guard := none }) rfl (fun K hK => ?_) AllReadyH.nil
    go_simp
    (go_at_call 103; (with_reducible refine cZm (HW.out _) ?_); rintro e W' ⟨rfl, hb⟩; replace hR := hR.trans (hb.mono hR.size); clear hb)
    go_wp2_with fail
    refine hK.out _ _ ?_ (fun hHeld => ?_)
    ·exact HC.out _ hR
    clear hK K
    try simp only [Act.put, List.setIfInBounds_toArray, List.set_cons_zero, List.set_cons_succ]
    refine tkH 3 ?_
    refine tkH 4 ?_
    refine tkH 5 ?_
    refine tkH 6 ?_
    refine tkH 8 ?_
    refine tkH 9 ?_
    refine wpAnyH_ready (rs := [7]) (by kernel_rfl) (by simp) ?_
    refine AllReadyH.cons (o := { dst := some 32, op := Go.Op.call { callee := Go.Callee.value (Go.Operand.func 141), args := #[Go.Operand.tmp 30, Go.Operand.tmp 31], argTypes := #[28, 3] }, type := 3, pos := "ref.go:76", after := #[{ on := 5, ground := Go.Ground.data }, { on := 6, ground := Go.Ground.data }, { on := 4, ground := Go.Ground.chain }, { on := 4, ground := Go.Ground.guard }], guard := some (4, true) }) rfl (fun K hK => ?_) AllReadyH.nil
    go_simp
    (go_at_call 141; (with_reducible refine cZm (HB1.out _) ?_); rintro e W' ⟨rfl, hb⟩; replace hR := hR.trans (hb.mono hR.size); clear hb)
    go_wp2_with fail
    refine hK.out _ _ ?_ (fun hHeld => ?_)
    ·exact HC.out _ hR
    clear hK K
    try simp only [Act.put, List.setIfInBounds_toArray, List.set_cons_zero, List.set_cons_succ]
    refine wpAnyH_ready (rs := [10]) (by kernel_rfl) (by simp) ?_
    refine AllReadyH.cons (o := { dst := some 35, op := Go.Op.call { callee := Go.Callee.value (Go.Operand.func 141), args := #[Go.Operand.tmp 33, Go.Operand.tmp 34], argTypes := #[28, 3] }, type := 3, pos := "ref.go:76", after := #[{ on := 8, ground := Go.Ground.data }, { on := 9, ground := Go.Ground.data }, { on := 7, ground := Go.Ground.chain }, { on := 4, ground := Go.Ground.guard }], guard := some (4, true) }) rfl (fun K hK => ?_) AllReadyH.nil
    go_simp
    (go_at_call 141; (with_reducible refine cZm (HB2.out _) ?_); rintro e W' ⟨rfl, hb⟩; replace hR := hR.trans (hb.mono hR.size); clear hb)
    go_wp2_with fail
    refine hK.out _ _ ?_ (fun hHeld => ?_)
    ·exact HC.out _ hR
    clear hK K
    try simp only [Act.put, List.setIfInBounds_toArray, List.set_cons_zero, List.set_cons_succ]
    refine tkH 11 ?_
    refine tkH 12 ?_
    refine wpAnyH_done (by kernel_rfl) ?_ _
    have L5 := lH (HL.out.trans (hR.mono HL.out.size))
    have K5 := lH (HK.out.below hR HK.out.lt)
    have Q5 := lH (HQ.out.below hR HQ.out.lt)
    have lt5 : k < wd s := by have := HWd.out; simp at gd; omega
    clear hR gb gd
    go_wp2
    go_roundw
    case rel => exact ⟨k + 1, by omega, by go_num, K5.out, Q5.out, L5.out, by have := HCM.out; have := HS2.out; omega⟩
    case measure => simp [intOf]; omega
   ·have HS2 := lH (HS.out.2 (by rw [hb1, hb2]; exact hbb))
    have gb : ((b1 : Int) == (b2 : Int)) = false := by simp; omega
    clear HS hb1 hb2 hlt
    have HC : Hid (∀ W', Below wr.heap.size wr W' → W'.cell? ⟨w.heap.size, 0, none⟩ = some (.bool s) ∧ W'.cell? ⟨w.heap.size, 1, none⟩ = some (.int .u64 h) ∧ W'.cell? ⟨w.heap.size, 2, none⟩ = some (.int .u64 l) ∧ W'.cell? ⟨w.heap.size + 1, 0, none⟩ = some (.bool s) ∧ W'.cell? ⟨w.heap.size + 1, 1, none⟩ = some (.int .u64 h') ∧ W'.cell? ⟨w.heap.size + 1, 2, none⟩ = some (.int .u64 l')) := by
     show ∀ W', _ → _
     intro W' hB
     obtain ⟨a0, a1, a2⟩ := (HK.out.below hB HK.out.lt).c3
     obtain ⟨b0, b1, b2⟩ := (HQ.out.below hB HQ.out.lt).c3
     exact ⟨a0, a1, a2, b0, b1, b2⟩
    have hR : Below wr.heap.size wr wr.drew := (Below.refl _ _).drew
    go_wp2
    refine wp_region_held_drew (S := (fun w' => w'.cell? ⟨w.heap.size, 0, none⟩ = some (.bool s) ∧ w'.cell? ⟨w.heap.size, 1, none⟩ = some (.int .u64 h) ∧ w'.cell? ⟨w.heap.size, 2, none⟩ = some (.int .u64 l) ∧ w'.cell? ⟨w.heap.size + 1, 0, none⟩ = some (.bool s) ∧ w'.cell? ⟨w.heap.size + 1, 1, none⟩ = some (.int .u64 h') ∧ w'.cell? ⟨w.heap.size + 1, 2, none⟩ = some (.int .u64 l'))) (by kernel_rfl) ?_ (fun hHeld => ?_)
    ·exact HC.out _ hR
    refine tkH 0 ?_
    refine tkH 1 ?_
    refine wpAnyH_ready (rs := [2]) (by kernel_rfl) (by simp) ?_
    refine AllReadyH.cons (o := { dst := some 27, op := Go.Op.call { callee := Go.Callee.value (Go.Operand.func 103), args := #[Go.Operand.tmp 26], argTypes := #[28] }, type := 3, pos := "ref.go:76", after := #[{ on := 1, ground := Go.Ground.data }], guard := none }) rfl (fun K hK => ?_) AllReadyH.nil
    go_simp
    (go_at_call 103; (with_reducible refine cZm (HW.out _) ?_); rintro e W' ⟨rfl, hb⟩; replace hR := hR.trans (hb.mono hR.size); clear hb)
    go_wp2_with fail
    refine hK.out _ _ ?_ (fun hHeld => ?_)
    ·exact HC.out _ hR
    clear hK K
    try simp only [Act.put, List.setIfInBounds_toArray, List.set_cons_zero, List.set_cons_succ]
    refine tkH 3 ?_
    refine tkH 4 ?_
    refine tkH 5 ?_
    refine tkH 6 ?_
    refine tkH 8 ?_
    refine tkH 9 ?_
    refine wpAnyH_ready (rs := [7]) (by kernel_rfl) (by simp) ?_
    refine AllReadyH.cons (o := { dst := some 32, op := Go.Op.call { callee := Go.Callee.value (Go.Operand.func 141), args := #[Go.Operand.tmp 30, Go.Operand.tmp 31], argTypes := #[28, 3] }, type := 3, pos := "ref.go:76", after := #[{ on := 5, ground := Go.Ground.data }, { on := 6, ground := Go.Ground.data }, { on := 4, ground := Go.Ground.chain }, { on := 4, ground := Go.Ground.guard }], guard := some (4, true) }) rfl (fun K hK => ?_) AllReadyH.nil
    go_simp
    (go_at_call 141; (with_reducible refine cZm (HB1.out _) ?_); rintro e W' ⟨rfl, hb⟩; replace hR := hR.trans (hb.mono hR.size); clear hb)
    go_wp2_with fail
    refine hK.out _ _ ?_ (fun hHeld => ?_)
    ·exact HC.out _ hR
    clear hK K
    try simp only [Act.put, List.setIfInBounds_toArray, List.set_cons_zero, List.set_cons_succ]
    refine wpAnyH_ready (rs := [10]) (by kernel_rfl) (by simp) ?_
    refine AllReadyH.cons (o := { dst := some 35, op := Go.Op.call { callee := Go.Callee.value (Go.Operand.func 141), args := #[Go.Operand.tmp 33, Go.Operand.tmp 34], argTypes := #[28, 3] }, type := 3, pos := "ref.go:76", after := #[{ on := 8, ground := Go.Ground.data }, { on := 9, ground := Go.Ground.data }, { on := 7, ground := Go.Ground.chain }, { on := 4, ground := Go.Ground.guard }], guard := some (4, true) }) rfl (fun K hK => ?_) AllReadyH.nil
    go_simp
    (go_at_call 141; (with_reducible refine cZm (HB2.out _) ?_); rintro e W' ⟨rfl, hb⟩; replace hR := hR.trans (hb.mono hR.size); clear hb)
    go_wp2_with fail
    refine hK.out _ _ ?_ (fun hHeld => ?_)
    ·exact HC.out _ hR
    clear hK K
    try simp only [Act.put, List.setIfInBounds_toArray, List.set_cons_zero, List.set_cons_succ]
    refine tkH 11 ?_
    refine tkH 12 ?_
    refine wpAnyH_done (by kernel_rfl) ?_ _
    have L5 := lH (HL.out.trans (hR.mono HL.out.size))
    clear hR gb gd
    go_wp2
    go_ret
    exact ⟨ret_i64 (by rw [← HR.out]; have := HCM.out; have := HS2.out; omega), L5.out⟩
  ·have gd : decide ((k : Int) < W) = false := by have := HWd.out; simp; omega
   have ek : k = wd s := by omega
   have EK := lH ek
   clear ek hlt
   have HC : Hid (∀ W', Below wr.heap.size wr W' → W'.cell? ⟨w.heap.size, 0, none⟩ = some (.bool s) ∧ W'.cell? ⟨w.heap.size, 1, none⟩ = some (.int .u64 h) ∧ W'.cell? ⟨w.heap.size, 2, none⟩ = some (.int .u64 l) ∧ W'.cell? ⟨w.heap.size + 1, 0, none⟩ = some (.bool s) ∧ W'.cell? ⟨w.heap.size + 1, 1, none⟩ = some (.int .u64 h') ∧ W'.cell? ⟨w.heap.size + 1, 2, none⟩ = some (.int .u64 l')) := by
    show ∀ W', _ → _
    intro W' hB
    obtain ⟨a0, a1, a2⟩ := (HK.out.below hB HK.out.lt).c3
    obtain ⟨b0, b1, b2⟩ := (HQ.out.below hB HQ.out.lt).c3
    exact ⟨a0, a1, a2, b0, b1, b2⟩
   have hR : Below wr.heap.size wr wr.drew := (Below.refl _ _).drew
   go_wp2
   refine wp_region_held_drew (S := (fun w' => w'.cell? ⟨w.heap.size, 0, none⟩ = some (.bool s) ∧ w'.cell? ⟨w.heap.size, 1, none⟩ = some (.int .u64 h) ∧ w'.cell? ⟨w.heap.size, 2, none⟩ = some (.int .u64 l) ∧ w'.cell? ⟨w.heap.size + 1, 0, none⟩ = some (.bool s) ∧ w'.cell? ⟨w.heap.size + 1, 1, none⟩ = some (.int .u64 h') ∧ w'.cell? ⟨w.heap.size + 1, 2, none⟩ = some (.int .u64 l'))) (by kernel_rfl) ?_ (fun hHeld => ?_)
   ·exact HC.out _ hR
   refine tkH 0 ?_
   refine tkH 1 ?_
   refine wpAnyH_ready (rs := [2]) (by kernel_rfl) (by simp) ?_
   refine AllReadyH.cons (o := { dst := some 27, op := Go.Op.call { callee := Go.Callee.value (Go.Operand.func 103), args := #[Go.Operand.tmp 26], argTypes := #[28] }, type := 3, pos := "ref.go:76", after := #[{ on := 1, ground := Go.Ground.data }], guard := none }) rfl (fun K hK => ?_) AllReadyH.nil
   go_simp
   (go_at_call 103; (with_reducible refine cZm (HW.out _) ?_); rintro e W' ⟨rfl, hb⟩; replace hR := hR.trans (hb.mono hR.size); clear hb)
   go_wp2_with fail
   refine hK.out _ _ ?_ (fun hHeld => ?_)
   ·exact HC.out _ hR
   clear hK K
   try simp only [Act.put, List.setIfInBounds_toArray, List.set_cons_zero, List.set_cons_succ]
   refine tkH 3 ?_
   refine tkH 4 ?_
   refine tkO 5 ?_
   refine tkO 6 ?_
   refine tkO 7 ?_
   refine tkO 8 ?_
   refine tkO 9 ?_
   refine tkO 10 ?_
   refine tkO 11 ?_
   refine tkH 12 ?_
   refine wpAnyH_done (by kernel_rfl) ?_ _
   have L5 := lH (HL.out.trans (hR.mono HL.out.size))
   clear hR gd
   go_wp2
   go_ret
   exact ⟨ret_i64 (by rw [← HR.out]; have := HCM.out; rw [EK.out, Nat.sub_self] at this; have e0 : cmn 0 (nm h l) (nm h' l') = 0 := rfl; have ek := EK.out; omega), L5.out⟩

theorem rcommon_at (s : Bool) (h l : Nat) (s' : Bool) (h' l' : Nat) (hh : N64 h) (hl : N64 l) (hh' : N64 h') (hl' : N64 l') {v : Int} (ev : comV s h l s' h' l' = v) (w : World) :
  Calls Tryz.prog 113 #[adr s h l, adr s' h' l'] w fun e w' => e = .returned (.int .i64 v) ∧ Below w.heap.size w w' := by
 subst ev
 by_cases v : vld s h l = true
 ·by_cases v' : vld s' h' l' = true
  ·by_cases e : s = s'
   ·subst e; exact rcom_yes s h l h' l' hh hl hh' hl' v v' w
   ·have c : comV s h l s' h' l' = -1 := by unfold comV; rw [if_neg (fun x => e x.2.2)]
    rw [c]; exact rcom_n3 s h l s' h' l' v v' e w
  ·have c : comV s h l s' h' l' = -1 := by unfold comV; rw [if_neg (fun x => v' x.2.1)]
   rw [c]; exact rcom_n2 s h l s' h' l' v (by simpa using v') w
 ·have c : comV s h l s' h' l' = -1 := by unfold comV; rw [if_neg (fun x => v x.1)]
  rw [c]; exact rcom_n1 s h l s' h' l' (by simpa using v) w
end Go.Proofs.YtgfkmgbcajdcdaaGreatDoor



namespace Go.Proofs.YtgfkmgbcajdcdaaGreatDoor.Ifs

def offI (st : StI) (n k : Nat) (st' : StI) : Prop := st'.2 = st.2 ∧ ∀ i, st'.1[i]? = (st.1[i]?).map fun p => (p.1, p.2.1, p.2.2.1, if i < k ∧ i + 1 ≠ n then false else p.2.2.2)
theorem offI.zero (st : StI) (n : Nat) : offI st n 0 st := ⟨rfl, fun i => by
 cases st.1[i]? with
 | none => rfl
 | some p => simp⟩
theorem offI.len {st st' : StI} {n k : Nat} (h : offI st n k st') : st'.1.length = st.1.length := by
 rcases Nat.lt_trichotomy st'.1.length st.1.length with h1 | h1 | h1
 ·have h2 := h.2 st'.1.length
  rw [List.getElem?_eq_none (Nat.le_refl _), List.getElem?_eq_getElem h1] at h2
  cases h2
 ·exact h1
 ·have h2 := h.2 st.1.length
  rw [List.getElem?_eq_none (l := st.1) (Nat.le_refl _), List.getElem?_eq_getElem h1] at h2
  cases h2
theorem offI.skip {st st' : StI} {n k : Nat} (h : offI st n k st') (hk : k + 1 = n) : offI st n (k + 1) st' := ⟨h.1, fun i => by
 rw [h.2 i]
 cases st.1[i]? with
 | none => rfl
 | some p =>
  simp only [Option.map_some]
  by_cases hn : i < k ∧ i + 1 ≠ n
  ·rw [if_pos hn, if_pos ⟨by omega, hn.2⟩]
  ·rw [if_neg hn, if_neg (fun x => hn ⟨by omega, x.2⟩)]⟩
end Go.Proofs.YtgfkmgbcajdcdaaGreatDoor.Ifs

namespace Go.Proofs.YtgfkmgbcajdcdaaGreatDoor.Ifs
open Go.RowKit

end Go.Proofs.YtgfkmgbcajdcdaaGreatDoor.Ifs

namespace Go.Proofs.YtgfkmgbcajdcdaaGreatDoor.Ifs
open Go.RowKit

theorem nameD (s : ByteArray) (w : World) : Calls Tryz.prog 134 #[.string s] w fun e w' => e = .returned (.bool (nameOk s)) ∧ w = w' := by
 have hse : s.size = 0 ↔ s.toList = [] := by
  rw [ByteArray.toList_eq, Array.toList_eq_nil_iff]
  exact Array.size_eq_zero_iff
 by_cases h0 : s.size = 0
 ·have HR : Hid (nameOk s = false) := lH (by rw [Bool.eq_false_iff]; intro h; have := (nameOk_iff.1 h).1; omega)
  have b3 : s.toList = [] := hse.1 h0
  have b1 : s.toList.isEmpty = true := by rw [b3]; rfl
  clear hse
  go_enter Tryz.func134, Tryz.ntmps134
  go_wp2
  go_ret
  exact ⟨by rw [HR.out]; rfl, rfl⟩
 ·have b3 : ¬ s.toList = [] := fun e => h0 (hse.2 e)
  have b1 : s.toList.isEmpty = false := List.isEmpty_eq_false_iff.2 b3
  by_cases h8 : 8 < s.size
  ·have HR : Hid (nameOk s = false) := lH (by rw [Bool.eq_false_iff]; intro h; have := (nameOk_iff.1 h).1; omega)
   have b2 : (8 : Int) < (s.size : Int) := by omega
   clear hse
   go_enter Tryz.func134, Tryz.ntmps134
   go_wp2
   go_ret
   exact ⟨by rw [HR.out]; rfl, rfl⟩
  ·have HB : Hid (1 ≤ s.size ∧ s.size ≤ 8) := lH (by omega)
   obtain ⟨n, hn⟩ : ∃ n, s.size = n := ⟨_, rfl⟩
   have HN := lH hn
   have b2 : ¬ (8 : Int) < (n : Int) := by omega
   have n8 : n ≤ 8 := by omega
   clear hse h0 h8
   go_enter Tryz.func134, Tryz.ntmps134
   go_wp2
   go_loop [2, 3] (fun fv iv => ∃ i : Nat, fv = .bool false ∧ iv = .int .i64 (i : Int) ∧ i ≤ n ∧ Hid (∀ (j : Nat) (h : j < s.size), j < i → okB j s[j].toNat = true)) (fun _ iv => n - (intOf iv).toNat)
   case atStart => exact ⟨0, rfl, rfl, Nat.zero_le _, lH (fun j h hj => absurd hj (by omega))⟩
   case round =>
    obtain ⟨i, rfl, rfl, hi, hA⟩ := hrel
    have j1 : IntKind.i64.wrap ((i : Int) + 1) = (i : Int) + 1 := by rw [IntKind.wrap_i64]; omega
    by_cases hlt : i < n
    ·have i1 : (i : Int) < (n : Int) := by omega
     have i0 : (0 : Int) ≤ (i : Int) := by omega
     have i2 : i < s.size := by omega
     obtain ⟨b, hb⟩ : ∃ b, (s[i]'i2).toNat = b := ⟨_, rfl⟩
     have HBt := lH hb
     have HYes : Hid (okB i b = true → ∀ (j : Nat) (h : j < s.size), j < i + 1 → okB j s[j].toNat = true) := lH (fun ho j h hj => by
      rcases Nat.lt_or_ge j i with h1 | h1
      ·exact hA.out j h h1
      ·obtain rfl : j = i := by omega
       rw [hb]; exact ho)
     have HNo : Hid (okB i b = false → nameOk s = false) := lH (fun ho => by
      rw [Bool.eq_false_iff]
      intro h
      have := (nameOk_iff.1 h).2 i i2
      rw [hb, ho] at this
      cases this)
     by_cases l1 : 97 ≤ b
     ·by_cases l2 : b ≤ 122
      ·have a1 : (97 : Int) ≤ (b : Int) := by omega
       have a2 : (b : Int) ≤ 122 := by omega
       have a3 : ¬ (b : Int) ≤ 57 := by omega
       have a4 : (48 : Int) ≤ (b : Int) := by omega
       have HO := lH (HYes.out (by unfold okB; simp [l1, l2]))
       clear HYes HNo
       go_wp2
       go_round
       case rel => exact ⟨i + 1, rfl, by go_num, hlt, HO⟩
       case measure => simp [intOf]; omega
      ·have a1 : (97 : Int) ≤ (b : Int) := by omega
       have a2 : ¬ (b : Int) ≤ 122 := by omega
       have a3 : ¬ (b : Int) ≤ 57 := by omega
       have a4 : (48 : Int) ≤ (b : Int) := by omega
       have HO := lH (HNo.out (by unfold okB; simp; omega))
       clear HYes HNo
       by_cases iz : i = 0
       ·subst iz
        go_wp2
        go_ret
        exact ⟨by rw [HO.out]; rfl, rfl⟩
       ·have iz1 : ((i : Int) == 0) = false := by simp; omega
        go_wp2
        go_ret
        exact ⟨by rw [HO.out]; rfl, rfl⟩
     ·by_cases d1 : 48 ≤ b ∧ b ≤ 57
      ·have a1 : ¬ (97 : Int) ≤ (b : Int) := by omega
       have a3 : (b : Int) ≤ 57 := by omega
       have a4 : (48 : Int) ≤ (b : Int) := by omega
       by_cases iz : i = 0
       ·have HO := lH (HNo.out (by unfold okB; simp; omega))
        clear HYes HNo
        subst iz
        go_wp2
        go_ret
        exact ⟨by rw [HO.out]; rfl, rfl⟩
       ·have iz1 : ((i : Int) == 0) = false := by simp; omega
        have HO := lH (HYes.out (by unfold okB; simp; omega))
        clear HYes HNo
        go_wp2
        go_round
        case rel => exact ⟨i + 1, rfl, by go_num, hlt, HO⟩
        case measure => simp [intOf]; omega
      ·have a1 : ¬ (97 : Int) ≤ (b : Int) := by omega
       have HO := lH (HNo.out (by unfold okB; simp; omega))
       clear HYes HNo
       rcases (show ¬ 48 ≤ b ∨ (48 ≤ b ∧ ¬ b ≤ 57) by omega) with e1 | ⟨e1, e2⟩
       ·have a4 : ¬ (48 : Int) ≤ (b : Int) := by omega
        by_cases iz : i = 0
        ·subst iz
         go_wp2
         go_ret
         exact ⟨by rw [HO.out]; rfl, rfl⟩
        ·have iz1 : ((i : Int) == 0) = false := by simp; omega
         go_wp2
         go_ret
         exact ⟨by rw [HO.out]; rfl, rfl⟩
       ·have a4 : (48 : Int) ≤ (b : Int) := by omega
        have a3 : ¬ (b : Int) ≤ 57 := by omega
        by_cases iz : i = 0
        ·subst iz
         go_wp2
         go_ret
         exact ⟨by rw [HO.out]; rfl, rfl⟩
        ·have iz1 : ((i : Int) == 0) = false := by simp; omega
         go_wp2
         go_ret
         exact ⟨by rw [HO.out]; rfl, rfl⟩
    ·obtain rfl : i = n := by omega
     have i1 : ¬ (i : Int) < (i : Int) := by omega
     have HR : Hid (nameOk s = true) := lH (nameOk_iff.2 ⟨HB.out, fun j h => hA.out j h (by have := HN.out; omega)⟩)
     clear hlt hi
     go_wp2
     go_ret
     exact ⟨by rw [HR.out]; rfl, rfl⟩
end Go.Proofs.YtgfkmgbcajdcdaaGreatDoor.Ifs

namespace Go.Proofs.YtgfkmgbcajdcdaaGreatDoor.Ifs
open Go.RowKit

structure RepI (w : World) (t : Nat) (vP : Value) (nP : Nat) (pr : List Value) (vL : Value) (nL : Nat) (lv : List Value) (L : List (List Loc)) : Prop where
 nod : (t :: (obI vP ++ (obI vL ++ lv.flatMap obI))).Nodup
 blk : Blk w t 170 #[vP, vL]
 rowP : w.ownsRow 0 74 4 vP nP pr
 rowL : w.ownsRow 0 132 1 vL nL lv
 inn : ∀ (i : Nat) (l : List Loc), L[i]? = some l → ∃ A c, lv[i]? = some (.slice A l.length c) ∧ w.ownsRow 0 202 4 (.slice A l.length c) l.length (l.flatMap lcC)
section
variable {w w1 : World} {t nP nL : Nat} {vP vL v : Value} {pr lv : List Value} {L : List (List Loc)}
theorem RepI.lts (h : RepI w t vP nP pr vL nL lv L) (hl : lv.length = L.length) : ∀ s ∈ t :: (obI vP ++ (obI vL ++ lv.flatMap obI)), s < w.heap.size := by
 intro s hs
 rcases List.mem_cons.1 hs with h1 | h1
 ·subst h1; exact h.blk.lt
 rcases List.mem_append.1 h1 with h1 | h1
 ·exact own_lts h.rowP s h1
 rcases List.mem_append.1 h1 with h1 | h1
 ·exact own_lts h.rowL s h1
 obtain ⟨v, hv, hs⟩ := List.mem_flatMap.1 h1
 obtain ⟨i, hi⟩ := List.mem_iff_getElem?.1 hv
 have hil := (List.getElem?_eq_some_iff.1 hi).1
 obtain ⟨A, c, e, ho⟩ := h.inn i _ (List.getElem?_eq_getElem (by omega))
 rw [hi] at e
 injection e with e
 subst e
 exact own_lts ho s hs
theorem obI_new {B : Nat} (hv : v.ownBlock = vP.ownBlock ∨ v.ownBlock = some B) : obI v = obI vP ∨ obI v = [B] := by
 rcases hv with h | h
 ·exact .inl (by unfold obI; rw [h])
 ·exact .inr (obI_some h)
theorem grown_tch {o : Obj} (hg : (w.alloc o).grownBy w1 v.ownBlock) : Tch w w1 (obI v) := ((Tch.refl w _).alloc o).trans (Tch.of_grown' hg (fun g e => by rw [obI_some e]; simp))
theorem RepI.growP {o : Obj} {e : List Value} (h : RepI w t vP nP pr vL nL lv L) (hl : lv.length = L.length) (ho : w1.ownsRow 0 74 4 v (nP + 1) (pr ++ e)) (hg : (w.alloc o).grownBy w1 vP.ownBlock)
  (hv : v.ownBlock = vP.ownBlock ∨ v.ownBlock = some (w.alloc o).heap.size) :
  RepI (w1.setCell ⟨t, 0, none⟩ v) t v (nP + 1) (pr ++ e) vL nL lv L ∧ Goes w (w1.setCell ⟨t, 0, none⟩ v) (t :: (obI vP ++ (obI vL ++ lv.flatMap obI))) (t :: (obI v ++ (obI vL ++ lv.flatMap obI))) ∧ w1.frozen? ⟨t, 0, none⟩ = false ∧ ∃ u, w1.cell? ⟨t, 0, none⟩ = some u := by
 have hlt := h.lts hl
 have hT := grown_tch hg
 have hnd := h.nod
 rw [List.nodup_cons, List.nodup_append] at hnd
 obtain ⟨n1, n2, n3, n4⟩ := hnd
 have hob := obI_new hv
 rw [zA] at hob
 have ht : t ∉ obI vP := fun hm => n1 (List.mem_append_left _ hm)
 have hrest : ∀ s ∈ obI vL ++ lv.flatMap obI, s ∉ obI vP := fun s hs hm => n4 s hm s hs rfl
 have hB := hT.blk h.blk ht
 have htv : t ∉ obI v := by
  rcases hob with e1 | e1
  ·rw [e1]; exact ht
  ·rw [e1, List.mem_singleton]; have := h.blk.lt; omega
 have hrv : ∀ s ∈ obI vL ++ lv.flatMap obI, s ∉ obI v := fun s hs => by
  rcases hob with e1 | e1
  ·rw [e1]; exact hrest s hs
  ·rw [e1, List.mem_singleton]
   have := hlt s (List.mem_cons_of_mem _ (List.mem_append_right _ hs))
   omega
 have hTs : Tch w1 (w1.setCell ⟨t, 0, none⟩ v) [t] := (Tch.refl w1 [t]).set_ (p := ⟨t, 0, none⟩) (by simp) v
 have htr : ∀ s ∈ obI vL ++ lv.flatMap obI, s ∉ [t] := fun s hs hm => n1 (by rw [List.mem_singleton.1 hm] at hs; exact List.mem_append_right _ hs)
 refine ⟨⟨?_, hB.set_ 0 _, own_tch ho hTs (fun s hs hm => htv (by rw [List.mem_singleton.1 hm] at hs; exact hs)), own_tch (own_tch h.rowL hT (fun s hs => hrest s (List.mem_append_left _ hs))) hTs (fun s hs => htr s (List.mem_append_left _ hs)), fun i l hl2 => ?_⟩, ⟨?_, fun s hs => ?_⟩, hB.frozen 0, _, hB.cell 0⟩
 ·rw [List.nodup_cons, List.nodup_append]
  refine ⟨fun hm => ?_, ?_, n3, fun a ha b hb e => hrv b hb (e ▸ ha)⟩
  ·rcases List.mem_append.1 hm with h1 | h1
   ·exact htv h1
   ·exact n1 (List.mem_append_right _ h1)
  ·rcases hob with e1 | e1
   ·rw [e1]; exact n2
   ·rw [e1]; simp
 ·obtain ⟨A, c, e2, ho2⟩ := h.inn i l hl2
  have hm : ∀ s ∈ obI (.slice A l.length c), s ∈ obI vL ++ lv.flatMap obI := fun s hs => List.mem_append_right _ (List.mem_flatMap.2 ⟨_, List.mem_of_getElem? e2, hs⟩)
  exact ⟨A, c, e2, own_tch (own_tch ho2 hT (fun s hs => hrest s (hm s hs))) hTs (fun s hs => htr s (hm s hs))⟩
 ·exact (hT.mono (fun s hs => List.mem_cons_of_mem _ (List.mem_append_left _ hs))).set_ (p := ⟨t, 0, none⟩) (by simp) _
 ·rcases List.mem_cons.1 hs with h1 | h1
  ·exact .inl (by rw [h1]; simp)
  rcases List.mem_append.1 h1 with h1 | h1
  ·rcases hob with e1 | e1
   ·rw [e1] at h1; exact .inl (List.mem_cons_of_mem _ (List.mem_append_left _ h1))
   ·rw [e1, List.mem_singleton] at h1; exact .inr (by omega)
  ·exact .inl (List.mem_cons_of_mem _ (List.mem_append_right _ h1))
theorem RepI.growL {o : Obj} (h : RepI w t vP nP pr vL nL lv L) (hl : lv.length = L.length) (ho : w1.ownsRow 0 132 1 v (nL + 1) (lv ++ [Value.slice none 0 0])) (hg : (w.alloc o).grownBy w1 vL.ownBlock)
  (hv : v.ownBlock = vL.ownBlock ∨ v.ownBlock = some (w.alloc o).heap.size) :
  RepI (w1.setCell ⟨t, 1, none⟩ v) t vP nP pr v (nL + 1) (lv ++ [Value.slice none 0 0]) (L ++ [[]]) ∧ Goes w (w1.setCell ⟨t, 1, none⟩ v) (t :: (obI vP ++ (obI vL ++ lv.flatMap obI))) (t :: (obI vP ++ (obI v ++ (lv ++ [Value.slice none 0 0]).flatMap obI))) ∧
   w1.frozen? ⟨t, 1, none⟩ = false ∧ ∃ u, w1.cell? ⟨t, 1, none⟩ = some u := by
 have hlt := h.lts hl
 have hT := grown_tch hg
 have hnd := h.nod
 have efl : (lv ++ [Value.slice none 0 0]).flatMap obI = lv.flatMap obI := by rw [List.flatMap_append]; simp [obI, Value.ownBlock]
 rw [efl]
 rw [List.nodup_cons, List.nodup_append, List.nodup_append] at hnd
 obtain ⟨n1, n2, ⟨n3, n5, n6⟩, n4⟩ := hnd
 have hob := obI_new hv
 rw [zA] at hob
 have ht : t ∉ obI vL := fun hm => n1 (List.mem_append_right _ (List.mem_append_left _ hm))
 have hP : ∀ s ∈ obI vP, s ∉ obI vL := fun s hs hm => n4 s hs s (List.mem_append_left _ hm) rfl
 have hI : ∀ s ∈ lv.flatMap obI, s ∉ obI vL := fun s hs hm => n6 s hm s hs rfl
 have hB := hT.blk h.blk ht
 have hnew : ∀ s, s < w.heap.size → s ∉ obI vL → s ∉ obI v := fun s hs hn => by
  rcases hob with e1 | e1
  ·rw [e1]; exact hn
  ·rw [e1, List.mem_singleton]; omega
 have htv := hnew t h.blk.lt ht
 have hTs : Tch w1 (w1.setCell ⟨t, 1, none⟩ v) [t] := (Tch.refl w1 [t]).set_ (p := ⟨t, 1, none⟩) (by simp) v
 have hPt : ∀ s ∈ obI vP, s ∉ [t] := fun s hs hm => n1 (by rw [List.mem_singleton.1 hm] at hs; exact List.mem_append_left _ hs)
 have hIt : ∀ s ∈ lv.flatMap obI, s ∉ [t] := fun s hs hm => n1 (by rw [List.mem_singleton.1 hm] at hs; exact List.mem_append_right _ (List.mem_append_right _ hs))
 have hltP : ∀ s ∈ obI vP, s < w.heap.size := fun s hs => hlt s (List.mem_cons_of_mem _ (List.mem_append_left _ hs))
 have hltI : ∀ s ∈ lv.flatMap obI, s < w.heap.size := fun s hs => hlt s (List.mem_cons_of_mem _ (List.mem_append_right _ (List.mem_append_right _ hs)))
 refine ⟨⟨?_, hB.set_ 1 _, own_tch (own_tch h.rowP hT hP) hTs hPt, own_tch ho hTs (fun s hs hm => htv (by rw [List.mem_singleton.1 hm] at hs; exact hs)), fun i l hl2 => ?_⟩, ⟨?_, fun s hs => ?_⟩, hB.frozen 1, _, hB.cell 1⟩
 ·rw [efl, List.nodup_cons, List.nodup_append, List.nodup_append]
  refine ⟨fun hm => ?_, n2, ⟨?_, n5, fun a ha b hb e => hnew b (hltI b hb) (hI b hb) (e ▸ ha)⟩, fun a ha b hb e => ?_⟩
  ·rcases List.mem_append.1 hm with h1 | h1
   ·exact n1 (List.mem_append_left _ h1)
   rcases List.mem_append.1 h1 with h1 | h1
   ·exact htv h1
   ·exact n1 (List.mem_append_right _ (List.mem_append_right _ h1))
  ·rcases hob with e1 | e1
   ·rw [e1]; exact n3
   ·rw [e1]; simp
  ·subst e
   rcases List.mem_append.1 hb with h1 | h1
   ·exact hnew a (hltP a ha) (hP a ha) h1
   ·exact n4 a ha a (List.mem_append_right _ h1) rfl
 ·rcases Nat.lt_or_ge i L.length with h1 | h1
  ·rw [List.getElem?_append_left h1] at hl2
   obtain ⟨A, c, e2, ho2⟩ := h.inn i l hl2
   have hm : ∀ s ∈ obI (.slice A l.length c), s ∈ lv.flatMap obI := fun s hs => List.mem_flatMap.2 ⟨_, List.mem_of_getElem? e2, hs⟩
   exact ⟨A, c, by rw [List.getElem?_append_left (by omega)]; exact e2, own_tch (own_tch ho2 hT (fun s hs => hI s (hm s hs))) hTs (fun s hs => hIt s (hm s hs))⟩
  ·rw [List.getElem?_append_right h1] at hl2
   have hi : i = L.length := by have := (List.getElem?_eq_some_iff.1 hl2).1; simp at this; omega
   subst hi
   simp at hl2
   subst hl2
   exact ⟨none, 0, by rw [List.getElem?_append_right (by omega), hl]; simp, ⟨rfl, .inl ⟨rfl, rfl⟩⟩⟩
 ·exact (hT.mono (fun s hs => List.mem_cons_of_mem _ (List.mem_append_right _ (List.mem_append_left _ hs)))).set_ (p := ⟨t, 1, none⟩) (by simp) _
 ·rcases List.mem_cons.1 hs with h1 | h1
  ·exact .inl (by rw [h1]; simp)
  rcases List.mem_append.1 h1 with h1 | h1
  ·exact .inl (List.mem_cons_of_mem _ (List.mem_append_left _ h1))
  rcases List.mem_append.1 h1 with h1 | h1
  ·rcases hob with e1 | e1
   ·rw [e1] at h1; exact .inl (List.mem_cons_of_mem _ (List.mem_append_right _ (List.mem_append_left _ h1)))
   ·rw [e1, List.mem_singleton] at h1; exact .inr (by omega)
  ·exact .inl (List.mem_cons_of_mem _ (List.mem_append_right _ (List.mem_append_right _ h1)))
end
end Go.Proofs.YtgfkmgbcajdcdaaGreatDoor.Ifs
