/-
  Several texts in one: PRCo, IfS, IfL, IfH, IfJ.
-/
import Derived.Test.YtgfkmgbcajdcdaaGreatDoorZar
import Derived.Test.YtgfkmgbcajdcdaaGreatDoorZad
import Derived.Test.YtgfkmgbcajdcdaaGreatDoorZas
import Derived.Deep.RegionHeld3
import Derived.BigGuard
import Derived.StillTailTactics
import Derived.Test.YtgfkmgbcajdcdaaGreatDoorZav
import Derived.Test.YtgfkmgbcajdcdaaGreatDoorZaa
set_option linter.unusedVariables false
set_option maxRecDepth 100000
set_option maxHeartbeats 16000000
namespace Go.Proofs.YtgfkmgbcajdcdaaGreatDoor
open Go.RowKit

theorem rcom_n1 (s : Bool) (h l : Nat) (s' : Bool) (h' l' : Nat) (v : vld s h l = false) (w : World) :
  Calls Tryz.prog 113 #[adr s h l, adr s' h' l'] w fun e w' => e = .returned (.int .i64 (-1)) ∧ Below w.heap.size w w' := by
 obtain ⟨V1, hV1⟩ : ∃ V, vld s h l = V := ⟨_, rfl⟩
 obtain ⟨V2, hV2⟩ : ∃ V, vld s' h' l' = V := ⟨_, rfl⟩
 have H1 := lH (fun w => rvalid_at s h l w hV1)
 have H2 := lH (fun w => rvalid_at s' h' l' w hV2)
 rw [v] at hV1
 subst hV1
 clear v hV2
 go_enter Tryz.func113, Tryz.ntmps113
 go_wp2_with fail
 refine cZm (H1.out _) ?_
 rintro e w1 ⟨rfl, hb⟩
 have K1 := lH ((Blk.new w 28 #[.bool s, .int .u64 h, .int .u64 l]).alloc (.cells #[.bool s', .int .u64 h', .int .u64 l'] 28) |>.below hb (by simp only [zA]; omega))
 have Q1 := lH ((Blk.new (w.alloc (.cells #[.bool s, .int .u64 h, .int .u64 l] 28)) 28 #[.bool s', .int .u64 h', .int .u64 l']).below hb (by simp only [zA]; omega))
 rw [zA] at Q1
 have L1 := lH ((((Below.refl _ w).alloc (Nat.le_refl _) _).alloc (by simp) _).trans (hb.mono (by simp only [zA]; omega)))
 have s1 : w.heap.size + 1 < w1.heap.size := by have := hb.size; simp only [zA] at this; omega
 clear hb
 obtain ⟨f0, f1, f2⟩ := K1.out.c3
 obtain ⟨g0, g1, g2⟩ := Q1.out.c3
 go_wp2_with fail
 refine cZm (H2.out _) ?_
 rintro e w2 ⟨rfl, hb⟩
 clear f0 f1 f2 g0 g1 g2
 have K2 := lH (K1.out.below hb K1.out.lt)
 have Q2 := lH (Q1.out.below hb Q1.out.lt)
 have L2 := lH (L1.out.trans (hb.mono L1.out.size))
 have s2 : w.heap.size + 1 < w2.heap.size := by have := hb.size; omega
 clear hb
 obtain ⟨f0, f1, f2⟩ := K2.out.c3
 obtain ⟨g0, g1, g2⟩ := Q2.out.c3
 clear f0 f1 f2 g0 g1 g2
 go_wp2
 go_ret
 exact ⟨rfl, L2.out⟩

theorem rcom_n2 (s : Bool) (h l : Nat) (s' : Bool) (h' l' : Nat) (v : vld s h l = true) (v' : vld s' h' l' = false) (w : World) :
  Calls Tryz.prog 113 #[adr s h l, adr s' h' l'] w fun e w' => e = .returned (.int .i64 (-1)) ∧ Below w.heap.size w w' := by
 obtain ⟨V1, hV1⟩ : ∃ V, vld s h l = V := ⟨_, rfl⟩
 obtain ⟨V2, hV2⟩ : ∃ V, vld s' h' l' = V := ⟨_, rfl⟩
 have H1 := lH (fun w => rvalid_at s h l w hV1)
 have H2 := lH (fun w => rvalid_at s' h' l' w hV2)
 rw [v] at hV1
 rw [v'] at hV2
 subst hV1 hV2
 clear v v'
 go_enter Tryz.func113, Tryz.ntmps113
 go_wp2_with fail
 refine cZm (H1.out _) ?_
 rintro e w1 ⟨rfl, hb⟩
 have K1 := lH ((Blk.new w 28 #[.bool s, .int .u64 h, .int .u64 l]).alloc (.cells #[.bool s', .int .u64 h', .int .u64 l'] 28) |>.below hb (by simp only [zA]; omega))
 have Q1 := lH ((Blk.new (w.alloc (.cells #[.bool s, .int .u64 h, .int .u64 l] 28)) 28 #[.bool s', .int .u64 h', .int .u64 l']).below hb (by simp only [zA]; omega))
 rw [zA] at Q1
 have L1 := lH ((((Below.refl _ w).alloc (Nat.le_refl _) _).alloc (by simp) _).trans (hb.mono (by simp only [zA]; omega)))
 have s1 : w.heap.size + 1 < w1.heap.size := by have := hb.size; simp only [zA] at this; omega
 clear hb
 obtain ⟨f0, f1, f2⟩ := K1.out.c3
 obtain ⟨g0, g1, g2⟩ := Q1.out.c3
 go_wp2_with fail
 refine cZm (H2.out _) ?_
 rintro e w2 ⟨rfl, hb⟩
 clear f0 f1 f2 g0 g1 g2
 have K2 := lH (K1.out.below hb K1.out.lt)
 have Q2 := lH (Q1.out.below hb Q1.out.lt)
 have L2 := lH (L1.out.trans (hb.mono L1.out.size))
 have s2 : w.heap.size + 1 < w2.heap.size := by have := hb.size; omega
 clear hb
 obtain ⟨f0, f1, f2⟩ := K2.out.c3
 obtain ⟨g0, g1, g2⟩ := Q2.out.c3
 clear f0 f1 f2 g0 g1 g2
 go_wp2
 go_ret
 exact ⟨rfl, L2.out⟩

theorem rcom_n3 (s : Bool) (h l : Nat) (s' : Bool) (h' l' : Nat) (v : vld s h l = true) (v' : vld s' h' l' = true) (ne : ¬ s = s') (w : World) :
  Calls Tryz.prog 113 #[adr s h l, adr s' h' l'] w fun e w' => e = .returned (.int .i64 (-1)) ∧ Below w.heap.size w w' := by
 obtain ⟨V1, hV1⟩ : ∃ V, vld s h l = V := ⟨_, rfl⟩
 obtain ⟨V2, hV2⟩ : ∃ V, vld s' h' l' = V := ⟨_, rfl⟩
 have H1 := lH (fun w => rvalid_at s h l w hV1)
 have H2 := lH (fun w => rvalid_at s' h' l' w hV2)
 rw [v] at hV1
 rw [v'] at hV2
 subst hV1 hV2
 clear v v'
 cases s <;> cases s'
 ·exact absurd rfl ne
 ·skip
  go_enter Tryz.func113, Tryz.ntmps113
  go_wp2_with fail
  refine cZm (H1.out _) ?_
  rintro e w1 ⟨rfl, hb⟩
  have K1 := lH ((Blk.new w 28 #[.bool false, .int .u64 h, .int .u64 l]).alloc (.cells #[.bool true, .int .u64 h', .int .u64 l'] 28) |>.below hb (by simp only [zA]; omega))
  have Q1 := lH ((Blk.new (w.alloc (.cells #[.bool false, .int .u64 h, .int .u64 l] 28)) 28 #[.bool true, .int .u64 h', .int .u64 l']).below hb (by simp only [zA]; omega))
  rw [zA] at Q1
  have L1 := lH ((((Below.refl _ w).alloc (Nat.le_refl _) _).alloc (by simp) _).trans (hb.mono (by simp only [zA]; omega)))
  have s1 : w.heap.size + 1 < w1.heap.size := by have := hb.size; simp only [zA] at this; omega
  clear hb
  obtain ⟨f0, f1, f2⟩ := K1.out.c3
  obtain ⟨g0, g1, g2⟩ := Q1.out.c3
  go_wp2_with fail
  refine cZm (H2.out _) ?_
  rintro e w2 ⟨rfl, hb⟩
  clear f0 f1 f2 g0 g1 g2
  have K2 := lH (K1.out.below hb K1.out.lt)
  have Q2 := lH (Q1.out.below hb Q1.out.lt)
  have L2 := lH (L1.out.trans (hb.mono L1.out.size))
  have s2 : w.heap.size + 1 < w2.heap.size := by have := hb.size; omega
  clear hb
  obtain ⟨f0, f1, f2⟩ := K2.out.c3
  obtain ⟨g0, g1, g2⟩ := Q2.out.c3
  go_wp2
  go_ret
  exact ⟨rfl, L2.out⟩
 ·skip
  go_enter Tryz.func113, Tryz.ntmps113
  go_wp2_with fail
  refine cZm (H1.out _) ?_
  rintro e w1 ⟨rfl, hb⟩
  have K1 := lH ((Blk.new w 28 #[.bool true, .int .u64 h, .int .u64 l]).alloc (.cells #[.bool false, .int .u64 h', .int .u64 l'] 28) |>.below hb (by simp only [zA]; omega))
  have Q1 := lH ((Blk.new (w.alloc (.cells #[.bool true, .int .u64 h, .int .u64 l] 28)) 28 #[.bool false, .int .u64 h', .int .u64 l']).below hb (by simp only [zA]; omega))
  rw [zA] at Q1
  have L1 := lH ((((Below.refl _ w).alloc (Nat.le_refl _) _).alloc (by simp) _).trans (hb.mono (by simp only [zA]; omega)))
  have s1 : w.heap.size + 1 < w1.heap.size := by have := hb.size; simp only [zA] at this; omega
  clear hb
  obtain ⟨f0, f1, f2⟩ := K1.out.c3
  obtain ⟨g0, g1, g2⟩ := Q1.out.c3
  go_wp2_with fail
  refine cZm (H2.out _) ?_
  rintro e w2 ⟨rfl, hb⟩
  clear f0 f1 f2 g0 g1 g2
  have K2 := lH (K1.out.below hb K1.out.lt)
  have Q2 := lH (Q1.out.below hb Q1.out.lt)
  have L2 := lH (L1.out.trans (hb.mono L1.out.size))
  have s2 : w.heap.size + 1 < w2.heap.size := by have := hb.size; omega
  clear hb
  obtain ⟨f0, f1, f2⟩ := K2.out.c3
  obtain ⟨g0, g1, g2⟩ := Q2.out.c3
  go_wp2
  go_ret
  exact ⟨rfl, L2.out⟩
 ·exact absurd rfl ne

theorem com_step (n m W k : Nat) (hk : k < W) : (bt n W k = bt m W k → cmn (W - k) n m = cmn (W - (k + 1)) n m + 1) ∧ (¬ bt n W k = bt m W k → cmn (W - k) n m = 0) := by
 have e : W - k = (W - (k + 1)) + 1 := by omega
 rw [e, cmn_succ]
 unfold bt
 rw [show W - 1 - k = W - (k + 1) by omega]
 exact ⟨fun h => if_pos h, fun h => if_neg h⟩

theorem rcom_yes (s : Bool) (h l h' l' : Nat) (hh : N64 h) (hl : N64 l) (hh' : N64 h') (hl' : N64 l') (v : vld s h l = true) (v' : vld s h' l' = true) (w : World) :
  Calls Tryz.prog 113 #[adr s h l, adr s h' l'] w fun e w' => e = .returned (.int .i64 (comV s h l s h' l')) ∧ Below w.heap.size w w' := by
 have H1 := lH (fun w => rvalid_at s h l w v)
 have H2 := lH (fun w => rvalid_at s h' l' w v')
 obtain ⟨W, hW⟩ : ∃ W, (wd s : Int) = W := ⟨_, rfl⟩
 have HW := lH (fun w => rwidth_at s h l W hW w)
 have HWd := lH hW
 have W1 : W ≤ 128 := by rw [← hW]; unfold wd; split <;> omega
 obtain ⟨R, hR⟩ : ∃ R, comV s h l s h' l' = R := ⟨_, rfl⟩
 have HR : Hid ((cmn (wd s) (nm h l) (nm h' l') : Int) = R) := lH (by rw [← hR]; unfold comV; rw [if_pos ⟨v, v', rfl⟩])
 rw [hR]
 have hh := lH hh
 have hl := lH hl
 have hh' := lH hh'
 have hl' := lH hl'
 have v := lH v
 have v' := lH v'
 clear hW hR
 go_enter Tryz.func113, Tryz.ntmps113
 go_wp2_with fail
 refine cZm (H1.out _) ?_
 rintro e w1 ⟨rfl, hb⟩
 have K1 := lH ((Blk.new w 28 #[.bool s, .int .u64 h, .int .u64 l]).alloc (.cells #[.bool s, .int .u64 h', .int .u64 l'] 28) |>.below hb (by simp only [zA]; omega))
 have Q1 := lH ((Blk.new (w.alloc (.cells #[.bool s, .int .u64 h, .int .u64 l] 28)) 28 #[.bool s, .int .u64 h', .int .u64 l']).below hb (by simp only [zA]; omega))
 rw [zA] at Q1
 have L1 := lH ((((Below.refl _ w).alloc (Nat.le_refl _) _).alloc (by simp) _).trans (hb.mono (by simp only [zA]; omega)))
 have s1 : w.heap.size + 1 < w1.heap.size := by have := hb.size; simp only [zA] at this; omega
 clear hb
 obtain ⟨f0, f1, f2⟩ := K1.out.c3
 obtain ⟨g0, g1, g2⟩ := Q1.out.c3
 go_wp2_with fail
 refine cZm (H2.out _) ?_
 rintro e w2 ⟨rfl, hb⟩
 clear f0 f1 f2 g0 g1 g2
 have K2 := lH (K1.out.below hb K1.out.lt)
 have Q2 := lH (Q1.out.below hb Q1.out.lt)
 have L2 := lH (L1.out.trans (hb.mono L1.out.size))
 have s2 : w.heap.size + 1 < w2.heap.size := by have := hb.size; omega
 clear hb
 obtain ⟨f0, f1, f2⟩ := K2.out.c3
 obtain ⟨g0, g1, g2⟩ := Q2.out.c3
 go_wp2
 clear f0 f1 f2 g0 g1 g2
 go_loopw [7] (fun n wr => ∃ k : Nat, k ≤ wd s ∧ n = .int .i64 (k : Int) ∧ Blk wr w.heap.size 28 #[.bool s, .int .u64 h, .int .u64 l] ∧ Blk wr (w.heap.size + 1) 28 #[.bool s, .int .u64 h', .int .u64 l'] ∧ Below w.heap.size w wr ∧ cmn (wd s) (nm h l) (nm h' l') = k + cmn (wd s - k) (nm h l) (nm h' l')) (fun n _ => (wd s - intOf n).toNat)
 case atStart => exact ⟨0, by omega, rfl, K2.out, Q2.out, L2.out, by simp⟩
 case round =>
  obtain ⟨k, hk, rfl, hkk, hqq, hbel, hcm⟩ := hrel
  have HK := lH hkk
  have HQ := lH hqq
  have HL := lH hbel
  have HCM := lH hcm
  have kW : (k : Int) ≤ W := by have := HWd.out; omega
  have k0 : (0 : Int) ≤ k := by omega
  clear hkk hqq hbel hcm
  by_cases hlt : k < wd s
  ·have gd : decide ((k : Int) < W) = true := by have := HWd.out; simp; omega
   obtain ⟨b1, hb1⟩ : ∃ b, bt (nm h l) (wd s) k = b := ⟨_, rfl⟩
   obtain ⟨b2, hb2⟩ : ∃ b, bt (nm h' l') (wd s) k = b := ⟨_, rfl⟩
   have HB1 := lH (fun w => rbit_any s h l k hh.out hl.out v.out hlt hb1 w)
   have HB2 := lH (fun w => rbit_any s h' l' k hh'.out hl'.out v'.out hlt hb2 w)
   have HS := lH (com_step (nm h l) (nm h' l') (wd s) k hlt)
   by_cases hbb : b1 = b2
   ·have HS2 := lH (HS.out.1 (by rw [hb1, hb2]; exact hbb))
    have gb : ((b1 : Int) == (b2 : Int)) = true := by simp [hbb]
    clear HS hb1 hb2 hbb hlt
    have HC : Hid (∀ W', Below wr.heap.size wr W' → W'.cell? ⟨w.heap.size, 0, none⟩ = some (.bool s) ∧ W'.cell? ⟨w.heap.size, 1, none⟩ = some (.int .u64 h) ∧ W'.cell? ⟨w.heap.size, 2, none⟩ = some (.int .u64 l) ∧ W'.cell? ⟨w.heap.size + 1, 0, none⟩ = some (.bool s) ∧ W'.cell? ⟨w.heap.size + 1, 1, none⟩ = some (.int .u64 h') ∧ W'.cell? ⟨w.heap.size + 1, 2, none⟩ = some (.int .u64 l')) := by
     show ∀ W', _ → _
     intro W' hB
     obtain ⟨a0, a1, a2⟩ := (HK.out.below hB HK.out.lt).c3
     obtain ⟨b0, b1, b2⟩ := (HQ.out.below hB HQ.out.lt).c3
     exact ⟨a0, a1, a2, b0, b1, b2⟩
    have hR : Below wr.heap.size wr wr.drew := (Below.refl _ _).drew
    go_wp2
    refine wp_region_held_drew (S := (fun w' => w'.cell? ⟨w.heap.size, 0, none⟩ = some (.bool s) ∧ w'.cell? ⟨w.heap.size, 1, none⟩ = some (.int .u64 h) ∧ w'.cell? ⟨w.heap.size, 2, none⟩ = some (.int .u64 l) ∧ w'.cell? ⟨w.heap.size + 1, 0, none⟩ = some (.bool s) ∧ w'.cell? ⟨w.heap.size + 1, 1, none⟩ = some (.int .u64 h') ∧ w'.cell? ⟨w.heap.size + 1, 2, none⟩ = some (.int .u64 l'))) (by kernel_rfl) ?_ (fun hHeld => ?_)
    ·exact HC.out _ hR
    refine tkH 0 ?_
    refine tkH 1 ?_
    refine wpAnyH_ready (rs := [2]) (by kernel_rfl) (by simp) ?_
    refine AllReadyH.cons (o := { dst := some 27, op := Go.Op.call { callee := Go.Callee.value (Go.Operand.func 103), args := #[Go.Operand.tmp 26], argTypes := #[28] }, type := 3, pos := "ref.go:76", after := #[{ on := 1, ground := Go.Ground.data }], guard := none }) rfl (fun K hK => ?_) AllReadyH.nil
    go_simp
    (go_at_call 103; (with_reducible refine cZm (HW.out _) ?_); rintro e W' ⟨rfl, hb⟩; replace hR := hR.trans (hb.mono hR.size); clear hb)
    go_wp2_with fail
    refine hK.out _ _ ?_ (fun hHeld => ?_)
    ·exact HC.out _ hR
    clear hK K
    try simp only [Act.put, List.setIfInBounds_toArray, List.set_cons_zero, List.set_cons_succ]
    refine tkH 3 ?_
    refine tkH 4 ?_
    refine tkH 5 ?_
    refine tkH 6 ?_
    refine tkH 8 ?_
    refine tkH 9 ?_
    refine wpAnyH_ready (rs := [7]) (by kernel_rfl) (by simp) ?_
    refine AllReadyH.cons (o := { dst := some 32, op := Go.Op.call { callee := Go.Callee.value (Go.Operand.func 141), args := #[Go.Operand.tmp 30, Go.Operand.tmp 31], argTypes := #[28, 3] }, type := 3, pos := "ref.go:76", after := #[{ on := 5, ground := Go.Ground.data }, { on := 6, ground := Go.Ground.data }, { on := 4, ground := Go.Ground.chain }, { on := 4, ground := Go.Ground.guard }], guard := some (4, true) }) rfl (fun K hK => ?_) AllReadyH.nil
    go_simp
    (go_at_call 141; (with_reducible refine cZm (HB1.out _) ?_); rintro e W' ⟨rfl, hb⟩; replace hR := hR.trans (hb.mono hR.size); clear hb)
    go_wp2_with fail
    refine hK.out _ _ ?_ (fun hHeld => ?_)
    ·exact HC.out _ hR
    clear hK K
    try simp only [Act.put, List.setIfInBounds_toArray, List.set_cons_zero, List.set_cons_succ]
    refine wpAnyH_ready (rs := [10]) (by kernel_rfl) (by simp) ?_
    refine AllReadyH.cons (o := { dst := some 35, op := Go.Op.call { callee := Go.Callee.value (Go.Operand.func 141), args := #[Go.Operand.tmp 33, Go.Operand.tmp 34], argTypes := #[28, 3] }, type := 3, pos := "ref.go:76", after := #[{ on := 8, ground := Go.Ground.data }, { on := 9, ground := Go.Ground.data }, { on := 7, ground := Go.Ground.chain }, { on := 4, ground := Go.Ground.guard }], guard := some (4, true) }) rfl (fun K hK => ?_) AllReadyH.nil
    go_simp
    (go_at_call 141; (with_reducible refine cZm (HB2.out _) ?_); rintro e W' ⟨rfl, hb⟩; replace hR := hR.trans (hb.mono hR.size); clear hb)
    go_wp2_with fail
    refine hK.out _ _ ?_ (fun hHeld => ?_)
    ·exact HC.out _ hR
    clear hK K
    try simp only [Act.put, List.setIfInBounds_toArray, List.set_cons_zero, List.set_cons_succ]
    refine tkH 11 ?_
    refine tkH 12 ?_
    refine wpAnyH_done (by kernel_rfl) ?_ _
    have L5 := lH (HL.out.trans (hR.mono HL.out.size))
    have K5 := lH (HK.out.below hR HK.out.lt)
    have Q5 := lH (HQ.out.below hR HQ.out.lt)
    have lt5 : k < wd s := by have := HWd.out; simp at gd; omega
    clear hR gb gd
    go_wp2
    go_roundw
    case rel => exact ⟨k + 1, by omega, by go_num, K5.out, Q5.out, L5.out, by have := HCM.out; have := HS2.out; omega⟩
    case measure => simp [intOf]; omega
   ·have HS2 := lH (HS.out.2 (by rw [hb1, hb2]; exact hbb))
    have gb : ((b1 : Int) == (b2 : Int)) = false := by simp; omega
    clear HS hb1 hb2 hlt
    have HC : Hid (∀ W', Below wr.heap.size wr W' → W'.cell? ⟨w.heap.size, 0, none⟩ = some (.bool s) ∧ W'.cell? ⟨w.heap.size, 1, none⟩ = some (.int .u64 h) ∧ W'.cell? ⟨w.heap.size, 2, none⟩ = some (.int .u64 l) ∧ W'.cell? ⟨w.heap.size + 1, 0, none⟩ = some (.bool s) ∧ W'.cell? ⟨w.heap.size + 1, 1, none⟩ = some (.int .u64 h') ∧ W'.cell? ⟨w.heap.size + 1, 2, none⟩ = some (.int .u64 l')) := by
     show ∀ W', _ → _
     intro W' hB
     obtain ⟨a0, a1, a2⟩ := (HK.out.below hB HK.out.lt).c3
     obtain ⟨b0, b1, b2⟩ := (HQ.out.below hB HQ.out.lt).c3
     exact ⟨a0, a1, a2, b0, b1, b2⟩
    have hR : Below wr.heap.size wr wr.drew := (Below.refl _ _).drew
    go_wp2
    refine wp_region_held_drew (S := (fun w' => w'.cell? ⟨w.heap.size, 0, none⟩ = some (.bool s) ∧ w'.cell? ⟨w.heap.size, 1, none⟩ = some (.int .u64 h) ∧ w'.cell? ⟨w.heap.size, 2, none⟩ = some (.int .u64 l) ∧ w'.cell? ⟨w.heap.size + 1, 0, none⟩ = some (.bool s) ∧ w'.cell? ⟨w.heap.size + 1, 1, none⟩ = some (.int .u64 h') ∧ w'.cell? ⟨w.heap.size + 1, 2, none⟩ = some (.int .u64 l'))) (by kernel_rfl) ?_ (fun hHeld => ?_)
    ·exact HC.out _ hR
    refine tkH 0 ?_
    refine tkH 1 ?_
    refine wpAnyH_ready (rs := [2]) (by kernel_rfl) (by simp) ?_
    refine AllReadyH.cons (o := { dst := some 27, op := Go.Op.call { callee := Go.Callee.value (Go.Operand.func 103), args := #[Go.Operand.tmp 26], argTypes := #[28] }, type := 3, pos := "ref.go:76", after := #[{ on := 1, ground := Go.Ground.data }], guard := none }) rfl (fun K hK => ?_) AllReadyH.nil
    go_simp
    (go_at_call 103; (with_reducible refine cZm (HW.out _) ?_); rintro e W' ⟨rfl, hb⟩; replace hR := hR.trans (hb.mono hR.size); clear hb)
    go_wp2_with fail
    refine hK.out _ _ ?_ (fun hHeld => ?_)
    ·exact HC.out _ hR
    clear hK K
    try simp only [Act.put, List.setIfInBounds_toArray, List.set_cons_zero, List.set_cons_succ]
    refine tkH 3 ?_
    refine tkH 4 ?_
    refine tkH 5 ?_
    refine tkH 6 ?_
    refine tkH 8 ?_
    refine tkH 9 ?_
    refine wpAnyH_ready (rs := [7]) (by kernel_rfl) (by simp) ?_
    refine AllReadyH.cons (o := { dst := some 32, op := Go.Op.call { callee := Go.Callee.value (Go.Operand.func 141), args := #[Go.Operand.tmp 30, Go.Operand.tmp 31], argTypes := #[28, 3] }, type := 3, pos := "ref.go:76", after := #[{ on := 5, ground := Go.Ground.data }, { on := 6, ground := Go.Ground.data }, { on := 4, ground := Go.Ground.chain }, { on := 4, ground := Go.Ground.guard }], guard := some (4, true) }) rfl (fun K hK => ?_) AllReadyH.nil
    go_simp
    (go_at_call 141; (with_reducible refine cZm (HB1.out _) ?_); rintro e W' ⟨rfl, hb⟩; replace hR := hR.trans (hb.mono hR.size); clear hb)
    go_wp2_with fail
    refine hK.out _ _ ?_ (fun hHeld => ?_)
    ·exact HC.out _ hR
    clear hK K
    try simp only [Act.put, List.setIfInBounds_toArray, List.set_cons_zero, List.set_cons_succ]
    refine wpAnyH_ready (rs := [10]) (by kernel_rfl) (by simp) ?_
    refine AllReadyH.cons (o := { dst := some 35, op := Go.Op.call { callee := Go.Callee.value (Go.Operand.func 141), args := #[Go.Operand.tmp 33, Go.Operand.tmp 34], argTypes := #[28, 3] }, type := 3, pos := "ref.go:76", after := #[{ on := 8, ground := Go.Ground.data }, { on := 9, ground := Go.Ground.data }, { on := 7, ground := Go.Ground.chain }, { on := 4, ground := Go.Ground.guard }], guard := some (4, true) }) rfl (fun K hK => ?_) AllReadyH.nil
    go_simp
    (go_at_call 141; (with_reducible refine cZm (HB2.out _) ?_); rintro e W' ⟨rfl, hb⟩; replace hR := hR.trans (hb.mono hR.size); clear hb)
    go_wp2_with fail
    refine hK.out _ _ ?_ (fun hHeld => ?_)
    ·exact HC.out _ hR
    clear hK K
    try simp only [Act.put, List.setIfInBounds_toArray, List.set_cons_zero, List.set_cons_succ]
    refine tkH 11 ?_
    refine tkH 12 ?_
    refine wpAnyH_done (by kernel_rfl) ?_ _
    have L5 := lH (HL.out.trans (hR.mono HL.out.size))
    clear hR gb gd
    go_wp2
    go_ret
    exact ⟨ret_i64 (by rw [← HR.out]; have := HCM.out; have := HS2.out; omega), L5.out⟩
  ·have gd : decide ((k : Int) < W) = false := by have := HWd.out; simp; omega
   have ek : k = wd s := by omega
   have EK := lH ek
   clear ek hlt
   have HC : Hid (∀ W', Below wr.heap.size wr W' → W'.cell? ⟨w.heap.size, 0, none⟩ = some (.bool s) ∧ W'.cell? ⟨w.heap.size, 1, none⟩ = some (.int .u64 h) ∧ W'.cell? ⟨w.heap.size, 2, none⟩ = some (.int .u64 l) ∧ W'.cell? ⟨w.heap.size + 1, 0, none⟩ = some (.bool s) ∧ W'.cell? ⟨w.heap.size + 1, 1, none⟩ = some (.int .u64 h') ∧ W'.cell? ⟨w.heap.size + 1, 2, none⟩ = some (.int .u64 l')) := by
    show ∀ W', _ → _
    intro W' hB
    obtain ⟨a0, a1, a2⟩ := (HK.out.below hB HK.out.lt).c3
    obtain ⟨b0, b1, b2⟩ := (HQ.out.below hB HQ.out.lt).c3
    exact ⟨a0, a1, a2, b0, b1, b2⟩
   have hR : Below wr.heap.size wr wr.drew := (Below.refl _ _).drew
   go_wp2
   refine wp_region_held_drew (S := (fun w' => w'.cell? ⟨w.heap.size, 0, none⟩ = some (.bool s) ∧ w'.cell? ⟨w.heap.size, 1, none⟩ = some (.int .u64 h) ∧ w'.cell? ⟨w.heap.size, 2, none⟩ = some (.int .u64 l) ∧ w'.cell? ⟨w.heap.size + 1, 0, none⟩ = some (.bool s) ∧ w'.cell? ⟨w.heap.size + 1, 1, none⟩ = some (.int .u64 h') ∧ w'.cell? ⟨w.heap.size + 1, 2, none⟩ = some (.int .u64 l'))) (by kernel_rfl) ?_ (fun hHeld => ?_)
   ·exact HC.out _ hR
   refine tkH 0 ?_
   refine tkH 1 ?_
   refine wpAnyH_ready (rs := [2]) (by kernel_rfl) (by simp) ?_
   refine AllReadyH.cons (o := { dst := some 27, op := Go.Op.call { callee := Go.Callee.value (Go.Operand.func 103), args := #[Go.Operand.tmp 26], argTypes := #[28] }, type := 3, pos := "ref.go:76", after := #[{ on := 1, ground := Go.Ground.data }], guard := none }) rfl (fun K hK => ?_) AllReadyH.nil
   go_simp
   (go_at_call 103; (with_reducible refine cZm (HW.out _) ?_); rintro e W' ⟨rfl, hb⟩; replace hR := hR.trans (hb.mono hR.size); clear hb)
   go_wp2_with fail
   refine hK.out _ _ ?_ (fun hHeld => ?_)
   ·exact HC.out _ hR
   clear hK K
   try simp only [Act.put, List.setIfInBounds_toArray, List.set_cons_zero, List.set_cons_succ]
   refine tkH 3 ?_
   refine tkH 4 ?_
   refine tkO 5 ?_
   refine tkO 6 ?_
   refine tkO 7 ?_
   refine tkO 8 ?_
   refine tkO 9 ?_
   refine tkO 10 ?_
   refine tkO 11 ?_
   refine tkH 12 ?_
   refine wpAnyH_done (by kernel_rfl) ?_ _
   have L5 := lH (HL.out.trans (hR.mono HL.out.size))
   clear hR gd
   go_wp2
   go_ret
   exact ⟨ret_i64 (by rw [← HR.out]; have := HCM.out; rw [EK.out, Nat.sub_self] at this; have e0 : cmn 0 (nm h l) (nm h' l') = 0 := rfl; have ek := EK.out; omega), L5.out⟩

theorem rcommon_at (s : Bool) (h l : Nat) (s' : Bool) (h' l' : Nat) (hh : N64 h) (hl : N64 l) (hh' : N64 h') (hl' : N64 l') {v : Int} (ev : comV s h l s' h' l' = v) (w : World) :
  Calls Tryz.prog 113 #[adr s h l, adr s' h' l'] w fun e w' => e = .returned (.int .i64 v) ∧ Below w.heap.size w w' := by
 subst ev
 by_cases v : vld s h l = true
 ·by_cases v' : vld s' h' l' = true
  ·by_cases e : s = s'
   ·subst e; exact rcom_yes s h l h' l' hh hl hh' hl' v v' w
   ·have c : comV s h l s' h' l' = -1 := by unfold comV; rw [if_neg (fun x => e x.2.2)]
    rw [c]; exact rcom_n3 s h l s' h' l' v v' e w
  ·have c : comV s h l s' h' l' = -1 := by unfold comV; rw [if_neg (fun x => v' x.2.1)]
   rw [c]; exact rcom_n2 s h l s' h' l' v (by simpa using v') w
 ·have c : comV s h l s' h' l' = -1 := by unfold comV; rw [if_neg (fun x => v x.1)]
  rw [c]; exact rcom_n1 s h l s' h' l' (by simpa using v) w
end Go.Proofs.YtgfkmgbcajdcdaaGreatDoor



namespace Go.Proofs.YtgfkmgbcajdcdaaGreatDoor.Ifs

def candI (st : StI) (a : AdI) (i : Nat) (b : Int) : Prop := ∃ p l x, st.1[i]? = some p ∧ st.2[i]? = some l ∧ p.2.2.2 = true ∧ x ∈ l ∧ hldI a x = true ∧ x.2 = b ∧ 0 < b
theorem nearT_spec (a : AdI) (up : Bool) (port : Nat) (l : List Loc) (b : Nat × Int) (n : Nat) :
  (nearT a up port l b n = b ∧ ∀ x ∈ l.take n, up = true → hldI a x = true → x.2 ≤ b.2) ∨
  (∃ x ∈ l.take n, up = true ∧ hldI a x = true ∧ b.2 < x.2 ∧ nearT a up port l b n = (port, x.2) ∧ ∀ y ∈ l.take n, hldI a y = true → y.2 ≤ x.2) := by
 induction n with
 | zero => exact .inl ⟨rfl, fun x hx => by simp at hx⟩
 | succ n ih =>
  unfold nearT
  cases hx : l[n]? with
  | none =>
   have e : l.take (n + 1) = l.take n := by rw [List.take_add_one, hx]; simp
   rw [e]
   exact ih
  | some x =>
   have e : l.take (n + 1) = l.take n ++ [x] := by rw [List.take_add_one, hx]; rfl
   rw [e]
   simp only
   by_cases hc : up = true ∧ (nearT a up port l b n).2 < x.2 ∧ hldI a x = true
   ·rw [if_pos hc]
    rcases ih with ⟨h1, h2⟩ | ⟨z, hz, hz1, hz2, hz3, hz4, hz5⟩
    ·rw [h1] at hc
     refine .inr ⟨x, by simp, hc.1, hc.2.2, hc.2.1, rfl, fun y hy hh => ?_⟩
     rcases List.mem_append.1 hy with h3 | h3
     ·have := h2 y h3 hc.1 hh; omega
     ·simp at h3; subst h3; omega
    ·rw [hz4] at hc
     have hc2 : z.2 < x.2 := hc.2.1
     refine .inr ⟨x, by simp, hc.1, hc.2.2, by omega, rfl, fun y hy hh => ?_⟩
     rcases List.mem_append.1 hy with h3 | h3
     ·have := hz5 y h3 hh; omega
     ·simp at h3; subst h3; omega
   ·rw [if_neg hc]
    rcases ih with ⟨h1, h2⟩ | ⟨z, hz, hz1, hz2, hz3, hz4, hz5⟩
    ·refine .inl ⟨h1, fun y hy hu hh => ?_⟩
     rcases List.mem_append.1 hy with h3 | h3
     ·exact h2 y h3 hu hh
     ·simp at h3; subst h3
      rw [h1] at hc
      rcases Int.lt_or_le b.2 y.2 with h4 | h4
      ·exact absurd ⟨hu, h4, hh⟩ hc
      ·exact h4
    ·refine .inr ⟨z, by simp [hz], hz1, hz2, hz3, hz4, fun y hy hh => ?_⟩
     rcases List.mem_append.1 hy with h3 | h3
     ·exact hz5 y h3 hh
     ·simp at h3; subst h3
      rw [hz4] at hc
      rcases Int.lt_or_le z.2 y.2 with h4 | h4
      ·exact absurd ⟨hz1, h4, hh⟩ hc
      ·exact h4
def bestI (st : StI) (a : AdI) (n : Nat) (r : Nat × Int) : Prop :=
 (r = (0, 0) ∧ ∀ i b, i < n → ¬ candI st a i b) ∨ ∃ p, r.1 = p + 1 ∧ p < n ∧ candI st a p r.2 ∧ (∀ i b, i < n → candI st a i b → b ≤ r.2) ∧ ∀ i b, i < p → candI st a i b → b < r.2
theorem bestI_nn {st : StI} {a : AdI} {n : Nat} {r : Nat × Int} (h : bestI st a n r) : 0 ≤ r.2 := by
 rcases h with ⟨rfl, -⟩ | ⟨p, -, -, ⟨q, l, x, h1, h2, h3, h4, h5, h6, h7⟩, -⟩
 ·decide
 ·omega
theorem nearQ_spec (st : StI) (hl : st.1.length = st.2.length) (a : AdI) (n : Nat) (hn : n ≤ st.1.length) : bestI st a n (nearQ st a n) := by
 induction n with
 | zero => exact .inl ⟨rfl, fun i b h => by omega⟩
 | succ n ih =>
  have ih := ih (by omega)
  have hp := List.getElem?_eq_getElem (l := st.1) (i := n) (by omega)
  have hq := List.getElem?_eq_getElem (l := st.2) (i := n) (by omega)
  obtain ⟨p, hpe⟩ : ∃ p, st.1[n]'(by omega) = p := ⟨_, rfl⟩
  obtain ⟨l, hle⟩ : ∃ l, st.2[n]'(by omega) = l := ⟨_, rfl⟩
  rw [hpe] at hp
  rw [hle] at hq
  unfold nearQ
  rw [hp, hq]
  simp only
  have nn := bestI_nn ih
  have hcn : ∀ b, candI st a n b → p.2.2.2 = true ∧ ∃ x ∈ l, hldI a x = true ∧ x.2 = b ∧ 0 < b := by
   rintro b ⟨p', l', x, h1, h2, h3, h4, h5, h6, h7⟩
   rw [hp] at h1
   rw [hq] at h2
   injection h1 with h1
   injection h2 with h2
   subst h1 h2
   exact ⟨h3, x, h4, h5, h6, h7⟩
  rcases nearT_spec a p.2.2.2 (n + 1) l (nearQ st a n) l.length with ⟨h1, h2⟩ | ⟨x, hx, hu, hh, hb, h1, h2⟩
  ·rw [List.take_of_length_le (Nat.le_refl _)] at h2
   rw [h1]
   rcases ih with ⟨h3, h4⟩ | ⟨q, h3, h4, h5, h6, h7⟩
   ·refine .inl ⟨h3, fun i b hi hc => ?_⟩
    rcases Nat.lt_or_ge i n with h8 | h8
    ·exact h4 i b h8 hc
    ·obtain rfl : i = n := by omega
     obtain ⟨c1, y, c2, c3, c4, c5⟩ := hcn b hc
     have := h2 y c2 c1 c3
     rw [h3] at this
     simp at this
     omega
   ·refine .inr ⟨q, h3, by omega, h5, fun i b hi hc => ?_, h7⟩
    rcases Nat.lt_or_ge i n with h8 | h8
    ·exact h6 i b h8 hc
    ·obtain rfl : i = n := by omega
     obtain ⟨c1, y, c2, c3, c4, c5⟩ := hcn b hc
     have := h2 y c2 c1 c3
     omega
  ·rw [List.take_of_length_le (Nat.le_refl _)] at h2 hx
   rw [h1]
   refine .inr ⟨n, rfl, by omega, ⟨p, l, x, hp, hq, hu, hx, hh, rfl, by omega⟩, fun i b hi hc => ?_, fun i b hi hc => ?_⟩
   ·rcases Nat.lt_or_ge i n with h8 | h8
    ·rcases ih with ⟨h3, h4⟩ | ⟨q, h3, h4, h5, h6, h7⟩
     ·exact absurd hc (h4 i b h8)
     ·have := h6 i b h8 hc
      show b ≤ x.2
      omega
    ·obtain rfl : i = n := by omega
     obtain ⟨c1, y, c2, c3, c4, c5⟩ := hcn b hc
     have := h2 y c2 c3
     show b ≤ x.2
     omega
   ·show b < x.2
    rcases ih with ⟨h3, h4⟩ | ⟨q, h3, h4, h5, h6, h7⟩
    ·exact absurd hc (h4 i b hi)
    ·have := h6 i b hi hc
     omega
theorem bestI_uniq {st : StI} {a : AdI} {n : Nat} {r r' : Nat × Int} (h : bestI st a n r) (h' : bestI st a n r') : r.1 = r'.1 := by
 rcases h with ⟨rfl, h1⟩ | ⟨p, h1, h2, h3, h4, h5⟩ <;> rcases h' with ⟨rfl, k1⟩ | ⟨q, k1, k2, k3, k4, k5⟩
 ·rfl
 ·exact absurd k3 (h1 q _ k2)
 ·exact absurd h3 (k1 p _ h2)
 ·have a1 := h4 q _ k2 k3
  have a2 := k4 p _ h2 h3
  have e : r.2 = r'.2 := by omega
  rcases Nat.lt_trichotomy p q with h | h | h
  ·have := k5 p _ h h3; omega
  ·omega
  ·have := h5 q _ h k3; omega
def offI (st : StI) (n k : Nat) (st' : StI) : Prop := st'.2 = st.2 ∧ ∀ i, st'.1[i]? = (st.1[i]?).map fun p => (p.1, p.2.1, p.2.2.1, if i < k ∧ i + 1 ≠ n then false else p.2.2.2)
theorem offI.zero (st : StI) (n : Nat) : offI st n 0 st := ⟨rfl, fun i => by
 cases st.1[i]? with
 | none => rfl
 | some p => simp⟩
theorem offI.len {st st' : StI} {n k : Nat} (h : offI st n k st') : st'.1.length = st.1.length := by
 rcases Nat.lt_trichotomy st'.1.length st.1.length with h1 | h1 | h1
 ·have h2 := h.2 st'.1.length
  rw [List.getElem?_eq_none (Nat.le_refl _), List.getElem?_eq_getElem h1] at h2
  cases h2
 ·exact h1
 ·have h2 := h.2 st.1.length
  rw [List.getElem?_eq_none (l := st.1) (Nat.le_refl _), List.getElem?_eq_getElem h1] at h2
  cases h2
theorem offI.turn {st st' : StI} {n k : Nat} (h : offI st n k st') (hk : k + 1 ≠ n) : offI st n (k + 1) (turnI st' ((k : Int) + 1) false).1 := by
 have hl := h.len
 unfold turnI thereI idxI
 split
 ·rename_i ht
  rw [decide_eq_false_iff_not] at ht
  refine ⟨h.1, fun i => ?_⟩
  rw [h.2 i]
  cases hi : st.1[i]? with
  | none => rfl
  | some p =>
   have := (List.getElem?_eq_some_iff.1 hi).1
   have : i < k := by omega
   simp only [Option.map_some]
   by_cases hn : i + 1 ≠ n
   ·rw [if_pos ⟨this, hn⟩, if_pos ⟨by omega, hn⟩]
   ·rw [if_neg (fun x => hn x.2), if_neg (fun x => hn x.2)]
 ·refine ⟨h.1, fun i => ?_⟩
  rw [List.getElem?_modify, h.2 i, show ((k : Int) + 1 - 1).toNat = k by omega]
  cases st.1[i]? with
  | none => rfl
  | some p =>
   show some ((fun a : Prt => if k = i then (a.1, a.2.1, a.2.2.1, false) else a) (p.1, p.2.1, p.2.2.1, if i < k ∧ i + 1 ≠ n then false else p.2.2.2)) = some (p.1, p.2.1, p.2.2.1, if i < k + 1 ∧ i + 1 ≠ n then false else p.2.2.2)
   by_cases hik : k = i
   ·subst hik
    simp only [if_true]
    rw [if_pos ⟨by omega, hk⟩]
   ·simp only [if_neg hik]
    by_cases hn : i < k ∧ i + 1 ≠ n
    ·rw [if_pos hn, if_pos ⟨by omega, hn.2⟩]
    ·rw [if_neg hn, if_neg (fun x => hn ⟨by omega, x.2⟩)]
theorem offI.skip {st st' : StI} {n k : Nat} (h : offI st n k st') (hk : k + 1 = n) : offI st n (k + 1) st' := ⟨h.1, fun i => by
 rw [h.2 i]
 cases st.1[i]? with
 | none => rfl
 | some p =>
  simp only [Option.map_some]
  by_cases hn : i < k ∧ i + 1 ≠ n
  ·rw [if_pos hn, if_pos ⟨by omega, hn.2⟩]
  ·rw [if_neg hn, if_neg (fun x => hn ⟨by omega, x.2⟩)]⟩
theorem offI.cand {st st' : StI} {a : AdI} {n k i : Nat} {b : Int} (h : offI st n k st') : candI st' a i b ↔ candI st a i b ∧ ¬ (i < k ∧ i + 1 ≠ n) := by
 constructor
 ·rintro ⟨p, l, x, h1, h2, h3, h4⟩
  rw [h.2 i] at h1
  obtain ⟨q, hq, rfl⟩ := Option.map_eq_some_iff.1 h1
  rw [h.1] at h2
  simp only at h3
  split at h3
  ·cases h3
  ·rename_i hn
   exact ⟨⟨q, l, x, hq, h2, h3, h4⟩, hn⟩
 ·rintro ⟨⟨p, l, x, h1, h2, h3, h4⟩, hn⟩
  exact ⟨_, l, x, by rw [h.2 i, h1]; rfl, by rw [h.1]; exact h2, by simp only; rw [if_neg hn]; exact h3, h4⟩
theorem offI.near {st st' : StI} {a : AdI} (h : offI st (nearI st a) 8 st') (hI : InvI st) : nearI st' a = nearI st a := by
 have hl := hI.len
 have h0 := nearQ_spec st hl a st.1.length (Nat.le_refl _)
 have h1 := nearQ_spec st' (by rw [h.len, h.1]; exact hl) a st'.1.length (Nat.le_refl _)
 rw [h.len] at h1
 unfold nearI
 rw [h.len]
 refine bestI_uniq h1 ?_
 have hfew := hI.few
 unfold bestI at h0 ⊢
 rcases h0 with ⟨e, h2⟩ | ⟨p, e, h2, h3, h4, h5⟩
 ·exact .inl ⟨e, fun i b hi hc => h2 i b hi (h.cand.1 hc).1⟩
 ·have hn : nearI st a = p + 1 := e
  exact .inr ⟨p, e, h2, h.cand.2 ⟨h3, fun x => x.2 hn.symm⟩, fun i b hi hc => h4 i b hi (h.cand.1 hc).1, fun i b hi hc => h5 i b hi (h.cand.1 hc).1⟩
end Go.Proofs.YtgfkmgbcajdcdaaGreatDoor.Ifs

namespace Go.Proofs.YtgfkmgbcajdcdaaGreatDoor.Ifs
open Go.RowKit

end Go.Proofs.YtgfkmgbcajdcdaaGreatDoor.Ifs

namespace Go.Proofs.YtgfkmgbcajdcdaaGreatDoor.Ifs
open Go.RowKit

theorem nameD (s : ByteArray) (w : World) : Calls Tryz.prog 134 #[.string s] w fun e w' => e = .returned (.bool (nameOk s)) ∧ w = w' := by
 have hse : s.size = 0 ↔ s.toList = [] := by
  rw [ByteArray.toList_eq, Array.toList_eq_nil_iff]
  exact Array.size_eq_zero_iff
 by_cases h0 : s.size = 0
 ·have HR : Hid (nameOk s = false) := lH (by rw [Bool.eq_false_iff]; intro h; have := (nameOk_iff.1 h).1; omega)
  have b3 : s.toList = [] := hse.1 h0
  have b1 : s.toList.isEmpty = true := by rw [b3]; rfl
  clear hse
  go_enter Tryz.func134, Tryz.ntmps134
  go_wp2
  go_ret
  exact ⟨by rw [HR.out]; rfl, rfl⟩
 ·have b3 : ¬ s.toList = [] := fun e => h0 (hse.2 e)
  have b1 : s.toList.isEmpty = false := List.isEmpty_eq_false_iff.2 b3
  by_cases h8 : 8 < s.size
  ·have HR : Hid (nameOk s = false) := lH (by rw [Bool.eq_false_iff]; intro h; have := (nameOk_iff.1 h).1; omega)
   have b2 : (8 : Int) < (s.size : Int) := by omega
   clear hse
   go_enter Tryz.func134, Tryz.ntmps134
   go_wp2
   go_ret
   exact ⟨by rw [HR.out]; rfl, rfl⟩
  ·have HB : Hid (1 ≤ s.size ∧ s.size ≤ 8) := lH (by omega)
   obtain ⟨n, hn⟩ : ∃ n, s.size = n := ⟨_, rfl⟩
   have HN := lH hn
   have b2 : ¬ (8 : Int) < (n : Int) := by omega
   have n8 : n ≤ 8 := by omega
   clear hse h0 h8
   go_enter Tryz.func134, Tryz.ntmps134
   go_wp2
   go_loop [2, 3] (fun fv iv => ∃ i : Nat, fv = .bool false ∧ iv = .int .i64 (i : Int) ∧ i ≤ n ∧ Hid (∀ (j : Nat) (h : j < s.size), j < i → okB j s[j].toNat = true)) (fun _ iv => n - (intOf iv).toNat)
   case atStart => exact ⟨0, rfl, rfl, Nat.zero_le _, lH (fun j h hj => absurd hj (by omega))⟩
   case round =>
    obtain ⟨i, rfl, rfl, hi, hA⟩ := hrel
    have j1 : IntKind.i64.wrap ((i : Int) + 1) = (i : Int) + 1 := by rw [IntKind.wrap_i64]; omega
    by_cases hlt : i < n
    ·have i1 : (i : Int) < (n : Int) := by omega
     have i0 : (0 : Int) ≤ (i : Int) := by omega
     have i2 : i < s.size := by omega
     obtain ⟨b, hb⟩ : ∃ b, (s[i]'i2).toNat = b := ⟨_, rfl⟩
     have HBt := lH hb
     have HYes : Hid (okB i b = true → ∀ (j : Nat) (h : j < s.size), j < i + 1 → okB j s[j].toNat = true) := lH (fun ho j h hj => by
      rcases Nat.lt_or_ge j i with h1 | h1
      ·exact hA.out j h h1
      ·obtain rfl : j = i := by omega
       rw [hb]; exact ho)
     have HNo : Hid (okB i b = false → nameOk s = false) := lH (fun ho => by
      rw [Bool.eq_false_iff]
      intro h
      have := (nameOk_iff.1 h).2 i i2
      rw [hb, ho] at this
      cases this)
     by_cases l1 : 97 ≤ b
     ·by_cases l2 : b ≤ 122
      ·have a1 : (97 : Int) ≤ (b : Int) := by omega
       have a2 : (b : Int) ≤ 122 := by omega
       have a3 : ¬ (b : Int) ≤ 57 := by omega
       have a4 : (48 : Int) ≤ (b : Int) := by omega
       have HO := lH (HYes.out (by unfold okB; simp [l1, l2]))
       clear HYes HNo
       go_wp2
       go_round
       case rel => exact ⟨i + 1, rfl, by go_num, hlt, HO⟩
       case measure => simp [intOf]; omega
      ·have a1 : (97 : Int) ≤ (b : Int) := by omega
       have a2 : ¬ (b : Int) ≤ 122 := by omega
       have a3 : ¬ (b : Int) ≤ 57 := by omega
       have a4 : (48 : Int) ≤ (b : Int) := by omega
       have HO := lH (HNo.out (by unfold okB; simp; omega))
       clear HYes HNo
       by_cases iz : i = 0
       ·subst iz
        go_wp2
        go_ret
        exact ⟨by rw [HO.out]; rfl, rfl⟩
       ·have iz1 : ((i : Int) == 0) = false := by simp; omega
        go_wp2
        go_ret
        exact ⟨by rw [HO.out]; rfl, rfl⟩
     ·by_cases d1 : 48 ≤ b ∧ b ≤ 57
      ·have a1 : ¬ (97 : Int) ≤ (b : Int) := by omega
       have a3 : (b : Int) ≤ 57 := by omega
       have a4 : (48 : Int) ≤ (b : Int) := by omega
       by_cases iz : i = 0
       ·have HO := lH (HNo.out (by unfold okB; simp; omega))
        clear HYes HNo
        subst iz
        go_wp2
        go_ret
        exact ⟨by rw [HO.out]; rfl, rfl⟩
       ·have iz1 : ((i : Int) == 0) = false := by simp; omega
        have HO := lH (HYes.out (by unfold okB; simp; omega))
        clear HYes HNo
        go_wp2
        go_round
        case rel => exact ⟨i + 1, rfl, by go_num, hlt, HO⟩
        case measure => simp [intOf]; omega
      ·have a1 : ¬ (97 : Int) ≤ (b : Int) := by omega
       have HO := lH (HNo.out (by unfold okB; simp; omega))
       clear HYes HNo
       rcases (show ¬ 48 ≤ b ∨ (48 ≤ b ∧ ¬ b ≤ 57) by omega) with e1 | ⟨e1, e2⟩
       ·have a4 : ¬ (48 : Int) ≤ (b : Int) := by omega
        by_cases iz : i = 0
        ·subst iz
         go_wp2
         go_ret
         exact ⟨by rw [HO.out]; rfl, rfl⟩
        ·have iz1 : ((i : Int) == 0) = false := by simp; omega
         go_wp2
         go_ret
         exact ⟨by rw [HO.out]; rfl, rfl⟩
       ·have a4 : (48 : Int) ≤ (b : Int) := by omega
        have a3 : ¬ (b : Int) ≤ 57 := by omega
        by_cases iz : i = 0
        ·subst iz
         go_wp2
         go_ret
         exact ⟨by rw [HO.out]; rfl, rfl⟩
        ·have iz1 : ((i : Int) == 0) = false := by simp; omega
         go_wp2
         go_ret
         exact ⟨by rw [HO.out]; rfl, rfl⟩
    ·obtain rfl : i = n := by omega
     have i1 : ¬ (i : Int) < (i : Int) := by omega
     have HR : Hid (nameOk s = true) := lH (nameOk_iff.2 ⟨HB.out, fun j h => hA.out j h (by have := HN.out; omega)⟩)
     clear hlt hi
     go_wp2
     go_ret
     exact ⟨by rw [HR.out]; rfl, rfl⟩
end Go.Proofs.YtgfkmgbcajdcdaaGreatDoor.Ifs
