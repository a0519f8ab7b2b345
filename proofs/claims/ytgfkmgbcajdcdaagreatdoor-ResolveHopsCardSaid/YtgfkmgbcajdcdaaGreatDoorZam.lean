/-
  Several texts in one: RpV.
-/
import Derived.Test.YtgfkmgbcajdcdaaGreatDoorZaj
import Derived.Sort.Grow
import Derived.Test.YtgfkmgbcajdcdaaGreatDoorZaa
set_option linter.unusedVariables false
set_option maxRecDepth 100000
set_option maxHeartbeats 16000000
namespace Go.Proofs.YtgfkmgbcajdcdaaGreatDoor
open Go.RowKit

structure BelowD (B : Nat) (w w' : World) : Prop where
 bel : Below B w w'
 drawn : w.drawn ≤ w'.drawn
theorem BelowD.refl (B : Nat) (w : World) : BelowD B w w := ⟨Below.refl B w, Nat.le_refl _⟩
theorem BelowD.trans {B : Nat} {a b c : World} (h : BelowD B a b) (k : BelowD B b c) : BelowD B a c := ⟨h.bel.trans k.bel, Nat.le_trans h.drawn k.drawn⟩
theorem BelowD.mono {B B' : Nat} {w w' : World} (h : BelowD B w w') (hB : B' ≤ B) : BelowD B' w w' := ⟨h.bel.mono hB, h.drawn⟩
theorem BelowD.alloc {B : Nat} {a w : World} (h : BelowD B a w) (hB : B ≤ w.heap.size) (o : Obj) : BelowD B a (w.alloc o) := ⟨h.bel.alloc hB o, h.drawn⟩
theorem BelowD.setCell {B : Nat} {a w : World} (h : BelowD B a w) {p : Addr} (hp : B ≤ p.block) (u : Value) : BelowD B a (w.setCell p u) := ⟨h.bel.setCell hp u, h.drawn⟩
theorem BelowD.size {B : Nat} {w w' : World} (h : BelowD B w w') : w.heap.size ≤ w'.heap.size := h.bel.size
theorem BelowD.block {B : Nat} {w w' : World} (h : BelowD B w w') : ∀ k, k < B → w'.heap[k]? = w.heap[k]? := h.bel.block
theorem BelowD.cell {B : Nat} {w w' : World} (h : BelowD B w w') {p : Addr} (hp : p.block < B) : w'.cell? p = w.cell? p := h.bel.cell hp
theorem BelowD.frozen {B : Nat} {w w' : World} (h : BelowD B w w') {p : Addr} (hp : p.block < B) : w'.frozen? p = w.frozen? p := h.bel.frozen hp
theorem Blk.belowD {w w' : World} {g : Nat} {t : TypeId} {cs : Array Value} {B : Nat} (h : Blk w g t cs) (hb : BelowD B w w') (hg : g < B) : Blk w' g t cs := h.below hb.bel hg
theorem BelowD.grow {w w' : World} (h : BelowD w.heap.size w w') : ∃ q os', w' = Go.Sort.grow (w.drewN q) os' := by
 refine ⟨w'.drawn - w.drawn, w'.heap.extract w.heap.size w'.heap.size, ?_⟩
 obtain ⟨⟨h1, h2, h3, h4, h5⟩, h6⟩ := h
 obtain ⟨hp, tp, dr, os, ou⟩ := w'
 obtain ⟨hp', tp', dr', os', ou'⟩ := w
 simp only at h1 h2 h3 h4 h5 h6
 subst h1 h2 h3
 unfold Go.Sort.grow World.drewN
 simp only [World.mk.injEq, true_and, and_true]
 refine ⟨?_, by omega⟩
 refine Array.ext_getElem? fun i => ?_
 rcases Nat.lt_or_ge i hp'.size with hi | hi
 ·rw [Array.getElem?_append_left hi]; exact h5 i hi
 ·rw [Array.getElem?_append_right hi]
  simp only [Array.getElem?_extract, Nat.min_self]
  split
  ·rw [show hp'.size + (i - hp'.size) = i by omega]
  ·rw [Array.getElem?_eq_none (by omega)]
theorem valid_anyQ (s : Bool) (h l : Int) (w : World) :
  Calls Tryz.prog 71 #[adr s h l] w fun e w' => e = .returned (.bool (vld s h l)) ∧ BelowD w.heap.size w w' := by
 cases s
 ·by_cases h0 : h = 0
  ·subst h0
   by_cases hl : l ≤ 4294967295
   ·go_enter Tryz.func71, Tryz.ntmps71
    go_wp2
    go_ret
    exact ⟨by simp [vld, hl], (BelowD.refl _ _).alloc (Nat.le_refl _) _⟩
   ·go_enter Tryz.func71, Tryz.ntmps71
    go_wp2
    go_ret
    exact ⟨by simp [vld, hl], (BelowD.refl _ _).alloc (Nat.le_refl _) _⟩
  ·go_enter Tryz.func71, Tryz.ntmps71
   go_wp2
   go_ret
   exact ⟨by simp [vld, h0], (BelowD.refl _ _).alloc (Nat.le_refl _) _⟩
 ·go_enter Tryz.func71, Tryz.ntmps71
  go_wp2
  go_ret
  exact ⟨by simp [vld], (BelowD.refl _ _).alloc (Nat.le_refl _) _⟩
theorem valid_atQ (s : Bool) (h l : Int) (w : World) {b : Bool} (e : vld s h l = b) :
  Calls Tryz.prog 71 #[adr s h l] w fun e w' => e = .returned (.bool b) ∧ BelowD w.heap.size w w' := by
 subst e; exact valid_anyQ s h l w
theorem bcellQ {W w1 : World} (hb : BelowD W.heap.size W w1) : (∀ b o, b < W.heap.size → w1.cell? ⟨b, o, none⟩ = W.cell? ⟨b, o, none⟩) ∧ (∀ b o, b < W.heap.size → w1.frozen? ⟨b, o, none⟩ = W.frozen? ⟨b, o, none⟩) :=
 ⟨fun b o h => hb.cell (p := ⟨b, o, none⟩) h, fun b o h => hb.frozen (p := ⟨b, o, none⟩) h⟩
theorem less_anyQ (s : Bool) (h l : Int) (s' : Bool) (h' l' : Int) (w : World) :
  Calls Tryz.prog 116 #[adr s h l, adr s' h' l'] w fun e w' => e = .returned (.bool (lss s h l s' h' l')) ∧ BelowD w.heap.size w w' := by
 obtain ⟨V1, hV1⟩ : ∃ v, vld s h l = v := ⟨_, rfl⟩
 obtain ⟨V2, hV2⟩ : ∃ v, vld s' h' l' = v := ⟨_, rfl⟩
 obtain ⟨R, hR⟩ : ∃ v, lss s h l s' h' l' = v := ⟨_, rfl⟩
 have HR := lH hR
 rw [hR]
 have H1 := lH (fun W => valid_atQ s h l W hV1)
 have H2 := lH (fun W => valid_atQ s' h' l' W hV2)
 have G1 := lH hV1
 have G2 := lH hV2
 clear hR hV1 hV2
 cases V1
 ·go_enter Tryz.func116, Tryz.ntmps116
  go_wp2_with fail
  refine cZm (H1.out _) ?_
  rintro e w1 ⟨rfl, hb⟩
  go_wp2
  go_ret
  exact ⟨by rw [← HR.out]; simp [lss, G1.out], (((BelowD.refl _ _).alloc (Nat.le_refl _) _).alloc (by simp) _).trans (hb.mono (by simp; omega))⟩
 ·cases V2
  ·go_enter Tryz.func116, Tryz.ntmps116
   go_wp2_with fail
   refine cZm (H1.out _) ?_
   rintro e w1 ⟨rfl, hb⟩
   obtain ⟨hc, hf⟩ := bcellQ hb
   go_wp2_with fail
   refine cZm (H2.out _) ?_
   rintro e w2 ⟨rfl, hb2⟩
   go_wp2
   go_ret
   have B1 := (((BelowD.refl _ w).alloc (Nat.le_refl _) _).alloc (by simp) _).trans (hb.mono (by simp; omega))
   exact ⟨by rw [← HR.out]; simp [lss, G1.out, G2.out], B1.trans (hb2.mono B1.size)⟩
  ·rcases s with _ | _ <;> rcases s' with _ | _
   all_goals first | (by_cases hh : h = h'; subst hh) | skip
   all_goals
    go_enter Tryz.func116, Tryz.ntmps116
    go_wp2_with fail
    refine cZm (H1.out _) ?_
    rintro e w1 ⟨rfl, hb⟩
    obtain ⟨hc, hf⟩ := bcellQ hb
    go_wp2_with fail
    refine cZm (H2.out _) ?_
    rintro e w2 ⟨rfl, hb2⟩
    obtain ⟨c0, c1, c2⟩ := ((((Blk.new w 28 _).alloc _).belowD hb (by simp only [zA]; omega)).belowD hb2 (by have := hb.size; simp at this; omega)).c3
    obtain ⟨d0, d1, d2⟩ := (((Blk.new (w.alloc _) 28 _).belowD hb (by simp only [zA]; omega)).belowD hb2 (by have := hb.size; simp at this ⊢; omega)).c3
    rw [zA] at d0 d1 d2
    have B1 := lH ((((BelowD.refl _ w).alloc (Nat.le_refl _) _).alloc (by simp) _).trans (hb.mono (by simp; omega)))
    have B2 := lH (B1.out.trans (hb2.mono B1.out.size))
    go_wp2
    go_ret
    exact ⟨ret_bool (by rw [← HR.out]; simp [lss, G1.out, G2.out, *]), B2.out⟩
theorem width_atQ (s : Bool) (h l W : Int) (hW : (wd s : Int) = W) (w : World) :
  Calls Tryz.prog 156 #[adr s h l] w fun e w' => e = .returned (.int .i64 W) ∧ BelowD w.heap.size w w' := by
 subst hW
 cases s
 all_goals
  go_enter Tryz.func156, Tryz.ntmps156
  go_wp2
  go_ret
  exact ⟨rfl, (BelowD.refl _ _).alloc (Nat.le_refl _) _⟩
theorem before_atQ (s : Bool) (h l W : Int) (hW : (wd s : Int) = W) (w : World) :
  Calls Tryz.prog 190 #[adr s h l] w fun e w' => e = .returned (.int .i64 (128 - W)) ∧ BelowD w.heap.size w w' := by
 have h0 : 0 ≤ W := by rw [← hW]; omega
 have h1 : W ≤ 128 := by rw [← hW]; unfold wd; split <;> omega
 have H := lH (fun W' => width_atQ s h l W hW W')
 clear hW
 go_enter Tryz.func190, Tryz.ntmps190
 go_wp2_with fail
 refine cZm (H.out _) ?_
 rintro e w1 ⟨rfl, hb⟩
 have L1 := lH (((BelowD.refl _ w).alloc (Nat.le_refl _) _).trans (hb.mono (by simp only [zA]; omega)))
 clear hb
 go_wp2
 go_ret
 exact ⟨rfl, L1.out⟩
theorem masks_atQ (s : Bool) (h l b W : Int) (hW : (wd s : Int) = W) (hb0 : 0 ≤ b) (hb1 : b ≤ W) (w : World) :
  Calls Tryz.prog 157 #[adr s h l, .int .i64 b] w fun e w' => e = .returned (.tuple #[.int .u64 (onz (128 - W + b)), .int .u64 (onz (128 - W + b - 64))]) ∧ BelowD w.heap.size w w' := by
 have h0 : 0 ≤ W := by rw [← hW]; omega
 have h1 : W ≤ 128 := by rw [← hW]; unfold wd; split <;> omega
 have H := lH (fun W' => before_atQ s h l W hW W')
 clear hW
 go_enter Tryz.func157, Tryz.ntmps157
 go_wp2_with fail
 refine cZm (H.out _) ?_
 rintro e w1 ⟨rfl, hb⟩
 have L1 := lH (((BelowD.refl _ w).alloc (Nat.le_refl _) _).trans (hb.mono (by simp only [zA]; omega)))
 clear hb
 go_wp2_with fail
 refine cZm (ones_any _ _) ?_
 rintro e w2 ⟨rfl, rfl⟩
 go_wp2_with fail
 refine cZm (ones_any _ _) ?_
 rintro e w2 ⟨rfl, rfl⟩
 go_wp2
 go_ret2
 exact ⟨rfl, L1.out⟩
theorem ofP_anyQ (s : Bool) (h l : Nat) (b : Int) (hh : N64 h) (hl : N64 l) (w : World) :
  Calls Tryz.prog 112 #[adr s h l, .int .i64 b] w fun e w' => e = .returned (ofP s h l b) ∧ BelowD w.heap.size w w' := by
 obtain ⟨V, hV⟩ : ∃ V, vld s h l = V := ⟨_, rfl⟩
 obtain ⟨W, hW⟩ : ∃ W, (wd s : Int) = W := ⟨_, rfl⟩
 have h0 : 0 ≤ W := by rw [← hW]; omega
 have h1 : W ≤ 128 := by rw [← hW]; unfold wd; split <;> omega
 have HV := lH (fun w => valid_atQ s h l w hV)
 have HW := lH (fun w => width_atQ s h l W hW w)
 obtain ⟨R, hR⟩ : ∃ R, ofP s h l b = R := ⟨_, rfl⟩
 rw [hR]
 by_cases hk : V = true ∧ okn s b = true
 ·obtain ⟨rfl, ho⟩ := hk
  obtain ⟨o1, o2⟩ := okn_iff.1 ho
  rw [hW] at o2
  obtain ⟨X, hX⟩ : ∃ X, ((ct h (kk s b - 64) : Nat) : Int) = X := ⟨_, rfl⟩
  obtain ⟨Y, hY⟩ : ∃ Y, ((ct l (kk s b) : Nat) : Int) = Y := ⟨_, rfl⟩
  have e1 : ofP s h l b = .tuple #[pfx s X Y b, .int .i64 0] := by unfold ofP; rw [hV, ho, hX, hY]; rfl
  have HR := lH (e1.symm.trans hR)
  obtain ⟨M1, hM1⟩ : ∃ M, onz (128 - W + b) = M := ⟨_, rfl⟩
  obtain ⟨M2, hM2⟩ : ∃ M, onz (128 - W + b - 64) = M := ⟨_, rfl⟩
  have HM := lH (fun w => masks_atQ s h l b W hW o1 o2 w)
  have b1 := mask_hi hW o1 o2 h hh
  have b2 := mask_lo hW o1 o2 l hl
  rw [hM1, hM2] at HM
  rw [hM1, hX] at b1
  rw [hM2, hY] at b2
  have n1 : ¬ b < 0 := by omega
  have n2 : ¬ b > W := by omega
  have B1 := lH b1
  have B2 := lH b2
  clear hV hW e1 hR ho hM1 hM2 hX hY b1 b2
  go_enter Tryz.func112, Tryz.ntmps112
  go_wp2_with fail
  refine cZm (HV.out _) ?_
  rintro e w1 ⟨rfl, hb⟩
  have K1 := lH ((Blk.new w 28 #[.bool s, .int .u64 h, .int .u64 l]).alloc (.cells #[.bool false, .int .u64 0, .int .u64 0, .int .i64 0] 30) |>.belowD hb (by simp only [zA]; omega))
  have R1 := lH ((Blk.new (w.alloc (.cells #[.bool s, .int .u64 h, .int .u64 l] 28)) 30 #[.bool false, .int .u64 0, .int .u64 0, .int .i64 0]).belowD hb (by simp only [zA]; omega))
  have L1 := lH ((((BelowD.refl _ w).alloc (Nat.le_refl _) _).alloc (by simp) _).trans (hb.mono (by simp only [zA]; omega)))
  have s1 : w.heap.size + 1 < w1.heap.size := by have := hb.size; simp only [zA] at this; omega
  rw [zA] at R1
  obtain ⟨f1, f2, f3⟩ := K1.out.c3
  clear hb
  go_wp2_with fail
  refine cZm (HW.out _) ?_
  rintro e w2 ⟨rfl, hb⟩
  clear f1 f2 f3
  have K2 := lH (K1.out.belowD hb (by omega))
  have R2 := lH (R1.out.belowD hb s1)
  have L2 := lH (L1.out.trans (hb.mono L1.out.size))
  have s2 : w.heap.size + 1 < w2.heap.size := by have := hb.size; omega
  obtain ⟨f1, f2, f3⟩ := K2.out.c3
  clear hb
  go_wp2_with fail
  refine cZm (HM.out _) ?_
  rintro e w3 ⟨rfl, hb⟩
  clear f1 f2 f3
  have K3 := lH (K2.out.belowD hb (by omega))
  have R3 := lH (R2.out.belowD hb s2)
  have L3 := lH (L2.out.trans (hb.mono L2.out.size))
  obtain ⟨f1, f2, f3⟩ := K3.out.c3
  obtain ⟨g1, g2, g3, g4⟩ := R3.out.c4
  have z0 := R3.out.frozen 0
  have z1 := R3.out.frozen 1
  have z2 := R3.out.frozen 2
  have z3 := R3.out.frozen 3
  have y1 := K3.out.frozen 1
  have y2 := K3.out.frozen 2
  have b1 := B1.out
  have b2 := B2.out
  clear hb
  go_wp2
  exact bodyPost_ret (v := .tuple #[pfx s X Y b, .int .i64 0]) (by simp [results, Tryz.results112, go_sem, g1, g2, g3, g4]) rfl ⟨by rw [HR.out], by (repeat (refine BelowD.setCell ?_ (by simp) _)); exact L3.out⟩
 ·have e1 : ofP s h l b = .tuple #[pfx false 0 0 0, .int .i64 1] := by
   unfold ofP
   rw [if_neg (by rw [hV]; simpa using hk)]
  have HR := lH (e1.symm.trans hR)
  cases V
  ·clear hV hW e1 hR hk
   go_enter Tryz.func112, Tryz.ntmps112
   go_wp2_with fail
   refine cZm (HV.out _) ?_
   rintro e w1 ⟨rfl, hb⟩
   have K1 := lH ((Blk.new w 28 #[.bool s, .int .u64 h, .int .u64 l]).alloc (.cells #[.bool false, .int .u64 0, .int .u64 0, .int .i64 0] 30) |>.belowD hb (by simp only [zA]; omega))
   have R1 := lH ((Blk.new (w.alloc (.cells #[.bool s, .int .u64 h, .int .u64 l] 28)) 30 #[.bool false, .int .u64 0, .int .u64 0, .int .i64 0]).belowD hb (by simp only [zA]; omega))
   have L1 := lH ((((BelowD.refl _ w).alloc (Nat.le_refl _) _).alloc (by simp) _).trans (hb.mono (by simp only [zA]; omega)))
   have s1 : w.heap.size + 1 < w1.heap.size := by have := hb.size; simp only [zA] at this; omega
   rw [zA] at R1
   obtain ⟨f1, f2, f3⟩ := K1.out.c3
   clear hb
   obtain ⟨g1, g2, g3, g4⟩ := R1.out.c4
   have z0 := R1.out.frozen 0
   have z1 := R1.out.frozen 1
   have z2 := R1.out.frozen 2
   have z3 := R1.out.frozen 3
   go_wp2
   exact bodyPost_ret (v := .tuple #[pfx false 0 0 0, .int .i64 1]) (by simp [results, Tryz.results112, go_sem, g1, g2, g3, g4]) rfl ⟨by rw [HR.out], by (repeat (refine BelowD.setCell ?_ (by simp) _)); exact L1.out⟩
  ·by_cases hneg : b < 0
   ·clear hV hW e1 hR hk
    go_enter Tryz.func112, Tryz.ntmps112
    go_wp2_with fail
    refine cZm (HV.out _) ?_
    rintro e w1 ⟨rfl, hb⟩
    have K1 := lH ((Blk.new w 28 #[.bool s, .int .u64 h, .int .u64 l]).alloc (.cells #[.bool false, .int .u64 0, .int .u64 0, .int .i64 0] 30) |>.belowD hb (by simp only [zA]; omega))
    have R1 := lH ((Blk.new (w.alloc (.cells #[.bool s, .int .u64 h, .int .u64 l] 28)) 30 #[.bool false, .int .u64 0, .int .u64 0, .int .i64 0]).belowD hb (by simp only [zA]; omega))
    have L1 := lH ((((BelowD.refl _ w).alloc (Nat.le_refl _) _).alloc (by simp) _).trans (hb.mono (by simp only [zA]; omega)))
    have s1 : w.heap.size + 1 < w1.heap.size := by have := hb.size; simp only [zA] at this; omega
    rw [zA] at R1
    obtain ⟨f1, f2, f3⟩ := K1.out.c3
    clear hb
    obtain ⟨g1, g2, g3, g4⟩ := R1.out.c4
    have z0 := R1.out.frozen 0
    have z1 := R1.out.frozen 1
    have z2 := R1.out.frozen 2
    have z3 := R1.out.frozen 3
    go_wp2
    exact bodyPost_ret (v := .tuple #[pfx false 0 0 0, .int .i64 1]) (by simp [results, Tryz.results112, go_sem, g1, g2, g3, g4]) rfl ⟨by rw [HR.out], by (repeat (refine BelowD.setCell ?_ (by simp) _)); exact L1.out⟩
   ·have hgt : b > W := okn_no hW (by simpa using hk) hneg
    clear hV hW e1 hR hk
    go_enter Tryz.func112, Tryz.ntmps112
    go_wp2_with fail
    refine cZm (HV.out _) ?_
    rintro e w1 ⟨rfl, hb⟩
    have K1 := lH ((Blk.new w 28 #[.bool s, .int .u64 h, .int .u64 l]).alloc (.cells #[.bool false, .int .u64 0, .int .u64 0, .int .i64 0] 30) |>.belowD hb (by simp only [zA]; omega))
    have R1 := lH ((Blk.new (w.alloc (.cells #[.bool s, .int .u64 h, .int .u64 l] 28)) 30 #[.bool false, .int .u64 0, .int .u64 0, .int .i64 0]).belowD hb (by simp only [zA]; omega))
    have L1 := lH ((((BelowD.refl _ w).alloc (Nat.le_refl _) _).alloc (by simp) _).trans (hb.mono (by simp only [zA]; omega)))
    have s1 : w.heap.size + 1 < w1.heap.size := by have := hb.size; simp only [zA] at this; omega
    rw [zA] at R1
    obtain ⟨f1, f2, f3⟩ := K1.out.c3
    clear hb
    go_wp2_with fail
    refine cZm (HW.out _) ?_
    rintro e w2 ⟨rfl, hb⟩
    clear f1 f2 f3
    have R2 := lH (R1.out.belowD hb s1)
    have L2 := lH (L1.out.trans (hb.mono L1.out.size))
    clear hb
    obtain ⟨g1, g2, g3, g4⟩ := R2.out.c4
    have z0 := R2.out.frozen 0
    have z1 := R2.out.frozen 1
    have z2 := R2.out.frozen 2
    have z3 := R2.out.frozen 3
    go_wp2
    exact bodyPost_ret (v := .tuple #[pfx false 0 0 0, .int .i64 1]) (by simp [results, Tryz.results112, go_sem, g1, g2, g3, g4]) rfl ⟨by rw [HR.out], by (repeat (refine BelowD.setCell ?_ (by simp) _)); exact L2.out⟩
theorem ofP_atQ (s : Bool) (h l : Nat) (b : Int) (hh : N64 h) (hl : N64 l) {v : Value} (e : ofP s h l b = v) (w : World) :
  Calls Tryz.prog 112 #[adr s h l, .int .i64 b] w fun e w' => e = .returned v ∧ BelowD w.heap.size w w' := by
 subst e; exact ofP_anyQ s h l b hh hl w
theorem holds_anyQ (s : Bool) (h l : Nat) (b : Int) (s' : Bool) (h' l' : Nat) (hh : N64 h') (hl : N64 l') (w : World) :
  Calls Tryz.prog 69 #[pfx s h l b, adr s' h' l'] w fun e w' => e = .returned (.bool (hld s h l b s' h' l')) ∧ BelowD w.heap.size w w' := by
 obtain ⟨R, hR⟩ : ∃ R, hld s h l b s' h' l' = R := ⟨_, rfl⟩
 rw [hR]
 by_cases hk : vld s' h' l' = true ∧ okn s' b = true
 ·have e1 := ofP_yes hk
  rw [hld_if hk] at hR
  obtain ⟨X, hX⟩ : ∃ X, ((ct h' (kk s' b - 64) : Nat) : Int) = X := ⟨_, rfl⟩
  obtain ⟨Y, hY⟩ : ∃ Y, ((ct l' (kk s' b) : Nat) : Int) = Y := ⟨_, rfl⟩
  rw [hX, hY] at e1 hR
  obtain ⟨H, hH⟩ : ∃ H : Int, (h : Int) = H := ⟨_, rfl⟩
  obtain ⟨M, hM⟩ : ∃ M : Int, (l : Int) = M := ⟨_, rfl⟩
  rw [hH, hM] at hR
  rw [hH, hM]
  have HO := lH (fun w => ofP_atQ s' h' l' b hh hl e1 w)
  clear e1 hk hX hY hH hM
  have HR := lH hR
  clear hR
  by_cases c : s' = s ∧ X = H ∧ Y = M
  ·obtain ⟨rfl, rfl, rfl⟩ := c
   go_enter Tryz.func69, Tryz.ntmps69
   go_wp2_with fail
   refine cZm (HO.out _) ?_
   rintro e w1 ⟨rfl, hb⟩
   have K1 := lH ((Blk.new w 30 #[.bool s', .int .u64 X, .int .u64 Y, .int .i64 b]).alloc (.cells #[.bool s', .int .u64 h', .int .u64 l'] 28) |>.belowD hb (by simp only [zA]; omega))
   have Q1 := lH ((Blk.new (w.alloc (.cells #[.bool s', .int .u64 X, .int .u64 Y, .int .i64 b] 30)) 28 #[.bool s', .int .u64 h', .int .u64 l']).belowD hb (by simp only [zA]; omega))
   rw [zA] at Q1
   have L1 := lH ((((BelowD.refl _ w).alloc (Nat.le_refl _) _).alloc (by simp) _).trans (hb.mono (by simp only [zA]; omega)))
   have s1 : w.heap.size + 1 < w1.heap.size := by have := hb.size; simp only [zA] at this; omega
   clear hb
   obtain ⟨f0, f1, f2, f3⟩ := K1.out.c4
   obtain ⟨g0, g1, g2⟩ := Q1.out.c3
   have N1 := lH (L1.out.alloc L1.out.size (.cells #[.bool s', .int .u64 X, .int .u64 Y, .int .i64 b] 30))
   have K9 := lH (K1.out.alloc (.cells #[.bool s', .int .u64 X, .int .u64 Y, .int .i64 b] 30))
   obtain ⟨m0, m1, m2, m3⟩ := K9.out.c4
   go_wp2
   go_ret
   exact ⟨ret_bool (by rw [← HR.out]; simp [*]), N1.out⟩
  ·by_cases c1 : s' = s
   ·subst c1
    by_cases c2 : X = H
    ·subst c2
     have c3 : ¬ Y = M := fun e => c ⟨rfl, rfl, e⟩
     go_enter Tryz.func69, Tryz.ntmps69
     go_wp2_with fail
     refine cZm (HO.out _) ?_
     rintro e w1 ⟨rfl, hb⟩
     have K1 := lH ((Blk.new w 30 #[.bool s', .int .u64 X, .int .u64 M, .int .i64 b]).alloc (.cells #[.bool s', .int .u64 h', .int .u64 l'] 28) |>.belowD hb (by simp only [zA]; omega))
     have Q1 := lH ((Blk.new (w.alloc (.cells #[.bool s', .int .u64 X, .int .u64 M, .int .i64 b] 30)) 28 #[.bool s', .int .u64 h', .int .u64 l']).belowD hb (by simp only [zA]; omega))
     rw [zA] at Q1
     have L1 := lH ((((BelowD.refl _ w).alloc (Nat.le_refl _) _).alloc (by simp) _).trans (hb.mono (by simp only [zA]; omega)))
     have s1 : w.heap.size + 1 < w1.heap.size := by have := hb.size; simp only [zA] at this; omega
     clear hb
     obtain ⟨f0, f1, f2, f3⟩ := K1.out.c4
     obtain ⟨g0, g1, g2⟩ := Q1.out.c3
     have N1 := lH (L1.out.alloc L1.out.size (.cells #[.bool s', .int .u64 X, .int .u64 Y, .int .i64 b] 30))
     have K9 := lH (K1.out.alloc (.cells #[.bool s', .int .u64 X, .int .u64 Y, .int .i64 b] 30))
     obtain ⟨m0, m1, m2, m3⟩ := K9.out.c4
     go_wp2
     go_ret
     exact ⟨ret_bool (by rw [← HR.out]; simp [*]), N1.out⟩
    ·skip
     go_enter Tryz.func69, Tryz.ntmps69
     go_wp2_with fail
     refine cZm (HO.out _) ?_
     rintro e w1 ⟨rfl, hb⟩
     have K1 := lH ((Blk.new w 30 #[.bool s', .int .u64 H, .int .u64 M, .int .i64 b]).alloc (.cells #[.bool s', .int .u64 h', .int .u64 l'] 28) |>.belowD hb (by simp only [zA]; omega))
     have Q1 := lH ((Blk.new (w.alloc (.cells #[.bool s', .int .u64 H, .int .u64 M, .int .i64 b] 30)) 28 #[.bool s', .int .u64 h', .int .u64 l']).belowD hb (by simp only [zA]; omega))
     rw [zA] at Q1
     have L1 := lH ((((BelowD.refl _ w).alloc (Nat.le_refl _) _).alloc (by simp) _).trans (hb.mono (by simp only [zA]; omega)))
     have s1 : w.heap.size + 1 < w1.heap.size := by have := hb.size; simp only [zA] at this; omega
     clear hb
     obtain ⟨f0, f1, f2, f3⟩ := K1.out.c4
     obtain ⟨g0, g1, g2⟩ := Q1.out.c3
     have N1 := lH (L1.out.alloc L1.out.size (.cells #[.bool s', .int .u64 X, .int .u64 Y, .int .i64 b] 30))
     have K9 := lH (K1.out.alloc (.cells #[.bool s', .int .u64 X, .int .u64 Y, .int .i64 b] 30))
     obtain ⟨m0, m1, m2, m3⟩ := K9.out.c4
     go_wp2
     go_ret
     exact ⟨ret_bool (by rw [← HR.out]; simp [*]), N1.out⟩
   ·cases s <;> cases s'
    ·exact absurd rfl c1
    ·skip
     go_enter Tryz.func69, Tryz.ntmps69
     go_wp2_with fail
     refine cZm (HO.out _) ?_
     rintro e w1 ⟨rfl, hb⟩
     have K1 := lH ((Blk.new w 30 #[.bool false, .int .u64 H, .int .u64 M, .int .i64 b]).alloc (.cells #[.bool true, .int .u64 h', .int .u64 l'] 28) |>.belowD hb (by simp only [zA]; omega))
     have Q1 := lH ((Blk.new (w.alloc (.cells #[.bool false, .int .u64 H, .int .u64 M, .int .i64 b] 30)) 28 #[.bool true, .int .u64 h', .int .u64 l']).belowD hb (by simp only [zA]; omega))
     rw [zA] at Q1
     have L1 := lH ((((BelowD.refl _ w).alloc (Nat.le_refl _) _).alloc (by simp) _).trans (hb.mono (by simp only [zA]; omega)))
     have s1 : w.heap.size + 1 < w1.heap.size := by have := hb.size; simp only [zA] at this; omega
     clear hb
     obtain ⟨f0, f1, f2, f3⟩ := K1.out.c4
     obtain ⟨g0, g1, g2⟩ := Q1.out.c3
     have N1 := lH (L1.out.alloc L1.out.size (.cells #[.bool true, .int .u64 X, .int .u64 Y, .int .i64 b] 30))
     have K9 := lH (K1.out.alloc (.cells #[.bool true, .int .u64 X, .int .u64 Y, .int .i64 b] 30))
     obtain ⟨m0, m1, m2, m3⟩ := K9.out.c4
     go_wp2
     go_ret
     exact ⟨ret_bool (by rw [← HR.out]; simp [*]), N1.out⟩
    ·skip
     go_enter Tryz.func69, Tryz.ntmps69
     go_wp2_with fail
     refine cZm (HO.out _) ?_
     rintro e w1 ⟨rfl, hb⟩
     have K1 := lH ((Blk.new w 30 #[.bool true, .int .u64 H, .int .u64 M, .int .i64 b]).alloc (.cells #[.bool false, .int .u64 h', .int .u64 l'] 28) |>.belowD hb (by simp only [zA]; omega))
     have Q1 := lH ((Blk.new (w.alloc (.cells #[.bool true, .int .u64 H, .int .u64 M, .int .i64 b] 30)) 28 #[.bool false, .int .u64 h', .int .u64 l']).belowD hb (by simp only [zA]; omega))
     rw [zA] at Q1
     have L1 := lH ((((BelowD.refl _ w).alloc (Nat.le_refl _) _).alloc (by simp) _).trans (hb.mono (by simp only [zA]; omega)))
     have s1 : w.heap.size + 1 < w1.heap.size := by have := hb.size; simp only [zA] at this; omega
     clear hb
     obtain ⟨f0, f1, f2, f3⟩ := K1.out.c4
     obtain ⟨g0, g1, g2⟩ := Q1.out.c3
     have N1 := lH (L1.out.alloc L1.out.size (.cells #[.bool false, .int .u64 X, .int .u64 Y, .int .i64 b] 30))
     have K9 := lH (K1.out.alloc (.cells #[.bool false, .int .u64 X, .int .u64 Y, .int .i64 b] 30))
     obtain ⟨m0, m1, m2, m3⟩ := K9.out.c4
     go_wp2
     go_ret
     exact ⟨ret_bool (by rw [← HR.out]; simp [*]), N1.out⟩
    ·exact absurd rfl c1
 ·have e1 := ofP_no hk
  have HO := lH (fun w => ofP_atQ s' h' l' b hh hl e1 w)
  rw [hld_not hk] at hR
  subst hR
  clear e1 hk
  go_enter Tryz.func69, Tryz.ntmps69
  go_wp2_with fail
  refine cZm (HO.out _) ?_
  rintro e w1 ⟨rfl, hb⟩
  have K1 := lH ((Blk.new w 30 #[.bool s, .int .u64 h, .int .u64 l, .int .i64 b]).alloc (.cells #[.bool s', .int .u64 h', .int .u64 l'] 28) |>.belowD hb (by simp only [zA]; omega))
  have Q1 := lH ((Blk.new (w.alloc (.cells #[.bool s, .int .u64 h, .int .u64 l, .int .i64 b] 30)) 28 #[.bool s', .int .u64 h', .int .u64 l']).belowD hb (by simp only [zA]; omega))
  rw [zA] at Q1
  have L1 := lH ((((BelowD.refl _ w).alloc (Nat.le_refl _) _).alloc (by simp) _).trans (hb.mono (by simp only [zA]; omega)))
  have s1 : w.heap.size + 1 < w1.heap.size := by have := hb.size; simp only [zA] at this; omega
  clear hb
  obtain ⟨f0, f1, f2, f3⟩ := K1.out.c4
  obtain ⟨g0, g1, g2⟩ := Q1.out.c3
  have N1 := lH (L1.out.alloc L1.out.size (.cells #[.bool false, .int .u64 0, .int .u64 0, .int .i64 0] 30))
  go_wp2
  go_ret
  exact ⟨rfl, N1.out⟩
theorem holds_atQ (s : Bool) (h l : Nat) (b : Int) (s' : Bool) (h' l' : Nat) (hh : N64 h') (hl : N64 l') {v : Bool} (e : hld s h l b s' h' l' = v) (w : World) :
  Calls Tryz.prog 69 #[pfx s h l b, adr s' h' l'] w fun e w' => e = .returned (.bool v) ∧ BelowD w.heap.size w w' := by
 subst e; exact holds_anyQ s h l b s' h' l' hh hl w
theorem pvalid_atQ (s : Bool) (h l : Nat) (b : Int) (hh : N64 h) (hl : N64 l) {v : Bool} (e : pvl s h l b = v) (w : World) :
  Calls Tryz.prog 106 #[pfx s h l b] w fun e w' => e = .returned (.bool v) ∧ BelowD w.heap.size w w' := by
 have H := lH (fun w => holds_atQ s h l b s h l hh hl e w)
 clear e
 go_enter Tryz.func106, Tryz.ntmps106
 go_wp2_with fail
 refine cZm (H.out _) ?_
 rintro e w1 ⟨rfl, hb⟩
 have L1 := lH (((BelowD.refl _ w).alloc (Nat.le_refl _) _).trans (hb.mono (by simp only [zA]; omega)))
 clear hb
 go_wp2
 go_ret
 exact ⟨rfl, L1.out⟩
theorem addrless_atQ (s : Bool) (h l : Int) (s' : Bool) (h' l' : Int) (w : World) {v : Bool} (e : lss s h l s' h' l' = v) :
  Calls Tryz.prog 116 #[adr s h l, adr s' h' l'] w fun e w' => e = .returned (.bool v) ∧ BelowD w.heap.size w w' := by
 subst e; exact less_anyQ s h l s' h' l' w
theorem pless_atQ (s : Bool) (h l : Nat) (b : Int) (s' : Bool) (h' l' : Nat) (b' : Int) (hh : N64 h) (hl : N64 l) (hh' : N64 h') (hl' : N64 l') {v : Bool} (ev : pls s h l b s' h' l' b' = v) (w : World) :
  Calls Tryz.prog 74 #[pfx s h l b, pfx s' h' l' b'] w fun e w' => e = .returned (.bool v) ∧ BelowD w.heap.size w w' := by
 unfold pls at ev
 obtain ⟨V1, hV1⟩ : ∃ V, pvl s h l b = V := ⟨_, rfl⟩
 obtain ⟨V2, hV2⟩ : ∃ V, pvl s' h' l' b' = V := ⟨_, rfl⟩
 obtain ⟨T, hT⟩ : ∃ T, lss s h l s' h' l' = T := ⟨_, rfl⟩
 rw [hV1, hV2, hT] at ev
 have H1 := lH (fun w => pvalid_atQ s h l b hh hl hV1 w)
 have H2 := lH (fun w => pvalid_atQ s' h' l' b' hh' hl' hV2 w)
 have HT := lH (fun w => addrless_atQ s h l s' h' l' w hT)
 clear hV1 hV2 hT hh hl hh' hl'
 cases V1
 ·simp only [Bool.false_and] at ev
  subst ev
  go_enter Tryz.func74, Tryz.ntmps74
  go_wp2_with fail
  refine cZm (H1.out _) ?_
  rintro e w1 ⟨rfl, hb⟩
  have K1 := lH ((Blk.new w 30 #[.bool s, .int .u64 h, .int .u64 l, .int .i64 b]).alloc (.cells #[.bool s', .int .u64 h', .int .u64 l', .int .i64 b'] 30) |>.belowD hb (by simp only [zA]; omega))
  have Q1 := lH ((Blk.new (w.alloc (.cells #[.bool s, .int .u64 h, .int .u64 l, .int .i64 b] 30)) 30 #[.bool s', .int .u64 h', .int .u64 l', .int .i64 b']).belowD hb (by simp only [zA]; omega))
  rw [zA] at Q1
  have L1 := lH ((((BelowD.refl _ w).alloc (Nat.le_refl _) _).alloc (by simp) _).trans (hb.mono (by simp only [zA]; omega)))
  have s1 : w.heap.size + 1 < w1.heap.size := by have := hb.size; simp only [zA] at this; omega
  clear hb
  obtain ⟨f0, f1, f2, f3⟩ := K1.out.c4
  obtain ⟨g0, g1, g2, g3⟩ := Q1.out.c4
  go_wp2
  go_ret
  exact ⟨rfl, L1.out⟩
 ·cases V2
  ·simp only [Bool.false_and, Bool.and_false] at ev
   subst ev
   go_enter Tryz.func74, Tryz.ntmps74
   go_wp2_with fail
   refine cZm (H1.out _) ?_
   rintro e w1 ⟨rfl, hb⟩
   have K1 := lH ((Blk.new w 30 #[.bool s, .int .u64 h, .int .u64 l, .int .i64 b]).alloc (.cells #[.bool s', .int .u64 h', .int .u64 l', .int .i64 b'] 30) |>.belowD hb (by simp only [zA]; omega))
   have Q1 := lH ((Blk.new (w.alloc (.cells #[.bool s, .int .u64 h, .int .u64 l, .int .i64 b] 30)) 30 #[.bool s', .int .u64 h', .int .u64 l', .int .i64 b']).belowD hb (by simp only [zA]; omega))
   rw [zA] at Q1
   have L1 := lH ((((BelowD.refl _ w).alloc (Nat.le_refl _) _).alloc (by simp) _).trans (hb.mono (by simp only [zA]; omega)))
   have s1 : w.heap.size + 1 < w1.heap.size := by have := hb.size; simp only [zA] at this; omega
   clear hb
   obtain ⟨f0, f1, f2, f3⟩ := K1.out.c4
   obtain ⟨g0, g1, g2, g3⟩ := Q1.out.c4
   go_wp2_with fail
   refine cZm (H2.out _) ?_
   rintro e w2 ⟨rfl, hb⟩
   clear f0 f1 f2 f3 g0 g1 g2 g3
   have K2 := lH (K1.out.belowD hb (by omega))
   have Q2 := lH (Q1.out.belowD hb s1)
   have L2 := lH (L1.out.trans (hb.mono L1.out.size))
   have s2 : w.heap.size + 1 < w2.heap.size := by have := hb.size; omega
   clear hb
   obtain ⟨f0, f1, f2, f3⟩ := K2.out.c4
   obtain ⟨g0, g1, g2, g3⟩ := Q2.out.c4
   go_wp2
   go_ret
   exact ⟨rfl, L2.out⟩
  ·simp only [Bool.true_and] at ev
   cases T
   ·simp only [Bool.false_or] at ev
    obtain ⟨A, hA⟩ : ∃ A : Int, (h : Int) = A := ⟨_, rfl⟩
    obtain ⟨B, hB⟩ : ∃ B : Int, (l : Int) = B := ⟨_, rfl⟩
    obtain ⟨A', hA'⟩ : ∃ A : Int, (h' : Int) = A := ⟨_, rfl⟩
    obtain ⟨B', hB'⟩ : ∃ B : Int, (l' : Int) = B := ⟨_, rfl⟩
    have ev2 : decide (s = s' ∧ A = A' ∧ B = B' ∧ b < b') = v := by
     rw [← ev, ← hA, ← hB, ← hA', ← hB', Bool.eq_iff_iff]
     simp only [Bool.and_eq_true, decide_eq_true_eq, and_assoc]
     exact and_congr_right fun _ => and_congr (by omega) (and_congr_left fun _ => by omega)
    rw [hA, hB] at H1 HT ⊢
    rw [hA', hB'] at H2 HT ⊢
    clear ev hA hB hA' hB'
    by_cases c : s = s' ∧ A = A' ∧ B = B'
    ·obtain ⟨rfl, rfl, rfl⟩ := c
     have ev3 := lH ev2
     clear ev2
     by_cases c4 : b < b'
     ·skip
      go_enter Tryz.func74, Tryz.ntmps74
      go_wp2_with fail
      refine cZm (H1.out _) ?_
      rintro e w1 ⟨rfl, hb⟩
      have K1 := lH ((Blk.new w 30 #[.bool s, .int .u64 A, .int .u64 B, .int .i64 b]).alloc (.cells #[.bool s, .int .u64 A, .int .u64 B, .int .i64 b'] 30) |>.belowD hb (by simp only [zA]; omega))
      have Q1 := lH ((Blk.new (w.alloc (.cells #[.bool s, .int .u64 A, .int .u64 B, .int .i64 b] 30)) 30 #[.bool s, .int .u64 A, .int .u64 B, .int .i64 b']).belowD hb (by simp only [zA]; omega))
      rw [zA] at Q1
      have L1 := lH ((((BelowD.refl _ w).alloc (Nat.le_refl _) _).alloc (by simp) _).trans (hb.mono (by simp only [zA]; omega)))
      have s1 : w.heap.size + 1 < w1.heap.size := by have := hb.size; simp only [zA] at this; omega
      clear hb
      obtain ⟨f0, f1, f2, f3⟩ := K1.out.c4
      obtain ⟨g0, g1, g2, g3⟩ := Q1.out.c4
      go_wp2_with fail
      refine cZm (H2.out _) ?_
      rintro e w2 ⟨rfl, hb⟩
      clear f0 f1 f2 f3 g0 g1 g2 g3
      have K2 := lH (K1.out.belowD hb (by omega))
      have Q2 := lH (Q1.out.belowD hb s1)
      have L2 := lH (L1.out.trans (hb.mono L1.out.size))
      have s2 : w.heap.size + 1 < w2.heap.size := by have := hb.size; omega
      clear hb
      obtain ⟨f0, f1, f2, f3⟩ := K2.out.c4
      obtain ⟨g0, g1, g2, g3⟩ := Q2.out.c4
      go_wp2_with fail
      refine cZm (HT.out _) ?_
      rintro e w3 ⟨rfl, hb⟩
      clear f0 f1 f2 f3 g0 g1 g2 g3
      have K3 := lH (K2.out.belowD hb (by omega))
      have Q3 := lH (Q2.out.belowD hb s2)
      have L3 := lH (L2.out.trans (hb.mono L2.out.size))
      have s3 : w.heap.size + 1 < w3.heap.size := by have := hb.size; omega
      clear hb
      obtain ⟨f0, f1, f2, f3⟩ := K3.out.c4
      obtain ⟨g0, g1, g2, g3⟩ := Q3.out.c4
      go_wp2
      go_ret
      exact ⟨ret_bool (by rw [← ev3.out]; simp [*]), L3.out⟩
     ·skip
      go_enter Tryz.func74, Tryz.ntmps74
      go_wp2_with fail
      refine cZm (H1.out _) ?_
      rintro e w1 ⟨rfl, hb⟩
      have K1 := lH ((Blk.new w 30 #[.bool s, .int .u64 A, .int .u64 B, .int .i64 b]).alloc (.cells #[.bool s, .int .u64 A, .int .u64 B, .int .i64 b'] 30) |>.belowD hb (by simp only [zA]; omega))
      have Q1 := lH ((Blk.new (w.alloc (.cells #[.bool s, .int .u64 A, .int .u64 B, .int .i64 b] 30)) 30 #[.bool s, .int .u64 A, .int .u64 B, .int .i64 b']).belowD hb (by simp only [zA]; omega))
      rw [zA] at Q1
      have L1 := lH ((((BelowD.refl _ w).alloc (Nat.le_refl _) _).alloc (by simp) _).trans (hb.mono (by simp only [zA]; omega)))
      have s1 : w.heap.size + 1 < w1.heap.size := by have := hb.size; simp only [zA] at this; omega
      clear hb
      obtain ⟨f0, f1, f2, f3⟩ := K1.out.c4
      obtain ⟨g0, g1, g2, g3⟩ := Q1.out.c4
      go_wp2_with fail
      refine cZm (H2.out _) ?_
      rintro e w2 ⟨rfl, hb⟩
      clear f0 f1 f2 f3 g0 g1 g2 g3
      have K2 := lH (K1.out.belowD hb (by omega))
      have Q2 := lH (Q1.out.belowD hb s1)
      have L2 := lH (L1.out.trans (hb.mono L1.out.size))
      have s2 : w.heap.size + 1 < w2.heap.size := by have := hb.size; omega
      clear hb
      obtain ⟨f0, f1, f2, f3⟩ := K2.out.c4
      obtain ⟨g0, g1, g2, g3⟩ := Q2.out.c4
      go_wp2_with fail
      refine cZm (HT.out _) ?_
      rintro e w3 ⟨rfl, hb⟩
      clear f0 f1 f2 f3 g0 g1 g2 g3
      have K3 := lH (K2.out.belowD hb (by omega))
      have Q3 := lH (Q2.out.belowD hb s2)
      have L3 := lH (L2.out.trans (hb.mono L2.out.size))
      have s3 : w.heap.size + 1 < w3.heap.size := by have := hb.size; omega
      clear hb
      obtain ⟨f0, f1, f2, f3⟩ := K3.out.c4
      obtain ⟨g0, g1, g2, g3⟩ := Q3.out.c4
      go_wp2
      go_ret
      exact ⟨ret_bool (by rw [← ev3.out]; simp [*]), L3.out⟩
    ·have ev3 := lH ev2
     clear ev2
     by_cases c1 : s = s'
     ·subst c1
      by_cases c2 : A = A'
      ·subst c2
       have c3 : ¬ B = B' := fun e => c ⟨rfl, rfl, e⟩
       go_enter Tryz.func74, Tryz.ntmps74
       go_wp2_with fail
       refine cZm (H1.out _) ?_
       rintro e w1 ⟨rfl, hb⟩
       have K1 := lH ((Blk.new w 30 #[.bool s, .int .u64 A, .int .u64 B, .int .i64 b]).alloc (.cells #[.bool s, .int .u64 A, .int .u64 B', .int .i64 b'] 30) |>.belowD hb (by simp only [zA]; omega))
       have Q1 := lH ((Blk.new (w.alloc (.cells #[.bool s, .int .u64 A, .int .u64 B, .int .i64 b] 30)) 30 #[.bool s, .int .u64 A, .int .u64 B', .int .i64 b']).belowD hb (by simp only [zA]; omega))
       rw [zA] at Q1
       have L1 := lH ((((BelowD.refl _ w).alloc (Nat.le_refl _) _).alloc (by simp) _).trans (hb.mono (by simp only [zA]; omega)))
       have s1 : w.heap.size + 1 < w1.heap.size := by have := hb.size; simp only [zA] at this; omega
       clear hb
       obtain ⟨f0, f1, f2, f3⟩ := K1.out.c4
       obtain ⟨g0, g1, g2, g3⟩ := Q1.out.c4
       go_wp2_with fail
       refine cZm (H2.out _) ?_
       rintro e w2 ⟨rfl, hb⟩
       clear f0 f1 f2 f3 g0 g1 g2 g3
       have K2 := lH (K1.out.belowD hb (by omega))
       have Q2 := lH (Q1.out.belowD hb s1)
       have L2 := lH (L1.out.trans (hb.mono L1.out.size))
       have s2 : w.heap.size + 1 < w2.heap.size := by have := hb.size; omega
       clear hb
       obtain ⟨f0, f1, f2, f3⟩ := K2.out.c4
       obtain ⟨g0, g1, g2, g3⟩ := Q2.out.c4
       go_wp2_with fail
       refine cZm (HT.out _) ?_
       rintro e w3 ⟨rfl, hb⟩
       clear f0 f1 f2 f3 g0 g1 g2 g3
       have K3 := lH (K2.out.belowD hb (by omega))
       have Q3 := lH (Q2.out.belowD hb s2)
       have L3 := lH (L2.out.trans (hb.mono L2.out.size))
       have s3 : w.heap.size + 1 < w3.heap.size := by have := hb.size; omega
       clear hb
       obtain ⟨f0, f1, f2, f3⟩ := K3.out.c4
       obtain ⟨g0, g1, g2, g3⟩ := Q3.out.c4
       go_wp2
       go_ret
       exact ⟨ret_bool (by rw [← ev3.out]; simp [*]), L3.out⟩
      ·skip
       go_enter Tryz.func74, Tryz.ntmps74
       go_wp2_with fail
       refine cZm (H1.out _) ?_
       rintro e w1 ⟨rfl, hb⟩
       have K1 := lH ((Blk.new w 30 #[.bool s, .int .u64 A, .int .u64 B, .int .i64 b]).alloc (.cells #[.bool s, .int .u64 A', .int .u64 B', .int .i64 b'] 30) |>.belowD hb (by simp only [zA]; omega))
       have Q1 := lH ((Blk.new (w.alloc (.cells #[.bool s, .int .u64 A, .int .u64 B, .int .i64 b] 30)) 30 #[.bool s, .int .u64 A', .int .u64 B', .int .i64 b']).belowD hb (by simp only [zA]; omega))
       rw [zA] at Q1
       have L1 := lH ((((BelowD.refl _ w).alloc (Nat.le_refl _) _).alloc (by simp) _).trans (hb.mono (by simp only [zA]; omega)))
       have s1 : w.heap.size + 1 < w1.heap.size := by have := hb.size; simp only [zA] at this; omega
       clear hb
       obtain ⟨f0, f1, f2, f3⟩ := K1.out.c4
       obtain ⟨g0, g1, g2, g3⟩ := Q1.out.c4
       go_wp2_with fail
       refine cZm (H2.out _) ?_
       rintro e w2 ⟨rfl, hb⟩
       clear f0 f1 f2 f3 g0 g1 g2 g3
       have K2 := lH (K1.out.belowD hb (by omega))
       have Q2 := lH (Q1.out.belowD hb s1)
       have L2 := lH (L1.out.trans (hb.mono L1.out.size))
       have s2 : w.heap.size + 1 < w2.heap.size := by have := hb.size; omega
       clear hb
       obtain ⟨f0, f1, f2, f3⟩ := K2.out.c4
       obtain ⟨g0, g1, g2, g3⟩ := Q2.out.c4
       go_wp2_with fail
       refine cZm (HT.out _) ?_
       rintro e w3 ⟨rfl, hb⟩
       clear f0 f1 f2 f3 g0 g1 g2 g3
       have K3 := lH (K2.out.belowD hb (by omega))
       have Q3 := lH (Q2.out.belowD hb s2)
       have L3 := lH (L2.out.trans (hb.mono L2.out.size))
       have s3 : w.heap.size + 1 < w3.heap.size := by have := hb.size; omega
       clear hb
       obtain ⟨f0, f1, f2, f3⟩ := K3.out.c4
       obtain ⟨g0, g1, g2, g3⟩ := Q3.out.c4
       go_wp2
       go_ret
       exact ⟨ret_bool (by rw [← ev3.out]; simp [*]), L3.out⟩
     ·cases s <;> cases s'
      ·exact absurd rfl c1
      ·skip
       go_enter Tryz.func74, Tryz.ntmps74
       go_wp2_with fail
       refine cZm (H1.out _) ?_
       rintro e w1 ⟨rfl, hb⟩
       have K1 := lH ((Blk.new w 30 #[.bool false, .int .u64 A, .int .u64 B, .int .i64 b]).alloc (.cells #[.bool true, .int .u64 A', .int .u64 B', .int .i64 b'] 30) |>.belowD hb (by simp only [zA]; omega))
       have Q1 := lH ((Blk.new (w.alloc (.cells #[.bool false, .int .u64 A, .int .u64 B, .int .i64 b] 30)) 30 #[.bool true, .int .u64 A', .int .u64 B', .int .i64 b']).belowD hb (by simp only [zA]; omega))
       rw [zA] at Q1
       have L1 := lH ((((BelowD.refl _ w).alloc (Nat.le_refl _) _).alloc (by simp) _).trans (hb.mono (by simp only [zA]; omega)))
       have s1 : w.heap.size + 1 < w1.heap.size := by have := hb.size; simp only [zA] at this; omega
       clear hb
       obtain ⟨f0, f1, f2, f3⟩ := K1.out.c4
       obtain ⟨g0, g1, g2, g3⟩ := Q1.out.c4
       go_wp2_with fail
       refine cZm (H2.out _) ?_
       rintro e w2 ⟨rfl, hb⟩
       clear f0 f1 f2 f3 g0 g1 g2 g3
       have K2 := lH (K1.out.belowD hb (by omega))
       have Q2 := lH (Q1.out.belowD hb s1)
       have L2 := lH (L1.out.trans (hb.mono L1.out.size))
       have s2 : w.heap.size + 1 < w2.heap.size := by have := hb.size; omega
       clear hb
       obtain ⟨f0, f1, f2, f3⟩ := K2.out.c4
       obtain ⟨g0, g1, g2, g3⟩ := Q2.out.c4
       go_wp2_with fail
       refine cZm (HT.out _) ?_
       rintro e w3 ⟨rfl, hb⟩
       clear f0 f1 f2 f3 g0 g1 g2 g3
       have K3 := lH (K2.out.belowD hb (by omega))
       have Q3 := lH (Q2.out.belowD hb s2)
       have L3 := lH (L2.out.trans (hb.mono L2.out.size))
       have s3 : w.heap.size + 1 < w3.heap.size := by have := hb.size; omega
       clear hb
       obtain ⟨f0, f1, f2, f3⟩ := K3.out.c4
       obtain ⟨g0, g1, g2, g3⟩ := Q3.out.c4
       go_wp2
       go_ret
       exact ⟨ret_bool (by rw [← ev3.out]; simp [*]), L3.out⟩
      ·skip
       go_enter Tryz.func74, Tryz.ntmps74
       go_wp2_with fail
       refine cZm (H1.out _) ?_
       rintro e w1 ⟨rfl, hb⟩
       have K1 := lH ((Blk.new w 30 #[.bool true, .int .u64 A, .int .u64 B, .int .i64 b]).alloc (.cells #[.bool false, .int .u64 A', .int .u64 B', .int .i64 b'] 30) |>.belowD hb (by simp only [zA]; omega))
       have Q1 := lH ((Blk.new (w.alloc (.cells #[.bool true, .int .u64 A, .int .u64 B, .int .i64 b] 30)) 30 #[.bool false, .int .u64 A', .int .u64 B', .int .i64 b']).belowD hb (by simp only [zA]; omega))
       rw [zA] at Q1
       have L1 := lH ((((BelowD.refl _ w).alloc (Nat.le_refl _) _).alloc (by simp) _).trans (hb.mono (by simp only [zA]; omega)))
       have s1 : w.heap.size + 1 < w1.heap.size := by have := hb.size; simp only [zA] at this; omega
       clear hb
       obtain ⟨f0, f1, f2, f3⟩ := K1.out.c4
       obtain ⟨g0, g1, g2, g3⟩ := Q1.out.c4
       go_wp2_with fail
       refine cZm (H2.out _) ?_
       rintro e w2 ⟨rfl, hb⟩
       clear f0 f1 f2 f3 g0 g1 g2 g3
       have K2 := lH (K1.out.belowD hb (by omega))
       have Q2 := lH (Q1.out.belowD hb s1)
       have L2 := lH (L1.out.trans (hb.mono L1.out.size))
       have s2 : w.heap.size + 1 < w2.heap.size := by have := hb.size; omega
       clear hb
       obtain ⟨f0, f1, f2, f3⟩ := K2.out.c4
       obtain ⟨g0, g1, g2, g3⟩ := Q2.out.c4
       go_wp2_with fail
       refine cZm (HT.out _) ?_
       rintro e w3 ⟨rfl, hb⟩
       clear f0 f1 f2 f3 g0 g1 g2 g3
       have K3 := lH (K2.out.belowD hb (by omega))
       have Q3 := lH (Q2.out.belowD hb s2)
       have L3 := lH (L2.out.trans (hb.mono L2.out.size))
       have s3 : w.heap.size + 1 < w3.heap.size := by have := hb.size; omega
       clear hb
       obtain ⟨f0, f1, f2, f3⟩ := K3.out.c4
       obtain ⟨g0, g1, g2, g3⟩ := Q3.out.c4
       go_wp2
       go_ret
       exact ⟨ret_bool (by rw [← ev3.out]; simp [*]), L3.out⟩
      ·exact absurd rfl c1
   ·simp only [Bool.true_or] at ev
    subst ev
    go_enter Tryz.func74, Tryz.ntmps74
    go_wp2_with fail
    refine cZm (H1.out _) ?_
    rintro e w1 ⟨rfl, hb⟩
    have K1 := lH ((Blk.new w 30 #[.bool s, .int .u64 h, .int .u64 l, .int .i64 b]).alloc (.cells #[.bool s', .int .u64 h', .int .u64 l', .int .i64 b'] 30) |>.belowD hb (by simp only [zA]; omega))
    have Q1 := lH ((Blk.new (w.alloc (.cells #[.bool s, .int .u64 h, .int .u64 l, .int .i64 b] 30)) 30 #[.bool s', .int .u64 h', .int .u64 l', .int .i64 b']).belowD hb (by simp only [zA]; omega))
    rw [zA] at Q1
    have L1 := lH ((((BelowD.refl _ w).alloc (Nat.le_refl _) _).alloc (by simp) _).trans (hb.mono (by simp only [zA]; omega)))
    have s1 : w.heap.size + 1 < w1.heap.size := by have := hb.size; simp only [zA] at this; omega
    clear hb
    obtain ⟨f0, f1, f2, f3⟩ := K1.out.c4
    obtain ⟨g0, g1, g2, g3⟩ := Q1.out.c4
    go_wp2_with fail
    refine cZm (H2.out _) ?_
    rintro e w2 ⟨rfl, hb⟩
    clear f0 f1 f2 f3 g0 g1 g2 g3
    have K2 := lH (K1.out.belowD hb (by omega))
    have Q2 := lH (Q1.out.belowD hb s1)
    have L2 := lH (L1.out.trans (hb.mono L1.out.size))
    have s2 : w.heap.size + 1 < w2.heap.size := by have := hb.size; omega
    clear hb
    obtain ⟨f0, f1, f2, f3⟩ := K2.out.c4
    obtain ⟨g0, g1, g2, g3⟩ := Q2.out.c4
    go_wp2_with fail
    refine cZm (HT.out _) ?_
    rintro e w3 ⟨rfl, hb⟩
    clear f0 f1 f2 f3 g0 g1 g2 g3
    have K3 := lH (K2.out.belowD hb (by omega))
    have Q3 := lH (Q2.out.belowD hb s2)
    have L3 := lH (L2.out.trans (hb.mono L2.out.size))
    have s3 : w.heap.size + 1 < w3.heap.size := by have := hb.size; omega
    clear hb
    obtain ⟨f0, f1, f2, f3⟩ := K3.out.c4
    obtain ⟨g0, g1, g2, g3⟩ := Q3.out.c4
    go_wp2
    go_ret
    exact ⟨rfl, L3.out⟩
end Go.Proofs.YtgfkmgbcajdcdaaGreatDoor
