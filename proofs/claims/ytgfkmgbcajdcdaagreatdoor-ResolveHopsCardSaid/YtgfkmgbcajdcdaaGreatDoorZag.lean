/-
  Several texts in one: RpB, RpC, RpD, RpE.
-/
import Derived.Test.YtgfkmgbcajdcdaaGreatDoorZaf
import Derived.StillTailTactics
import Derived.Lib.AppendZerosOnto
import Derived.Lib.AppendZeros
import Derived.Lib.Overlaps
import Derived.Laws.CopyRow
import Derived.Laws.NewBlocks
import Derived.Test.YtgfkmgbcajdcdaaGreatDoorZaa
set_option linter.unusedVariables false
set_option maxRecDepth 100000
set_option maxHeartbeats 16000000
namespace Go.Proofs.YtgfkmgbcajdcdaaGreatDoor
open Go.RowKit

def distT : List Int := [0, 1, 20, 110, 120]
def EnvR (w : World) : Prop := ∀ j, j < 5 → w.cell? ⟨0, j, none⟩ = some (.int .i64 (distT.getD j 0))
theorem EnvR.lt {w : World} (h : EnvR w) : 0 < w.heap.size := World.block_lt_of_cell? w _ (h 0 (by decide))
theorem EnvR.tch {w w' : World} {T : List Nat} (h : EnvR w) (ht : Tch w w' T) (hn : 0 ∉ T) : EnvR w' := fun j hj => (ht.cell (p := ⟨0, j, none⟩) h.lt hn).trans (h j hj)
theorem EnvR.tch0 {w w' : World} (h : EnvR w) (ht : Tch w w' []) : EnvR w' := h.tch ht (by simp)
theorem EnvR.below {w w' : World} (h : EnvR w) (hb : Below w.heap.size w w') : EnvR w' := h.tch0 (Tch.of_below [] hb)
theorem EnvR.nin {w : World} {S : List Nat} (h : EnvR w) (hs : ∀ s ∈ S, w.heap.size ≤ s) : 0 ∉ S := fun hm => by have := hs _ hm; have := h.lt; omega
theorem isProto_at (p : Int) {b : Bool} (hb : (decide (0 ≤ p) && decide (p < 5)) = b) (w : World) : Calls Tryz.prog 120 #[.int .i64 p] w fun e w' => e = .returned (.bool b) ∧ w' = w := by
 by_cases h0 : 0 ≤ p
 ·by_cases h5 : p < 5
  ·have hb1 : b = true := by rw [← hb]; simp [h0, h5]
   subst hb1
   clear hb
   go_enter Tryz.func120, Tryz.ntmps120
   go_wp2
   go_ret
   exact ⟨rfl, rfl⟩
  ·have hb1 : b = false := by rw [← hb]; simp [h5]
   subst hb1
   clear hb
   go_enter Tryz.func120, Tryz.ntmps120
   go_wp2
   go_ret
   exact ⟨rfl, rfl⟩
 ·have hb1 : b = false := by rw [← hb]; simp [h0]
  subst hb1
  clear hb
  go_enter Tryz.func120, Tryz.ntmps120
  go_wp2
  go_ret
  exact ⟨rfl, rfl⟩
theorem distT_at {p : Int} (h0 : 0 ≤ p) (h5 : p < 5) : distT.getD p.toNat 0 = distI p := by
 have : p = 0 ∨ p = 1 ∨ p = 2 ∨ p = 3 ∨ p = 4 := by omega
 rcases this with rfl | rfl | rfl | rfl | rfl <;> rfl
theorem distI_far {p : Int} (h : ¬ (0 ≤ p ∧ p < 5)) : distI p = 255 := by
 unfold distI
 rw [if_neg (by omega), if_neg (by omega), if_neg (by omega), if_neg (by omega), if_neg (by omega)]
theorem pdist_any (p : Int) (w : World) (hE : EnvR w) : Calls Tryz.prog 161 #[.int .i64 p] w fun e w' => e = .returned (.int .i64 (distI p)) ∧ w' = w := by
 by_cases h : 0 ≤ p ∧ p < 5
 ·have HP := lH (isProto_at p (b := true) (by simp [h.1, h.2]) w)
  obtain ⟨k, rfl⟩ : ∃ k : Nat, p = k := ⟨p.toNat, by omega⟩
  have hc := hE k (by omega)
  have hd := distT_at h.1 h.2
  rw [Int.toNat_natCast] at hd
  rw [hd] at hc
  obtain ⟨D, hD⟩ : ∃ D, distI (k : Int) = D := ⟨_, rfl⟩
  rw [hD] at hc ⊢
  obtain ⟨k0, k5⟩ := h
  clear hd hD hE
  go_enter Tryz.func161, Tryz.ntmps161
  go_wp2_with (go_at_call 120; refine cZm HP.out ?_; rintro e w' ⟨rfl, rfl⟩)
  go_ret
  exact ⟨rfl, rfl⟩
 ·have HP := lH (isProto_at p (b := false) (by by_cases h0 : 0 ≤ p <;> by_cases h5 : p < 5 <;> simp [h0, h5]; exact h ⟨h0, h5⟩) w)
  rw [distI_far h]
  clear h hE
  go_enter Tryz.func161, Tryz.ntmps161
  go_wp2_with (go_at_call 120; refine cZm HP.out ?_; rintro e w' ⟨rfl, rfl⟩)
  go_ret
  exact ⟨rfl, rfl⟩
def cmpI (a b : Int) : Int := if a < b then -1 else if b < a then 1 else 0
theorem nan_i (a : Int) (w : World) : Calls Tryz.prog 139 #[.int .i64 a] w fun e w' => e = .returned (.bool false) ∧ w' = w := by
 have e0 : (a != a) = false := by simp
 go_enter Tryz.func139, Tryz.ntmps139
 go_wp2
 go_ret
 exact ⟨rfl, rfl⟩
theorem nan_u (a : Int) (w : World) : Calls Tryz.prog 195 #[.int .u64 a] w fun e w' => e = .returned (.bool false) ∧ w' = w := by
 have e0 : (a != a) = false := by simp
 go_enter Tryz.func195, Tryz.ntmps195
 go_wp2
 go_ret
 exact ⟨rfl, rfl⟩
theorem cmp_i (a b : Int) (w : World) : Calls Tryz.prog 96 #[.int .i64 a, .int .i64 b] w fun e w' => e = .returned (.int .i64 (cmpI a b)) ∧ w' = w := by
 have HA := lH (nan_i a w)
 have HB := lH (nan_i b w)
 unfold cmpI
 by_cases h1 : a < b
 ·rw [if_pos h1]
  go_enter Tryz.func96, Tryz.ntmps96
  go_wp2_with fail
  refine cZm HA.out ?_
  rintro e w' ⟨rfl, rfl⟩
  go_wp2_with fail
  refine cZm HB.out ?_
  rintro e w' ⟨rfl, rfl⟩
  go_wp2
  go_ret
  exact ⟨rfl, rfl⟩
 ·by_cases h2 : b < a
  ·rw [if_neg h1, if_pos h2]
   go_enter Tryz.func96, Tryz.ntmps96
   go_wp2_with fail
   refine cZm HA.out ?_
   rintro e w' ⟨rfl, rfl⟩
   go_wp2_with fail
   refine cZm HB.out ?_
   rintro e w' ⟨rfl, rfl⟩
   go_wp2
   go_ret
   exact ⟨rfl, rfl⟩
  ·rw [if_neg h1, if_neg h2]
   go_enter Tryz.func96, Tryz.ntmps96
   go_wp2_with fail
   refine cZm HA.out ?_
   rintro e w' ⟨rfl, rfl⟩
   go_wp2_with fail
   refine cZm HB.out ?_
   rintro e w' ⟨rfl, rfl⟩
   go_wp2
   go_ret
   exact ⟨rfl, rfl⟩
theorem cmp_u (a b : Int) (w : World) : Calls Tryz.prog 163 #[.int .u64 a, .int .u64 b] w fun e w' => e = .returned (.int .i64 (cmpI a b)) ∧ w' = w := by
 have HA := lH (nan_u a w)
 have HB := lH (nan_u b w)
 unfold cmpI
 by_cases h1 : a < b
 ·rw [if_pos h1]
  go_enter Tryz.func163, Tryz.ntmps163
  go_wp2_with fail
  refine cZm HA.out ?_
  rintro e w' ⟨rfl, rfl⟩
  go_wp2_with fail
  refine cZm HB.out ?_
  rintro e w' ⟨rfl, rfl⟩
  go_wp2
  go_ret
  exact ⟨rfl, rfl⟩
 ·by_cases h2 : b < a
  ·rw [if_neg h1, if_pos h2]
   go_enter Tryz.func163, Tryz.ntmps163
   go_wp2_with fail
   refine cZm HA.out ?_
   rintro e w' ⟨rfl, rfl⟩
   go_wp2_with fail
   refine cZm HB.out ?_
   rintro e w' ⟨rfl, rfl⟩
   go_wp2
   go_ret
   exact ⟨rfl, rfl⟩
  ·rw [if_neg h1, if_neg h2]
   go_enter Tryz.func163, Tryz.ntmps163
   go_wp2_with fail
   refine cZm HA.out ?_
   rintro e w' ⟨rfl, rfl⟩
   go_wp2_with fail
   refine cZm HB.out ?_
   rintro e w' ⟨rfl, rfl⟩
   go_wp2
   go_ret
   exact ⟨rfl, rfl⟩
theorem cmpB_any (a b : Bool) (w : World) : Calls Tryz.prog 162 #[.bool a, .bool b] w fun e w' => e = .returned (.int .i64 (cmpI (bI a) (bI b))) ∧ w' = w := by
 cases a <;> cases b
 all_goals
  go_enter Tryz.func162, Tryz.ntmps162
  go_wp2
  go_ret
  exact ⟨rfl, rfl⟩
def orI (l : List Int) : Int := (l.find? fun x => decide (x ≠ 0)).getD 0
theorem orI_cons (x : Int) (l : List Int) : orI (x :: l) = if x = 0 then orI l else x := by
 unfold orI
 by_cases h : x = 0
 ·rw [if_pos h, List.find?_cons_of_neg (by simpa using h)]
 ·rw [if_neg h, List.find?_cons_of_pos (by simpa using h)]; rfl
theorem or_key {a b : List Int} (h : a.length = b.length) : orI (a.zipWith cmpI b) < 0 ↔ lexP a b := by
 induction a generalizing b with
 | nil => simp [orI, lexP]
 | cons x r ih =>
  cases b with
  | nil => simp at h
  | cons y s =>
   rw [List.zipWith_cons_cons, orI_cons]
   simp only [lexP]
   rw [← ih (by simpa using h)]
   unfold cmpI
   by_cases h1 : x < y
   ·rw [if_pos h1, if_neg (by decide)]
    simp [h1]
   ·by_cases h2 : y < x
    ·rw [if_neg h1, if_pos h2, if_neg (by decide)]
     simp; omega
    ·rw [if_neg h1, if_neg h2, if_pos rfl]
     have : x = y := by omega
     simp [this]
theorem or_any (g n c : Nat) (l : List Int) (hl : l.length = n) (hn : n ≤ 1000) (w : World) (hB : ∀ j x, l[j]? = some x → w.cell? ⟨g, j, none⟩ = some (.int .i64 x)) :
  Calls Tryz.prog 160 #[.slice (some ⟨g, 0, none⟩) n c] w fun e w' => e = .returned (.int .i64 (orI l)) ∧ w' = w := by
 have HL := lH hl
 have HB := lH hB
 clear hl hB
 go_enter Tryz.func160, Tryz.ntmps160
 go_wp2
 go_loopw [5, 8] (fun _ kv wr => ∃ k : Nat, kv = .int .i64 (k : Int) ∧ k ≤ n ∧ Hid (orI l = orI (l.drop k)) ∧ wr = w) (fun _ kv _ => n - (intOf kv).toNat)
 case atStart => exact ⟨0, rfl, Nat.zero_le _, lH (by simp), rfl⟩
 case round =>
  obtain ⟨k, rfl, hk, hA, rfl⟩ := hrel
  have k1 : IntKind.i64.wrap ((k : Int) + 1) = (k : Int) + 1 := by rw [IntKind.wrap_i64]; omega
  by_cases hkn : k < n
  ·have kI : (k : Int) < (n : Int) := by omega
   have k0 : (0 : Int) ≤ (k : Int) := by omega
   obtain ⟨x, hx⟩ : ∃ x, l[k]? = some x := ⟨_, List.getElem?_eq_getElem (by rw [HL.out]; exact hkn)⟩
   have x0 := HB.out k x hx
   have HD : Hid (orI l = if x = 0 then orI (l.drop (k + 1)) else x) := lH (by
    rw [hA.out, ← orI_cons]
    congr 1
    have := (List.getElem?_eq_some_iff.1 hx)
    obtain ⟨h1, h2⟩ := this
    rw [List.drop_eq_getElem_cons h1, h2])
   clear hx
   by_cases h0 : x = 0
   ·subst h0
    have HD2 : Hid (orI l = orI (l.drop (k + 1))) := lH (by rw [HD.out]; simp)
    go_wp2
    go_roundw
    case rel => exact ⟨k + 1, by go_num, hkn, HD2, by trivial⟩
    case measure => simp [intOf]; omega
   ·have b0 : (x != 0) = true := by simpa using h0
    have HD2 : Hid (orI l = x) := lH (by rw [HD.out, if_neg h0])
    clear h0
    go_wp2
    go_ret
    exact ⟨by rw [HD2.out]; rfl, rfl⟩
  ·obtain rfl : k = n := by omega
   have kI : ¬ (k : Int) < (k : Int) := by omega
   have HD2 : Hid (orI l = 0) := lH (by rw [hA.out, List.drop_of_length_le (by rw [HL.out]; exact Nat.le_refl _)]; rfl)
   clear hkn hk
   go_wp2
   go_ret
   exact ⟨by rw [HD2.out]; rfl, rfl⟩
end Go.Proofs.YtgfkmgbcajdcdaaGreatDoor

namespace Go.Proofs.YtgfkmgbcajdcdaaGreatDoor
open Go.RowKit

theorem Blk.p7 {w : World} {g : Nat} {t : TypeId} {a b c d e f i : Value} (h : Blk w g t #[a, b, c, d, e, f, i]) : w.cell? ⟨g, 0, none⟩ = some a ∧ w.cell? ⟨g, 1, none⟩ = some b ∧ w.cell? ⟨g, 2, none⟩ = some c ∧ w.cell? ⟨g, 3, none⟩ = some d ∧ w.cell? ⟨g, 4, none⟩ = some e ∧ w.cell? ⟨g, 5, none⟩ = some f ∧ w.cell? ⟨g, 6, none⟩ = some i :=
 ⟨by rw [h.cell]; rfl, by rw [h.cell]; rfl, by rw [h.cell]; rfl, by rw [h.cell]; rfl, by rw [h.cell]; rfl, by rw [h.cell]; rfl, by rw [h.cell]; rfl⟩
theorem bet_or (x y : PaI) : decide (orI ((keyX x).zipWith cmpI (keyX y)) < 0) = betI x y := by
 rw [Bool.eq_iff_iff, decide_eq_true_eq, betI_key, or_key (a := keyX x) (b := keyX y) rfl]
theorem better_m (x y : PaI) (w : World) (hE : EnvR w) : Calls Tryz.prog 124 #[paR x, paR y] w fun e w' => e = .returned (.bool (betI x y)) ∧ Tch w w' [] := by
 have HB := lH (bet_or x y)
 obtain ⟨R, hR⟩ : ∃ R, betI x y = R := ⟨_, rfl⟩
 rw [hR] at HB ⊢
 clear hR
 obtain ⟨pr, me, ⟨vs, vh, vl⟩, po, aw⟩ := x
 obtain ⟨qr, ne, ⟨us, uh, ul⟩, qo, bw⟩ := y
 obtain ⟨a0, ha0⟩ : ∃ a, cmpI (distI pr) (distI qr) = a := ⟨_, rfl⟩
 obtain ⟨a1, ha1⟩ : ∃ a, cmpI me ne = a := ⟨_, rfl⟩
 obtain ⟨a2, ha2⟩ : ∃ a, cmpI po qo = a := ⟨_, rfl⟩
 obtain ⟨a3, ha3⟩ : ∃ a, cmpI (bI vs) (bI us) = a := ⟨_, rfl⟩
 obtain ⟨a4, ha4⟩ : ∃ a, cmpI (vh : Int) (uh : Int) = a := ⟨_, rfl⟩
 obtain ⟨a5, ha5⟩ : ∃ a, cmpI (vl : Int) (ul : Int) = a := ⟨_, rfl⟩
 obtain ⟨a6, ha6⟩ : ∃ a, cmpI (bI aw) (bI bw) = a := ⟨_, rfl⟩
 have HB : Hid (decide (orI [a0, a1, a2, a3, a4, a5, a6] < 0) = R) := lH (by rw [← HB.out, ← ha0, ← ha1, ← ha2, ← ha3, ← ha4, ← ha5, ← ha6]; rfl)
 obtain ⟨d0, hd0⟩ : ∃ d, distI pr = d := ⟨_, rfl⟩
 obtain ⟨d1, hd1⟩ : ∃ d, distI qr = d := ⟨_, rfl⟩
 rw [hd0, hd1] at ha0
 obtain ⟨xb, hxb⟩ : ∃ xb, w.heap.size = xb := ⟨_, rfl⟩
 obtain ⟨W0, hW0⟩ : ∃ W, (w.alloc (.cells #[.int .i64 pr, .int .i64 me, .bool vs, .int .u64 (vh : Int), .int .u64 (vl : Int), .int .i64 po, .bool aw] 197)).alloc (.cells #[.int .i64 qr, .int .i64 ne, .bool us, .int .u64 (uh : Int), .int .u64 (ul : Int), .int .i64 qo, .bool bw] 49) = W := ⟨_, rfl⟩
 have hX : Blk W0 xb 197 #[.int .i64 pr, .int .i64 me, .bool vs, .int .u64 (vh : Int), .int .u64 (vl : Int), .int .i64 po, .bool aw] := hW0 ▸ hxb ▸ (Blk.new _ _ _).alloc _
 have hY : Blk W0 (xb + 1) 49 #[.int .i64 qr, .int .i64 ne, .bool us, .int .u64 (uh : Int), .int .u64 (ul : Int), .int .i64 qo, .bool bw] := by
  rw [← hW0, ← hxb, show w.heap.size + 1 = (w.alloc (.cells #[.int .i64 pr, .int .i64 me, .bool vs, .int .u64 (vh : Int), .int .u64 (vl : Int), .int .i64 po, .bool aw] 197)).heap.size by simp]
  exact Blk.new _ _ _
 have hT0 : Tch w W0 [] := hW0 ▸ ((Tch.refl w []).alloc _).alloc _
 have hE0 : EnvR W0 := hE.tch0 hT0
 have HT0 := lH hT0
 obtain ⟨W1, hW1⟩ : ∃ W1, W0.drew = W1 := ⟨_, rfl⟩
 have hX1 : Blk W1 xb _ _ := hW1 ▸ hX.drew
 have hY1 : Blk W1 (xb + 1) _ _ := hW1 ▸ hY.drew
 have HE1 : Hid (EnvR W1) := lH (hW1 ▸ hE0.tch0 (Tch.refl W0 []).drew)
 have HT1 : Hid (Tch w W1 []) := lH (hW1 ▸ hT0.drew)
 have HW1 := lH hW1
 have x0 := (hX1.cell 0).trans (show _ = some (Value.int .i64 pr) by rfl)
 have x1 := (hX1.cell 1).trans (show _ = some (Value.int .i64 me) by rfl)
 have x2 := (hX1.cell 2).trans (show _ = some (Value.bool vs) by rfl)
 have x3 := (hX1.cell 3).trans (show _ = some (Value.int .u64 (vh : Int)) by rfl)
 have x4 := (hX1.cell 4).trans (show _ = some (Value.int .u64 (vl : Int)) by rfl)
 have x5 := (hX1.cell 5).trans (show _ = some (Value.int .i64 po) by rfl)
 have x6 := (hX1.cell 6).trans (show _ = some (Value.bool aw) by rfl)
 have y0 := (hY1.cell 0).trans (show _ = some (Value.int .i64 qr) by rfl)
 have y1 := (hY1.cell 1).trans (show _ = some (Value.int .i64 ne) by rfl)
 have y2 := (hY1.cell 2).trans (show _ = some (Value.bool us) by rfl)
 have y3 := (hY1.cell 3).trans (show _ = some (Value.int .u64 (uh : Int)) by rfl)
 have y4 := (hY1.cell 4).trans (show _ = some (Value.int .u64 (ul : Int)) by rfl)
 have y5 := (hY1.cell 5).trans (show _ = some (Value.int .i64 qo) by rfl)
 have y6 := (hY1.cell 6).trans (show _ = some (Value.bool bw) by rfl)
 have C0 := lH (pdist_any pr W1 HE1.out)
 have C1 := lH (pdist_any qr W1 HE1.out)
 have C2 := lH (cmp_i d0 d1 W1)
 have C3 := lH (cmp_i me ne W1)
 have C4 := lH (cmp_i po qo W1)
 have C5 := lH (cmpB_any vs us W1)
 have C6 := lH (cmp_u vh uh W1)
 have C7 := lH (cmp_u vl ul W1)
 have C8 := lH (cmpB_any aw bw W1)
 rw [hd0] at C0
 rw [hd1] at C1
 rw [ha0] at C2
 rw [ha1] at C3
 rw [ha2] at C4
 rw [ha3] at C5
 rw [ha4] at C6
 rw [ha5] at C7
 rw [ha6] at C8
 have HOr : Hid (Calls Tryz.prog 160 #[.slice (some ⟨W1.heap.size, 0, none⟩) 7 7] (W1.alloc (.cells #[.int .i64 a0, .int .i64 a1, .int .i64 a2, .int .i64 a3, .int .i64 a4, .int .i64 a5, .int .i64 a6] 3)) fun e w' => e = .returned (.int .i64 (orI [a0, a1, a2, a3, a4, a5, a6])) ∧ w' = W1.alloc (.cells #[.int .i64 a0, .int .i64 a1, .int .i64 a2, .int .i64 a3, .int .i64 a4, .int .i64 a5, .int .i64 a6] 3)) := lH (or_any _ 7 7 _ rfl (by decide) _ (fun j x hj => by
  rw [(Blk.new W1 3 #[.int .i64 a0, .int .i64 a1, .int .i64 a2, .int .i64 a3, .int .i64 a4, .int .i64 a5, .int .i64 a6]).cell]
  have : j < 7 := (List.getElem?_eq_some_iff.1 hj).1
  rcases (show j = 0 ∨ j = 1 ∨ j = 2 ∨ j = 3 ∨ j = 4 ∨ j = 5 ∨ j = 6 by omega) with rfl | rfl | rfl | rfl | rfl | rfl | rfl <;> (injection hj with hj; subst hj; rfl)))
 obtain ⟨o, ho⟩ : ∃ o, orI [a0, a1, a2, a3, a4, a5, a6] = o := ⟨_, rfl⟩
 rw [ho] at HOr HB
 have HFin : Hid (∀ ob, Tch w (W1.alloc ob) []) := lH (fun ob => HT1.out.alloc ob)
 have hB := HB.out
 clear ha0 ha1 ha2 ha3 ha4 ha5 ha6 hd0 hd1 hX hY hT0 hE0 hE hX1 hY1 ho HE1 HT0 HB hW1
 go_enter Tryz.func124, Tryz.ntmps124
 go_wp2_with fail
 refine wp_region_still_tail 43 (by kernel_rfl) (by kernel_rfl) ?_
 rw [show ({ W0 with drawn := W0.drawn + 1 } : World) = W1 from HW1.out]
 simp only [List.take_succ_cons, List.take_zero, List.drop_succ_cons, List.drop_zero]
 repeat still_step
 still_call C0.out
 repeat still_step
 still_call C1.out
 repeat still_step
 still_call C2.out
 repeat still_step
 still_call C3.out
 repeat still_step
 still_call C4.out
 repeat still_step
 still_call C5.out
 repeat still_step
 still_call C6.out
 repeat still_step
 still_call C7.out
 repeat still_step
 still_call C8.out
 refine wpStill_nil ?_
 go_wp2_with fail
 refine cZm HOr.out ?_
 rintro e w' ⟨rfl, rfl⟩
 subst hB
 go_wp2
 go_ret
 exact ⟨rfl, HFin.out _⟩
end Go.Proofs.YtgfkmgbcajdcdaaGreatDoor

namespace Go.Proofs.YtgfkmgbcajdcdaaGreatDoor
open Go.RowKit

theorem same_m (x y : PaI) (w : World) : Calls Tryz.prog 123 #[paR x, paR y] w fun e w' => e = .returned (.bool (sameW x y)) ∧ Tch w w' [] := by
 obtain ⟨R, hR⟩ : ∃ R, sameW x y = R := ⟨_, rfl⟩
 rw [hR]
 unfold sameW at hR
 obtain ⟨b1, hb1⟩ : ∃ b, decide (x.1 = y.1) = b := ⟨_, rfl⟩
 obtain ⟨b2, hb2⟩ : ∃ b, decide (x.2.2.1 = y.2.2.1) = b := ⟨_, rfl⟩
 obtain ⟨b3, hb3⟩ : ∃ b, decide (x.2.2.2.1 = y.2.2.2.1) = b := ⟨_, rfl⟩
 obtain ⟨b4, hb4⟩ : ∃ b, decide (x.2.2.2.2 = y.2.2.2.2) = b := ⟨_, rfl⟩
 rw [hb1, hb2, hb3, hb4] at hR
 have HQ := eqA_eql 28 _ _ (eq_adR x.2.2.1 y.2.2.1 hb2)
 obtain ⟨pr, me, ⟨vs, vh, vl⟩, po, aw⟩ := x
 obtain ⟨qr, ne, ⟨us, uh, ul⟩, qo, bw⟩ := y
 have e1 : (pr == qr) = b1 := (beq_int _ _).trans hb1
 have e3 : (po == qo) = b3 := (beq_int _ _).trans hb3
 have e4 : (aw == bw) = b4 := (beq_bool _ _).trans hb4
 have HQ : ∀ W, (binOp .eql 28 (.agg #[.bool vs, .int .u64 (vh : Int), .int .u64 (vl : Int)]) (.agg #[.bool us, .int .u64 (uh : Int), .int .u64 (ul : Int)])).run Tryz.prog W = .ok (.bool b2) W := HQ
 obtain ⟨xb, hxb⟩ : ∃ xb, w.heap.size = xb := ⟨_, rfl⟩
 obtain ⟨W0, hW0⟩ : ∃ W, (w.alloc (.cells #[.int .i64 pr, .int .i64 me, .bool vs, .int .u64 (vh : Int), .int .u64 (vl : Int), .int .i64 po, .bool aw] 197)).alloc (.cells #[.int .i64 qr, .int .i64 ne, .bool us, .int .u64 (uh : Int), .int .u64 (ul : Int), .int .i64 qo, .bool bw] 49) = W := ⟨_, rfl⟩
 have hX : Blk W0 xb 197 #[.int .i64 pr, .int .i64 me, .bool vs, .int .u64 (vh : Int), .int .u64 (vl : Int), .int .i64 po, .bool aw] := hW0 ▸ hxb ▸ (Blk.new _ _ _).alloc _
 have hY : Blk W0 (xb + 1) 49 #[.int .i64 qr, .int .i64 ne, .bool us, .int .u64 (uh : Int), .int .u64 (ul : Int), .int .i64 qo, .bool bw] := by
  rw [← hW0, ← hxb, show w.heap.size + 1 = (w.alloc (.cells #[.int .i64 pr, .int .i64 me, .bool vs, .int .u64 (vh : Int), .int .u64 (vl : Int), .int .i64 po, .bool aw] 197)).heap.size by simp]
  exact Blk.new _ _ _
 have HT0 : Hid (Tch w W0 []) := lH (hW0 ▸ ((Tch.refl w []).alloc _).alloc _)
 obtain ⟨x0, x1, x2, x3, x4, x5, x6⟩ := hX.p7
 obtain ⟨y0, y1, y2, y3, y4, y5, y6⟩ := hY.p7
 have HR := lH hR
 clear hX hY hb1 hb2 hb3 hb4 hR
 cases b1 <;> cases b2 <;> cases b3 <;> cases b4
 all_goals
  rw [← HR.out]
  clear HR
  go_enter Tryz.func123, Tryz.ntmps123
  go_wp2
  go_ret
  exact ⟨rfl, HT0.out⟩
theorem flush1_any (pr0 : Int) (xb : Nat) (x : PaI) (w : World) (hB : w.cell? ⟨xb, 0, none⟩ = some (.int .i64 pr0)) :
  Calls Tryz.prog 168 #[paR x, .pointer (some ⟨xb, 0, none⟩)] w fun e w' => e = .returned (.bool (decide (x.1 = pr0))) ∧ Tch w w' [] := by
 obtain ⟨b, hb⟩ : ∃ b, decide (x.1 = pr0) = b := ⟨_, rfl⟩
 rw [hb]
 obtain ⟨pr, me, ⟨vs, vh, vl⟩, po, aw⟩ := x
 have e1 : (pr == pr0) = b := (beq_int _ _).trans hb
 have HT0 : Hid (Tch w (w.alloc (.cells #[.int .i64 pr, .int .i64 me, .bool vs, .int .u64 (vh : Int), .int .u64 (vl : Int), .int .i64 po, .bool aw] 49)) []) := lH ((Tch.refl w []).alloc _)
 have x0 := (HT0.out.cell (p := ⟨xb, 0, none⟩) (World.block_lt_of_cell? w _ hB) (by simp)).trans hB
 clear hB hb
 go_enter Tryz.func168, Tryz.ntmps168
 go_wp2
 go_ret
 exact ⟨rfl, HT0.out⟩
theorem idx_same (x : PaI) (A : Option Addr) (n c : Nat) (l : List PaI) (hl : l.length = n) (hn : n ≤ 1000) (w : World) (h : w.ownsRow 0 49 7 (.slice A n c) n (l.flatMap paC)) :
  Calls Tryz.prog 122 #[.slice A n c, .func (.func 123) #[paR x] #[]] w fun e w' => e = .returned (.int .i64 (((fndI (fun y => sameW x y) l : Nat) : Int) - 1)) ∧ Tch w w' [] := by
 have eg : ∀ args W, (callFunc 123 args).run Tryz.prog W = .ok (.enter 123 args) W := enters_of Tryz.func123 (by kernel_rfl) rfl
 have HL := lH hl
 have HF := lH (fun (y : PaI) W (hT : Tch w W []) => same_m x y W)
 have HO := lH h
 obtain ⟨PP, hPP⟩ : ∃ P : PaI → Bool, (fun y => sameW x y) = P := ⟨_, rfl⟩
 have HPP : Hid (∀ y, (fun y => sameW x y) y = PP y) := lH (fun y => by rw [hPP])
 rw [hPP]
 clear h hl hPP
 go_enter Tryz.func122, Tryz.ntmps122
 go_wp2
 go_loopw [5, 8] (fun _ kv wr => ∃ k : Nat, kv = .int .i64 (k : Int) ∧ k ≤ n ∧ Hid (∀ (j : Nat) (y : PaI), j < k → l[j]? = some y → PP y = false) ∧ Hid (Tch w wr [])) (fun _ kv _ => n - (intOf kv).toNat)
 case atStart => exact ⟨0, rfl, Nat.zero_le _, lH (fun j y hj => absurd hj (by omega)), lH (Tch.refl _ _)⟩
 case round =>
  obtain ⟨k, rfl, hk, hA, hT⟩ := hrel
  have k1 : IntKind.i64.wrap ((k : Int) + 1) = (k : Int) + 1 := by rw [IntKind.wrap_i64]; omega
  by_cases hkn : k < n
  ·have kI : (k : Int) < (n : Int) := by omega
   have k0 : (0 : Int) ≤ (k : Int) := by omega
   obtain ⟨y, hy⟩ : ∃ y, l[k]? = some y := ⟨_, List.getElem?_eq_getElem (by rw [HL.out]; exact hkn)⟩
   have d3 := own_tch HO.out hT.out (by simp)
   obtain ⟨gx, rfl⟩ := slice_some d3 (by omega)
   obtain ⟨y0, y1, y2, y3, y4, y5, y6⟩ := pa_cells d3 hy
   have HC := lH (HF.out y wr hT.out)
   have Hy := lH hy
   obtain ⟨b, hb⟩ : ∃ b, PP y = b := ⟨_, rfl⟩
   have HC : Hid (Calls Tryz.prog 123 _ wr fun e w' => e = .returned (.bool b) ∧ Tch wr w' []) := lH (by rw [← hb, ← HPP.out y]; exact HC.out)
   have HBb := lH hb
   clear d3 hy hb
   cases b with
   | true =>
    have HR : Hid (fndI PP l = k + 1) := lH (fndI_succ.2 ⟨⟨y, Hy.out, HBb.out⟩, hA.out⟩)
    go_wp2_with (go_at_fn 123; refine cZm HC.out ?_; rintro e w' ⟨rfl, hT'⟩; have HT' := lH hT'; clear hT')
    go_ret
    exact ⟨by rw [HR.out]; simp, hT.out.trans HT'.out⟩
   | false =>
    go_wp2_with (go_at_fn 123; refine cZm HC.out ?_; rintro e w' ⟨rfl, hT'⟩; have HT' := lH hT'; clear hT')
    go_roundw
    case rel => exact ⟨k + 1, by go_num, hkn, lH (fun j z hj hz => by
     rcases Nat.lt_or_ge j k with h1 | h1
     ·exact hA.out j z h1 hz
     ·obtain rfl : j = k := by omega
      rw [Hy.out] at hz
      injection hz with hz
      subst hz
      exact HBb.out), lH (hT.out.trans HT'.out)⟩
    case measure => simp [intOf]; omega
  ·obtain rfl : k = n := by omega
   have kI : ¬ (k : Int) < (k : Int) := by omega
   have HR : Hid (fndI PP l = 0) := lH (fndI_zero.2 fun j y hy => hA.out j y (by rw [← HL.out]; exact (List.getElem?_eq_some_iff.1 hy).1) hy)
   clear hkn hk
   go_wp2
   go_ret
   exact ⟨by rw [HR.out]; rfl, hT.out⟩
theorem idx_bet (x : PaI) (A : Option Addr) (n c : Nat) (l : List PaI) (hl : l.length = n) (hn : n ≤ 1000) (w : World) (h : w.ownsRow 0 49 7 (.slice A n c) n (l.flatMap paC)) (hE : EnvR w) :
  Calls Tryz.prog 122 #[.slice A n c, .func (.func 124) #[paR x] #[]] w fun e w' => e = .returned (.int .i64 (((fndI (fun y => betI x y) l : Nat) : Int) - 1)) ∧ Tch w w' [] := by
 have eg : ∀ args W, (callFunc 124 args).run Tryz.prog W = .ok (.enter 124 args) W := enters_of Tryz.func124 (by kernel_rfl) rfl
 have HL := lH hl
 have HF := lH (fun (y : PaI) W (hT : Tch w W []) => better_m x y W (hE.tch0 hT))
 have HO := lH h
 obtain ⟨PP, hPP⟩ : ∃ P : PaI → Bool, (fun y => betI x y) = P := ⟨_, rfl⟩
 have HPP : Hid (∀ y, (fun y => betI x y) y = PP y) := lH (fun y => by rw [hPP])
 rw [hPP]
 clear h hl hPP hE
 go_enter Tryz.func122, Tryz.ntmps122
 go_wp2
 go_loopw [5, 8] (fun _ kv wr => ∃ k : Nat, kv = .int .i64 (k : Int) ∧ k ≤ n ∧ Hid (∀ (j : Nat) (y : PaI), j < k → l[j]? = some y → PP y = false) ∧ Hid (Tch w wr [])) (fun _ kv _ => n - (intOf kv).toNat)
 case atStart => exact ⟨0, rfl, Nat.zero_le _, lH (fun j y hj => absurd hj (by omega)), lH (Tch.refl _ _)⟩
 case round =>
  obtain ⟨k, rfl, hk, hA, hT⟩ := hrel
  have k1 : IntKind.i64.wrap ((k : Int) + 1) = (k : Int) + 1 := by rw [IntKind.wrap_i64]; omega
  by_cases hkn : k < n
  ·have kI : (k : Int) < (n : Int) := by omega
   have k0 : (0 : Int) ≤ (k : Int) := by omega
   obtain ⟨y, hy⟩ : ∃ y, l[k]? = some y := ⟨_, List.getElem?_eq_getElem (by rw [HL.out]; exact hkn)⟩
   have d3 := own_tch HO.out hT.out (by simp)
   obtain ⟨gx, rfl⟩ := slice_some d3 (by omega)
   obtain ⟨y0, y1, y2, y3, y4, y5, y6⟩ := pa_cells d3 hy
   have HC := lH (HF.out y wr hT.out)
   have Hy := lH hy
   obtain ⟨b, hb⟩ : ∃ b, PP y = b := ⟨_, rfl⟩
   have HC : Hid (Calls Tryz.prog 124 _ wr fun e w' => e = .returned (.bool b) ∧ Tch wr w' []) := lH (by rw [← hb, ← HPP.out y]; exact HC.out)
   have HBb := lH hb
   clear d3 hy hb
   cases b with
   | true =>
    have HR : Hid (fndI PP l = k + 1) := lH (fndI_succ.2 ⟨⟨y, Hy.out, HBb.out⟩, hA.out⟩)
    go_wp2_with (go_at_fn 124; refine cZm HC.out ?_; rintro e w' ⟨rfl, hT'⟩; have HT' := lH hT'; clear hT')
    go_ret
    exact ⟨by rw [HR.out]; simp, hT.out.trans HT'.out⟩
   | false =>
    go_wp2_with (go_at_fn 124; refine cZm HC.out ?_; rintro e w' ⟨rfl, hT'⟩; have HT' := lH hT'; clear hT')
    go_roundw
    case rel => exact ⟨k + 1, by go_num, hkn, lH (fun j z hj hz => by
     rcases Nat.lt_or_ge j k with h1 | h1
     ·exact hA.out j z h1 hz
     ·obtain rfl : j = k := by omega
      rw [Hy.out] at hz
      injection hz with hz
      subst hz
      exact HBb.out), lH (hT.out.trans HT'.out)⟩
    case measure => simp [intOf]; omega
  ·obtain rfl : k = n := by omega
   have kI : ¬ (k : Int) < (k : Int) := by omega
   have HR : Hid (fndI PP l = 0) := lH (fndI_zero.2 fun j y hy => hA.out j y (by rw [← HL.out]; exact (List.getElem?_eq_some_iff.1 hy).1) hy)
   clear hkn hk
   go_wp2
   go_ret
   exact ⟨by rw [HR.out]; rfl, hT.out⟩
theorem idx_pro (pr0 : Int) (xb : Nat) (A : Option Addr) (n c : Nat) (l : List PaI) (hl : l.length = n) (hn : n ≤ 1000) (w : World) (h : w.ownsRow 0 49 7 (.slice A n c) n (l.flatMap paC)) (hB : w.cell? ⟨xb, 0, none⟩ = some (.int .i64 pr0)) :
  Calls Tryz.prog 122 #[.slice A n c, .func (.func 168) #[] #[.pointer (some ⟨xb, 0, none⟩)]] w fun e w' => e = .returned (.int .i64 (((fndI (fun y => decide (y.1 = pr0)) l : Nat) : Int) - 1)) ∧ Tch w w' [] := by
 have eg : ∀ args W, (callFunc 168 args).run Tryz.prog W = .ok (.enter 168 args) W := enters_of Tryz.func168 (by kernel_rfl) rfl
 have HL := lH hl
 have HF := lH (fun (y : PaI) W (hT : Tch w W []) => flush1_any pr0 xb y W ((hT.cell (p := ⟨xb, 0, none⟩) (World.block_lt_of_cell? w _ hB) (by simp)).trans hB))
 have HO := lH h
 obtain ⟨PP, hPP⟩ : ∃ P : PaI → Bool, (fun y => decide (y.1 = pr0)) = P := ⟨_, rfl⟩
 have HPP : Hid (∀ y, (fun y => decide (y.1 = pr0)) y = PP y) := lH (fun y => by rw [hPP])
 rw [hPP]
 clear h hl hPP hB
 go_enter Tryz.func122, Tryz.ntmps122
 go_wp2
 go_loopw [5, 8] (fun _ kv wr => ∃ k : Nat, kv = .int .i64 (k : Int) ∧ k ≤ n ∧ Hid (∀ (j : Nat) (y : PaI), j < k → l[j]? = some y → PP y = false) ∧ Hid (Tch w wr [])) (fun _ kv _ => n - (intOf kv).toNat)
 case atStart => exact ⟨0, rfl, Nat.zero_le _, lH (fun j y hj => absurd hj (by omega)), lH (Tch.refl _ _)⟩
 case round =>
  obtain ⟨k, rfl, hk, hA, hT⟩ := hrel
  have k1 : IntKind.i64.wrap ((k : Int) + 1) = (k : Int) + 1 := by rw [IntKind.wrap_i64]; omega
  by_cases hkn : k < n
  ·have kI : (k : Int) < (n : Int) := by omega
   have k0 : (0 : Int) ≤ (k : Int) := by omega
   obtain ⟨y, hy⟩ : ∃ y, l[k]? = some y := ⟨_, List.getElem?_eq_getElem (by rw [HL.out]; exact hkn)⟩
   have d3 := own_tch HO.out hT.out (by simp)
   obtain ⟨gx, rfl⟩ := slice_some d3 (by omega)
   obtain ⟨y0, y1, y2, y3, y4, y5, y6⟩ := pa_cells d3 hy
   have HC := lH (HF.out y wr hT.out)
   have Hy := lH hy
   obtain ⟨b, hb⟩ : ∃ b, PP y = b := ⟨_, rfl⟩
   have HC : Hid (Calls Tryz.prog 168 _ wr fun e w' => e = .returned (.bool b) ∧ Tch wr w' []) := lH (by rw [← hb, ← HPP.out y]; exact HC.out)
   have HBb := lH hb
   clear d3 hy hb
   cases b with
   | true =>
    have HR : Hid (fndI PP l = k + 1) := lH (fndI_succ.2 ⟨⟨y, Hy.out, HBb.out⟩, hA.out⟩)
    go_wp2_with (go_at_fn 168; refine cZm HC.out ?_; rintro e w' ⟨rfl, hT'⟩; have HT' := lH hT'; clear hT')
    go_ret
    exact ⟨by rw [HR.out]; simp, hT.out.trans HT'.out⟩
   | false =>
    go_wp2_with (go_at_fn 168; refine cZm HC.out ?_; rintro e w' ⟨rfl, hT'⟩; have HT' := lH hT'; clear hT')
    go_roundw
    case rel => exact ⟨k + 1, by go_num, hkn, lH (fun j z hj hz => by
     rcases Nat.lt_or_ge j k with h1 | h1
     ·exact hA.out j z h1 hz
     ·obtain rfl : j = k := by omega
      rw [Hy.out] at hz
      injection hz with hz
      subst hz
      exact HBb.out), lH (hT.out.trans HT'.out)⟩
    case measure => simp [intOf]; omega
  ·obtain rfl : k = n := by omega
   have kI : ¬ (k : Int) < (k : Int) := by omega
   have HR : Hid (fndI PP l = 0) := lH (fndI_zero.2 fun j y hy => hA.out j y (by rw [← HL.out]; exact (List.getElem?_eq_some_iff.1 hy).1) hy)
   clear hkn hk
   go_wp2
   go_ret
   exact ⟨by rw [HR.out]; rfl, hT.out⟩
theorem find_any (x : PaI) (A : Option Addr) (n c : Nat) (l : List PaI) (hl : l.length = n) (hn : n ≤ 1000) (w : World) (h : w.ownsRow 0 49 7 (.slice A n c) n (l.flatMap paC)) :
  Calls Tryz.prog 81 #[.slice A n c, paR x] w fun e w' => e = .returned (.int .i64 (((fndI (fun y => sameW x y) l : Nat) : Int) - 1)) ∧ Tch w w' [] := by
 obtain ⟨r, hr⟩ : ∃ r, ((fndI (fun y => sameW x y) l : Nat) : Int) - 1 = r := ⟨_, rfl⟩
 have HI := lH (fun W (hT : Tch w W []) => idx_same x A n c l hl hn W (own_tch h hT (by simp)))
 rw [hr] at HI ⊢
 clear hr h hl hn
 obtain ⟨pr, me, ⟨vs, vh, vl⟩, po, aw⟩ := x
 obtain ⟨W0, hW0⟩ : ∃ W, w.alloc (.cells #[.int .i64 pr, .int .i64 me, .bool vs, .int .u64 (vh : Int), .int .u64 (vl : Int), .int .i64 po, .bool aw] 49) = W := ⟨_, rfl⟩
 obtain ⟨xb, hxb⟩ : ∃ xb, w.heap.size = xb := ⟨_, rfl⟩
 have hX : Blk W0 xb 49 #[.int .i64 pr, .int .i64 me, .bool vs, .int .u64 (vh : Int), .int .u64 (vl : Int), .int .i64 po, .bool aw] := hW0 ▸ hxb ▸ Blk.new _ _ _
 have hT0 : Tch w W0 [] := hW0 ▸ (Tch.refl w []).alloc _
 have HC := lH (HI.out W0 hT0)
 have HT0 := lH hT0
 obtain ⟨x0, x1, x2, x3, x4, x5, x6⟩ := hX.p7
 clear hX hT0 HI
 go_enter Tryz.func81, Tryz.ntmps81
 go_wp2_with (go_at_call 122; refine cZm HC.out ?_; rintro e w' ⟨rfl, hT⟩; have HT' := lH hT; clear hT)
 go_ret
 exact ⟨rfl, HT0.out.trans HT'.out⟩
end Go.Proofs.YtgfkmgbcajdcdaaGreatDoor

namespace Go.Proofs.YtgfkmgbcajdcdaaGreatDoor
open Go.RowKit

abbrev paZ : List Value := [.int .i64 0, .int .i64 0, .bool false, .int .u64 0, .int .u64 0, .int .i64 0, .bool false]
theorem zeroPa (w : World) : (zeroValue 49).run Tryz.prog w = .ok (.agg #[.int .i64 0, .int .i64 0, .bool false, .int .u64 0, .int .u64 0, .int .i64 0, .bool false]) w := by kernel_rfl
theorem paSz : (Tryz.prog.info? 49).map (·.size) = some 7 := by kernel_rfl
theorem own_openN {w : World} {g n c sz : Nat} {t : TypeId} {xs : List Value} (h : w.ownsRow 0 t sz (.slice (some ⟨g, 0, none⟩) n c) n xs) : ∃ cur : Array Value, Blk w g t cur ∧ n ≤ c ∧ c ≤ maxLen ∧ cur.size = c * sz ∧ cur.toList.take (n * sz) = xs := by
 rcases h.2 with ⟨e, -⟩ | ⟨g', cap, cur, e, h1, h2, h3, h4, h5, h6⟩
 ·cases e
 ·injection e with e1 e2 e3
  injection e1 with e1
  injection e1 with e1
  subst e1 e3
  exact ⟨cur, h2, h3, h4, h5, h6⟩
theorem take_cut {α : Type} {C X : List α} {m : Nat} (h : C.take m = X) {k : Nat} (hk : k ≤ m) : C.take k = X.take k := by
 rw [← h, List.take_take, Nat.min_eq_left hk]
theorem run_clear_k (w : World) (t e ty : TypeId) (z : Value) (ht : Tryz.prog.underlying t = some (.slice e)) (hv : ∀ w, (zeroValue e).run Tryz.prog w = .ok z w) (cs : List Value) (hz : z.cells = cs.toArray) (h1 : ∀ v ∈ cs, v.oneCell' = true) (g off k c : Nat) (te : TypeId) (old : Array Value) (hB : Blk w g te old) (hl : off + k * cs.length ≤ old.size) :
  ∃ zs : List Value, zs.length = k * cs.length ∧ (∀ v ∈ zs, v.oneCell' = true) ∧ (Builtin.clear_ #[t] ty #[.slice (some ⟨g, off, none⟩) k c]).run Tryz.prog w = .ok (.tuple #[]) (w.setRow g (old.toList.take off ++ zs ++ old.toList.drop (off + zs.length)).toArray) := by
 refine ⟨(Builtin.zeroCells z.cells k).toList, by rw [hz]; simp [Builtin.zeroCells], fun v hv => ?_, ?_⟩
 ·rw [hz] at hv
  simp [Builtin.zeroCells] at hv
  obtain ⟨a, ha, rfl⟩ := hv
  have hc : 0 < cs.length := by
   rcases Nat.eq_zero_or_pos cs.length with e | e
   ·rw [e, Nat.mul_zero] at ha; omega
   ·exact e
  have hm := Nat.mod_lt a hc
  rw [List.getElem?_eq_getElem hm]
  exact h1 _ (List.getElem_mem _)
 ·have hl2 : (Builtin.zeroCells z.cells k).toList.length = k * cs.length := by rw [hz]; simp [Builtin.zeroCells]
  have h1' : ∀ v ∈ (Builtin.zeroCells z.cells k).toList, v.oneCell' = true := by
   intro v hv
   rw [hz] at hv
   simp [Builtin.zeroCells] at hv
   obtain ⟨a, ha, rfl⟩ := hv
   have hc : 0 < cs.length := by
    rcases Nat.eq_zero_or_pos cs.length with e | e
    ·rw [e, Nat.mul_zero] at ha; omega
    ·exact e
   have hm := Nat.mod_lt a hc
   rw [List.getElem?_eq_getElem hm]
   exact h1 _ (List.getElem_mem _)
  have hst := run_storeCells_at (P := Tryz.prog) g off te (Builtin.zeroCells z.cells k).toList 0 old w hB (by rw [hl2]; simpa using hl) h1'
  simp only [Nat.add_zero] at hst
  obtain ⟨zs, hzs⟩ : ∃ zs, (Builtin.zeroCells z.cells k).toList = zs := ⟨_, rfl⟩
  rw [hzs] at hst hl2 ⊢
  cases k with
  | zero =>
   have e0 : zs = [] := List.eq_nil_of_length_eq_zero (by rw [hl2]; omega)
   subst e0
   simp [Builtin.clear_, run_underlying ht, setRow_self w g old te (0, 0) hB]
  | succ k => simp [Builtin.clear_, run_underlying ht, hv, hzs, hst]
theorem run_copy_k (w : World) (dT sT ty elem : TypeId) (sz g o dLen dCap : Nat) (a : Addr) (sLen sCap n : Nat) (cur : Array Value) (t : TypeId) (cs : List Value)
  (hu : Tryz.prog.underlying dT = some (.slice elem)) (hs : (Tryz.prog.info? elem).map (·.size) = some sz)
  (hg : Blk w g t cur) (hn : Nat.min sLen dLen = n) (hl : cs.length = n * sz)
  (hsrc : ∀ j v, cs[j]? = some v → w.cell? (a.add j) = some v) (hfit : o + cs.length ≤ cur.size) (h1 : ∀ v ∈ cs, v.oneCell' = true) :
  (Builtin.copy_ #[dT, sT] ty #[.slice (some ⟨g, o, none⟩) dLen dCap, .slice (some a) sLen sCap]).run Tryz.prog w =
   .ok (goInt n) (w.setRow g (cur.toList.take o ++ cs ++ cur.toList.drop (o + cs.length)).toArray) := by
 have hld := run_loadCells_list (P := Tryz.prog) w a cs hsrc
 have hst := run_storeCells_at (P := Tryz.prog) g o t cs 0 cur w hg (by simpa using hfit) h1
 cases hq : Tryz.prog.info? elem with
 | none => simp [hq] at hs
 | some i =>
  have hi : i.size = sz := by simpa [hq] using hs
  simp [Builtin.copy_, run_underlying hu, Builtin.lenOf, Builtin.firstCells, sizeOf, typeInfo, hq, hi, hn, ← hl, hld, hst]
theorem wpo_copy_run (w : World) {o : Oper} {a : Act} {K : Act → World → Prop} {Q : Exit → Act → World → Prop} (d s : Operand) (t t' : TypeId)
  (ho : o.op = .call { callee := .builtin .copy, args := #[d, s], argTypes := #[t, t'] }) (v u : Value) (hd : a.eval d = v) (hs : a.eval s = u) {v' : Value} {w' : World}
  (hr : ∀ ty, (Builtin.copy_ #[t, t'] ty #[v, u]).run Tryz.prog w = .ok v' w') (h : K (a.put o.dst v') w') : o.wp Tryz.prog a w K Q := by
 unfold Oper.wp execOp
 simp only [ho, resolve, invoke, builtin, Sem.run_bind, Sem.run_pure, Result.andThen_ok, List.map_toArray, List.map_cons, List.map_nil, hd, hs, hr]
 exact h
theorem step_copy_run {ops : Array Oper} {o : Oper} {a : Act} {w : World} {K : Act → World → Prop} {Q : Exit → Act → World → Prop} {E : Prop}
  (hg : o.guard = none) (d x : Operand) (dT sT : TypeId) (hop : o.op = Op.call { callee := Callee.builtin Builtin.copy, args := #[d, x], argTypes := #[dT, sT] })
  (v u : Value) (hd : a.eval d = v) (hx : a.eval x = u) {v' : Value} {w' : World} (hr : ∀ ty, (Builtin.copy_ #[dT, sT] ty #[v, u]).run Tryz.prog w = .ok v' w') (hK : K (a.put o.dst v') w') :
  if Region.wanted o (yielded ops a.tmps) = true then Oper.wp Tryz.prog o a w K Q else E := by
 have hw : Region.wanted o (yielded ops a.tmps) = true := by simp [Region.wanted, hg]
 rw [if_pos hw]
 exact wpo_copy_run w d x dT sT hop v u hd hx hr hK
theorem add_lit (g o j : Nat) : (⟨g, o, none⟩ : Addr).add j = ⟨g, o + j, none⟩ := by unfold Addr.add; split <;> simp_all
theorem delete_pa (g n c i : Nat) (l : List PaI) (hl : l.length = n) (hn : n ≤ 1000) (hi : i < n) (w : World) (h : w.ownsRow 0 49 7 (.slice (some ⟨g, 0, none⟩) n c) n (l.flatMap paC)) :
  Calls Tryz.prog 82 #[.slice (some ⟨g, 0, none⟩) n c, .int .i64 (i : Int), .int .i64 ((i : Int) + 1)] w fun e w' => e = .returned (.slice (some ⟨g, 0, none⟩) (n - 1) c) ∧ w'.ownsRow 0 49 7 (.slice (some ⟨g, 0, none⟩) (n - 1) c) (n - 1) ((l.eraseIdx i).flatMap paC) ∧ Tch w w' [g] := by
 obtain ⟨cur, hB, hnc, hcm, hcs, hcx⟩ := own_openN h
 have hcm : c ≤ 9223372036854775807 := by unfold maxLen at hcm; omega
 have hxl : (l.flatMap paC).length = n * 7 := by rw [flatk_len pa_seven, hl]
 have her := erase_flat (f := paC) (sz := 7) pa_seven (l := l) (i := i) (by omega)
 have hone := flat_one pa_one l
 obtain ⟨xs, hxs⟩ : ∃ xs, l.flatMap paC = xs := ⟨_, rfl⟩
 rw [hxs] at hcx hxl her hone
 have hcl : cur.toList.length = c * 7 := by rw [Array.length_toList]; exact hcs
 obtain ⟨d, hd⟩ : ∃ d, n - (i + 1) = d := ⟨_, rfl⟩
 obtain ⟨n1, hn1⟩ : ∃ n1, n - 1 = n1 := ⟨_, rfl⟩
 rw [hn1]
 obtain ⟨news, hnews⟩ : ∃ news, xs.drop ((i + 1) * 7) = news := ⟨_, rfl⟩
 have hnl : news.length = d * 7 := by rw [← hnews, List.length_drop, hxl]; omega
 obtain ⟨A, hA⟩ : ∃ A : Addr, (if c = i + 1 then (some ⟨g, 0, none⟩ : Option Addr) else some ⟨g, (i + 1) * 7, none⟩) = some A := by
  by_cases e : c = i + 1
  ·exact ⟨_, if_pos e⟩
  ·exact ⟨_, if_neg e⟩
 have HSrc : Hid (∀ j u, news[j]? = some u → w.drew.cell? (A.add j) = some u) := lH (fun j u hj => by
  by_cases e : c = i + 1
  ·have : news.length = 0 := by rw [hnl]; omega
   have := (List.getElem?_eq_some_iff.1 hj).1
   omega
  ·rw [if_neg e] at hA
   injection hA with hA
   subst hA
   rw [← hnews, List.getElem?_drop] at hj
   rw [add_lit]
   show w.cell? _ = _
   rw [hB.cell, ← Array.getElem?_toList, ← hj, ← hcx, List.getElem?_take]
   have hjl := (List.getElem?_eq_some_iff.1 hj).1
   rw [hxl] at hjl
   rw [if_pos hjl])
 obtain ⟨cur1, hcur1⟩ : ∃ cur1, (cur.toList.take (i * 7) ++ news ++ cur.toList.drop (i * 7 + news.length)).toArray = cur1 := ⟨_, rfl⟩
 have hl1 : cur1.toList.length = c * 7 := by rw [← hcur1, List.toList_toArray]; simp [hcl, hnl]; omega
 have hpre : cur1.toList.take (n1 * 7) = xs.take (i * 7) ++ news := by
  rw [← hcur1, List.toList_toArray, List.take_left' (by simp [hcl, hnl]; omega), take_cut hcx (by omega)]
 obtain ⟨W1, hW1⟩ : ∃ W1, w.drew.setRow g cur1 = W1 := ⟨_, rfl⟩
 have hB1 : Blk W1 g 49 cur1 := hW1 ▸ setRow_blk (w := w.drew) hB
 have hT1 : Tch w W1 [g] := hW1 ▸ Tch.of_drew (setRow_tch w.drew g cur1)
 have hclr : ∃ zs : List Value, zs.length = 1 * 7 ∧ ∀ ty, (Builtin.clear_ #[118] ty #[.slice (some ⟨g, n1 * 7, none⟩) 1 (c - n1)]).run Tryz.prog W1 = .ok (.tuple #[]) (W1.setRow g (cur1.toList.take (n1 * 7) ++ zs ++ cur1.toList.drop (n1 * 7 + zs.length)).toArray) := by
  obtain ⟨zs, z1, z2, z3⟩ := run_clear_k W1 118 49 0 _ Tryz.underlying118 zeroPa paZ rfl (by simp [Value.oneCell']) g (n1 * 7) 1 (c - n1) 49 cur1 hB1 (by simp; rw [← Array.length_toList, hl1]; omega)
  exact ⟨zs, z1, fun ty => z3⟩
 obtain ⟨zs, hzl, hclr⟩ := hclr
 obtain ⟨cur2, hcur2⟩ : ∃ cur2, (cur1.toList.take (n1 * 7) ++ zs ++ cur1.toList.drop (n1 * 7 + zs.length)).toArray = cur2 := ⟨_, rfl⟩
 have HFin : Hid ((W1.setRow g cur2).ownsRow 0 49 7 (.slice (some ⟨g, 0, none⟩) n1 c) n1 ((l.eraseIdx i).flatMap paC) ∧ Tch w (W1.setRow g cur2) [g]) := lH (by
  refine ⟨⟨?_, .inr ⟨g, c, cur2, rfl, Nat.zero_le _, setRow_blk hB1, by omega, by unfold maxLen; omega, ?_, ?_⟩⟩, hT1.trans (setRow_tch W1 g cur2)⟩
  ·rw [her, hnews]
   simp [hxl, hnl]; omega
  ·rw [← hcur2]
   simp only [List.size_toArray, List.length_append, List.length_take, List.length_drop, hl1, hzl]
   omega
  ·rw [her, hnews, ← hpre, ← hcur2, List.toList_toArray, List.append_assoc, List.take_left' (by rw [List.length_take, hl1]; omega)])
 rw [hcur2] at hclr
 have HFit : Hid (i * 7 + news.length ≤ cur.size) := lH (by rw [hnl, hcs]; omega)
 have HOne : Hid (∀ u ∈ news, u.oneCell' = true) := lH (fun u hu => hone u (List.mem_of_mem_drop (by rw [hnews]; exact hu)))
 have HBd : Hid (Blk w.drew g 49 cur) := lH hB
 have HNl := lH hnl
 have HW1 : Hid (w.drew.setRow g (cur.toList.take (i * 7) ++ news ++ cur.toList.drop (i * 7 + news.length)).toArray = W1) := lH (by rw [hcur1]; exact hW1)
 have HRm : Hid (i + d ≤ c ∧ i + d = n1) := lH (by omega)
 have hn11 : n - n1 = 1 := by omega
 have hic : i ≤ c := by omega
 have hjc : i + 1 ≤ c := by omega
 have hib : (0 : Int) ≤ (i : Int) + 1 ∧ (i : Int) + 1 ≤ (n : Int) := by omega
 have b0 : ((i : Int) == (i : Int) + 1) = false := by simp; omega
 clear hB hcs hcx hxl her hone hxs hcl hnews hnl hcur1 hl1 hpre hW1 hB1 hT1 hcur2 h hzl
 go_enter Tryz.func82, Tryz.ntmps82
 go_wp2
 go_region_law (refine step_apr rfl (.tmp 22) (.tmp 25) 118 rfl 49 7 Tryz.underlying118 paSz g i c cur HBd.out (by simp [Act.eval, Act.put]) A d (c - (i + 1)) news (by simp [Act.eval, Act.put, *]) HNl.out HSrc.out HOne.out HRm.out.1 HFit.out ?_; rw [HW1.out, HRm.out.2])
 all_goals
  go_wp2
  go_ret
  exact ⟨rfl, HFin.out.1, HFin.out.2⟩
end Go.Proofs.YtgfkmgbcajdcdaaGreatDoor
