/-
  Several texts in one: Eq, ECls, POnes, POf, PHold.
-/
import Derived.Test.YtgfkmgbcajdcdaaGreatDoorZaa
import Derived.Test.YtgfkmgbcajdcdaaGreatDoorRows
import Derived.DeepKeys
import Derived.Test.YtgfkmgbcajdcdaaGreatDoorZab
import Derived.Test.YtgfkmgbcajdcdaaGreatDoorZah
set_option linter.unusedVariables false
set_option maxRecDepth 100000
set_option maxHeartbeats 16000000
namespace Go.Proofs.YtgfkmgbcajdcdaaGreatDoor
open Go.RowKit

theorem eq_yes {t : TypeId} {x y : Value} {lx ly : List Lit} (D m d : Nat) (e : d + m = 10000) (hk : Tryz.prog.keyTypeAt m t = true) (fx : x.formed Tryz.prog t = true) (fy : y.formed Tryz.prog t = true)
  (hx : Tryz.prog.keyLits D t x.cells.toList = some lx) (hy : Tryz.prog.keyLits D t y.cells.toList = some ly) (h : lx = ly) (W : World) :
  (Op.equalIn 10000 t x y).run Tryz.prog W = .ok true W := by
 obtain ⟨r, hr, hi⟩ := run_equalIn_deep d m t hk W D D x y lx ly fx fy hx hy
 rw [e] at hr
 rw [hr, hi.2 h]
theorem eq_no {t : TypeId} {x y : Value} {lx ly : List Lit} (D m d : Nat) (e : d + m = 10000) (hk : Tryz.prog.keyTypeAt m t = true) (fx : x.formed Tryz.prog t = true) (fy : y.formed Tryz.prog t = true)
  (hx : Tryz.prog.keyLits D t x.cells.toList = some lx) (hy : Tryz.prog.keyLits D t y.cells.toList = some ly) (h : lx ≠ ly) (W : World) :
  (Op.equalIn 10000 t x y).run Tryz.prog W = .ok false W := by
 obtain ⟨r, hr, hi⟩ := run_equalIn_deep d m t hk W D D x y lx ly fx fy hx hy
 rw [e] at hr
 cases r
 ·exact hr
 ·exact absurd (hi.1 rfl) h

theorem mapM_some' {α β : Type} {f : α → Option β} {g : α → β} : ∀ {l : List α}, (∀ a ∈ l, f a = some (g a)) → l.mapM f = some (l.map g)
 | [], _ => rfl
 | a :: l, h => by
  rw [List.mapM_cons, h a (by simp), mapM_some' fun b hb => h b (by simp [hb])]
  rfl
theorem flatten_ones {α : Type} (f : Int → α) : ∀ (n : Nat) (zs : List Int), zs.length = n → ((List.range n).map fun i => [f (zs.getD i 0)]).flatten = zs.map f
 | 0, zs, h => by rw [List.eq_nil_of_length_eq_zero h]; rfl
 | n + 1, zs, h => by
  have hne : zs ≠ [] := by intro e; simp [e] at h
  obtain ⟨m, z, rfl⟩ : ∃ m z, zs = m ++ [z] := ⟨zs.dropLast, zs.getLast hne, (List.dropLast_concat_getLast hne).symm⟩
  have hm : m.length = n := by simpa using h
  have ih := flatten_ones f n m hm
  rw [List.range_succ, List.map_append, List.flatten_append, List.map_append, ← ih]
  congr 1
  ·congr 1
   refine List.map_congr_left fun i hi => ?_
   have : i < m.length := by rw [hm]; exact List.mem_range.1 hi
   simp [List.getD_eq_getElem?_getD, List.getElem?_append_left this]
  ·subst hm
   simp [List.getD_eq_getElem?_getD]
theorem keyLits_ints {q : IntKind} {t e : TypeId} {n : Nat} (ht : Tryz.prog.underlying t = some (.array n e)) (he : Tryz.prog.underlying e = some (.int q)) (hce : Tryz.prog.cellsOf e = 1) (hct : Tryz.prog.cellsOf t = n) (zs : List Int) (hl : zs.length = n) (hw : ∀ z ∈ zs, (Lit.int q z).wf = true) :
  Tryz.prog.keyLits 2 t (zs.map (Value.int q)) = some (zs.map (Lit.int q)) := by
 unfold Program.keyLits
 simp only [ht, hce, hct, List.length_map, hl, if_true, Nat.mul_one]
 rw [mapM_some' (g := fun i => [Lit.int q (zs.getD i 0)]) (fun i hi => ?_)]
 ·simp only [Option.map_some, Option.some.injEq]
  exact flatten_ones (Lit.int q) n zs hl
 ·have hi' : i < zs.length := by rw [hl]; exact List.mem_range.1 hi
  have e1 : ((zs.map (Value.int q)).drop i).take 1 = [Value.int q (zs.getD i 0)] := by
   rw [List.drop_eq_getElem_cons (by simpa using hi')]
   simp [List.getD_eq_getElem?_getD, hi']
  rw [e1]
  unfold Program.keyLits
  simp only [he]
  rw [if_pos ⟨trivial, hw _ (by rw [List.getD_eq_getElem?_getD, List.getElem?_eq_getElem hi']; exact List.getElem_mem hi')⟩]
theorem eq_ints {q : IntKind} {t e : TypeId} {n : Nat} (ht : Tryz.prog.underlying t = some (.array n e)) (he : Tryz.prog.underlying e = some (.int q)) (hce : Tryz.prog.cellsOf e = 1) (hct : Tryz.prog.cellsOf t = n) (hk : Tryz.prog.keyTypeAt 3 t = true)
  (xs ys : List Int) (hx : xs.length = n) (hy : ys.length = n) (wx : ∀ z ∈ xs, (Lit.int q z).wf = true) (wy : ∀ z ∈ ys, (Lit.int q z).wf = true) {b : Bool} (hb : decide (xs = ys) = b) (W : World) :
  (Op.equalIn 10000 t (.agg (xs.map (Value.int q)).toArray) (.agg (ys.map (Value.int q)).toArray)).run Tryz.prog W = .ok b W := by
 have kx := keyLits_ints ht he hce hct xs hx wx
 have ky := keyLits_ints ht he hce hct ys hy wy
 have fx : ∀ l : List Int, l.length = n → (Value.agg (l.map (Value.int q)).toArray).formed Tryz.prog t = true := fun l hl => by
  unfold Value.formed
  simp [ht, hct, hl]
 have inj : xs.map (Lit.int q) = ys.map (Lit.int q) ↔ xs = ys := List.map_inj_right (fun _ _ h => by injection h)
 by_cases h : xs = ys
 ·have hb1 : b = true := by rw [← hb]; simp [h]
  rw [hb1]
  exact eq_yes 2 3 9997 rfl hk (fx xs hx) (fx ys hy) (by simpa [Value.cells] using kx) (by simpa [Value.cells] using ky) (inj.2 h) W
 ·have hb1 : b = false := by rw [← hb]; simp [h]
  rw [hb1]
  exact eq_no 2 3 9997 rfl hk (fx xs hx) (fx ys hy) (by simpa [Value.cells] using kx) (by simpa [Value.cells] using ky) (fun e => h (inj.1 e)) W
end Go.Proofs.YtgfkmgbcajdcdaaGreatDoor

namespace Go.Proofs.YtgfkmgbcajdcdaaGreatDoor
open Go.RowKit

theorem wfu16 {z : Int} (h : 0 ≤ z ∧ z ≤ 65535) : (Lit.int .u16 z).wf = true := by
 simp [Lit.wf, IntKind.min, IntKind.max, IntKind.bits, IntKind.signed]; omega
theorem eq_grs (h l : Int) (k : Int) (hk : 0 ≤ k ∧ k ≤ 65535) {b : Bool} (hb : decide ([gr h 0, gr h 1, gr h 2, gr h 3, gr l 0, gr l 1, gr l 2, gr l 3] = [0, 0, 0, 0, 0, 0, 0, k]) = b) (W : World) :
  (Op.equalIn 10000 253 (grs h l) (.agg #[.int .u16 0, .int .u16 0, .int .u16 0, .int .u16 0, .int .u16 0, .int .u16 0, .int .u16 0, .int .u16 k])).run Tryz.prog W = .ok b W :=
 eq_ints (n := 8) Tryz.underlying253 Tryz.underlying251 (by kernel_rfl) (by kernel_rfl) (by kernel_rfl) [gr h 0, gr h 1, gr h 2, gr h 3, gr l 0, gr l 1, gr l 2, gr l 3] [0, 0, 0, 0, 0, 0, 0, k] rfl rfl
  (fun z hz => by
   simp only [List.mem_cons, List.not_mem_nil, or_false] at hz
   rcases hz with rfl | rfl | rfl | rfl | rfl | rfl | rfl | rfl <;> exact wfu16 (gr_bd _ _))
  (fun z hz => by
   simp only [List.mem_cons, List.not_mem_nil, or_false] at hz
   rcases hz with rfl | rfl | rfl | rfl | rfl | rfl | rfl | rfl <;> first | exact wfu16 hk | exact wfu16 (by decide)) hb W
theorem grs_eq (h l k : Int) (hh : U6 h) (hl : U6 l) (hk : 0 ≤ k ∧ k ≤ 65535) : [gr h 0, gr h 1, gr h 2, gr h 3, gr l 0, gr l 1, gr l 2, gr l 3] = [0, 0, 0, 0, 0, 0, 0, k] ↔ h = 0 ∧ l = k := by
 obtain ⟨h0, h1⟩ := hh
 obtain ⟨l0, l1⟩ := hl
 simp only [List.cons.injEq, and_true, ← gr_0, ← gr_1, ← gr_2, ← gr_3]
 omega

theorem classSix_any (h l : Int) (hh : U6 h) (hl : U6 l) (w : World) :
  Calls Tryz.prog 192 #[grs h l] w fun e w' => e = .returned (.int .i64 (clsV true h l)) ∧ Below w.heap.size w w' := by
 have e0 := grs_eq h l 0 hh hl (by decide)
 have e1 := grs_eq h l 1 hh hl (by decide)
 obtain ⟨V, hV⟩ : ∃ V, clsV true h l = V := ⟨_, rfl⟩
 have hV2 : V = (if h = 0 ∧ l = 0 then 0 else if h = 0 ∧ l = 1 then 1 else if h / 18014398509481984 = 1018 then 2 else if h / 72057594037927936 = 255 then 3 else 5) := by rw [← hV]; simp [clsV]
 rw [hV]
 have HV := lH hV2
 have d6 : gr h 0 / 64 = h / 18014398509481984 := by rw [← gr_0]; have := hh.2; have := hh.1; omega
 have d8 : gr h 0 / 256 = h / 72057594037927936 := by rw [← gr_0]; have := hh.2; have := hh.1; omega
 have hg := gr_bd h 0
 by_cases c0 : h = 0 ∧ l = 0
 ·have q1 : ∀ W : World, _ := fun W => eq_grs h l 0 (by decide) (b := true) (by simpa using e0.2 c0) W
  have HX : Hid (V = 0) := lH (by rw [HV.out, if_pos c0])
  clear hV hV2 HV e0 e1 d6 d8 c0
  go_enter Tryz.func192, Tryz.ntmps192
  go_wp2
  go_ret
  exact ⟨ret_k HX.out.symm, (Below.refl _ _).alloc (Nat.le_refl _) _⟩
 ·have q1 : ∀ W : World, _ := fun W => eq_grs h l 0 (by decide) (b := false) (by simpa using fun x => c0 (e0.1 x)) W
  by_cases c1 : h = 0 ∧ l = 1
  ·have q2 : ∀ W : World, _ := fun W => eq_grs h l 1 (by decide) (b := true) (by simpa using e1.2 c1) W
   have HX : Hid (V = 1) := lH (by rw [HV.out, if_neg c0, if_pos c1])
   clear hV hV2 HV e0 e1 d6 d8 c0 c1
   go_enter Tryz.func192, Tryz.ntmps192
   go_wp2
   go_ret
   exact ⟨ret_k HX.out.symm, (Below.refl _ _).alloc (Nat.le_refl _) _⟩
  ·have q2 : ∀ W : World, _ := fun W => eq_grs h l 1 (by decide) (b := false) (by simpa using fun x => c1 (e1.1 x)) W
   by_cases c2 : gr h 0 / 64 = 1018
   ·have HX : Hid (V = 2) := lH (by rw [HV.out, if_neg c0, if_neg c1, ← d6, if_pos c2])
    clear hV hV2 HV e0 e1 d6 d8 c0 c1
    go_enter Tryz.func192, Tryz.ntmps192
    go_wp2
    go_ret
    exact ⟨ret_k HX.out.symm, (Below.refl _ _).alloc (Nat.le_refl _) _⟩
   ·by_cases c3 : gr h 0 / 256 = 255
    ·have HX : Hid (V = 3) := lH (by rw [HV.out, if_neg c0, if_neg c1, ← d6, if_neg c2, ← d8, if_pos c3])
     clear hV hV2 HV e0 e1 d6 d8 c0 c1
     go_enter Tryz.func192, Tryz.ntmps192
     go_wp2
     go_ret
     exact ⟨ret_k HX.out.symm, (Below.refl _ _).alloc (Nat.le_refl _) _⟩
    ·have HX : Hid (V = 5) := lH (by rw [HV.out, if_neg c0, if_neg c1, ← d6, if_neg c2, ← d8, if_neg c3])
     clear hV hV2 HV e0 e1 d6 d8 c0 c1
     go_enter Tryz.func192, Tryz.ntmps192
     go_wp2
     go_ret
     exact ⟨ret_k HX.out.symm, (Below.refl _ _).alloc (Nat.le_refl _) _⟩

theorem classFour_any (l : Int) (h0 : 0 ≤ l) (h1 : l ≤ 4294967295) (w : World) :
  Calls Tryz.prog 194 #[adr false 0 l] w fun e w' => e = .returned (.int .i64 (clsV false 0 l)) ∧ Below w.heap.size w w' := by
 obtain ⟨V, hV⟩ : ∃ V, clsV false 0 l = V := ⟨_, rfl⟩
 have hV2 : V = (if l = 0 then 0 else if l / 16777216 = 127 then 1 else if l / 65536 = 43518 then 2 else if l = 4294967295 then 4 else if l / 268435456 = 14 then 3 else 5) := by rw [← hV]; simp [clsV, h1]
 rw [hV]
 have HV := lH hV2
 clear hV hV2
 by_cases c0 : l = 0
 ·have HX : Hid (V = 0) := lH (by rw [HV.out, if_pos c0])
  clear HV
  go_enter Tryz.func194, Tryz.ntmps194
  go_wp2
  go_ret
  exact ⟨ret_k HX.out.symm, (Below.refl _ _).alloc (Nat.le_refl _) _⟩
 ·by_cases c1 : l / 16777216 = 127
  ·have HX : Hid (V = 1) := lH (by rw [HV.out, if_neg c0, if_pos c1])
   clear HV
   go_enter Tryz.func194, Tryz.ntmps194
   go_wp2
   go_ret
   exact ⟨ret_k HX.out.symm, (Below.refl _ _).alloc (Nat.le_refl _) _⟩
  ·by_cases c2 : l / 65536 = 43518
   ·have HX : Hid (V = 2) := lH (by rw [HV.out, if_neg c0, if_neg c1, if_pos c2])
    clear HV
    go_enter Tryz.func194, Tryz.ntmps194
    go_wp2
    go_ret
    exact ⟨ret_k HX.out.symm, (Below.refl _ _).alloc (Nat.le_refl _) _⟩
   ·by_cases c3 : l = 4294967295
    ·have HX : Hid (V = 4) := lH (by rw [HV.out, if_neg c0, if_neg c1, if_neg c2, if_pos c3])
     clear HV
     go_enter Tryz.func194, Tryz.ntmps194
     go_wp2
     go_ret
     exact ⟨ret_k HX.out.symm, (Below.refl _ _).alloc (Nat.le_refl _) _⟩
    ·by_cases c4 : l / 268435456 = 14
     ·have HX : Hid (V = 3) := lH (by rw [HV.out, if_neg c0, if_neg c1, if_neg c2, if_neg c3, if_pos c4])
      clear HV
      go_enter Tryz.func194, Tryz.ntmps194
      go_wp2
      go_ret
      exact ⟨ret_k HX.out.symm, (Below.refl _ _).alloc (Nat.le_refl _) _⟩
     ·have HX : Hid (V = 5) := lH (by rw [HV.out, if_neg c0, if_neg c1, if_neg c2, if_neg c3, if_neg c4])
      clear HV
      go_enter Tryz.func194, Tryz.ntmps194
      go_wp2
      go_ret
      exact ⟨ret_k HX.out.symm, (Below.refl _ _).alloc (Nat.le_refl _) _⟩

theorem cls_no {s : Bool} {h l : Int} (e : vld s h l = false) : clsV s h l = -1 := by
 unfold clsV
 rw [if_pos (show (s || (decide (h = 0) && decide (l ≤ 4294967295))) = false from e)]
theorem class_any (s : Bool) (h l : Int) (hh : U6 h) (hl : U6 l) (w : World) :
  Calls Tryz.prog 159 #[adr s h l] w fun e w' => e = .returned (.int .i64 (clsV s h l)) ∧ Below w.heap.size w w' := by
 obtain ⟨V, hV⟩ : ∃ V, vld s h l = V := ⟨_, rfl⟩
 have H1 := lH (fun W => valid_at s h l W hV)
 cases V
 ·have HX := lH (cls_no hV)
  clear hV
  go_enter Tryz.func159, Tryz.ntmps159
  go_wp2_with fail
  refine cZm (H1.out _) ?_
  rintro e w1 ⟨rfl, hb⟩
  have L1 := ((Below.refl _ w).alloc (Nat.le_refl _) _).trans (hb.mono (by simp only [zA]; omega))
  clear hb
  go_wp2
  go_ret
  exact ⟨ret_k (by rw [HX.out]), L1⟩
 ·cases s
  ·obtain ⟨rfl, h4⟩ := vld_four hV
   have H3 := lH (fun W => classFour_any l hl.1 h4 W)
   clear hV hh hl h4
   go_enter Tryz.func159, Tryz.ntmps159
   go_wp2_with fail
   refine cZm (H1.out _) ?_
   rintro e w1 ⟨rfl, hb⟩
   have R1 := lH ((Blk.new w 28 _).below hb (by simp only [zA]; omega))
   have L1 := lH (((Below.refl _ w).alloc (Nat.le_refl _) _).trans (hb.mono (by simp only [zA]; omega)))
   obtain ⟨g1, g2, g3⟩ := R1.out.c3
   clear hb
   go_wp2_with fail
   refine cZm (H3.out _) ?_
   rintro e w2 ⟨rfl, hb⟩
   have L2 := L1.out.trans (hb.mono L1.out.size)
   clear hb g1 g2 g3
   go_wp2
   go_ret
   exact ⟨rfl, L2⟩
  ·have H2 := lH (fun W => groups_any true h l hh hl W)
   have H3 := lH (fun W => classSix_any h l hh hl W)
   clear hV hh hl
   go_enter Tryz.func159, Tryz.ntmps159
   go_wp2_with fail
   refine cZm (H1.out _) ?_
   rintro e w1 ⟨rfl, hb⟩
   have R1 := lH ((Blk.new w 28 _).below hb (by simp only [zA]; omega))
   have L1 := lH (((Below.refl _ w).alloc (Nat.le_refl _) _).trans (hb.mono (by simp only [zA]; omega)))
   obtain ⟨g1, g2, g3⟩ := R1.out.c3
   clear hb
   go_wp2_with fail
   refine cZm (H2.out _) ?_
   rintro e w2 ⟨rfl, hb⟩
   have L2 := lH (L1.out.trans (hb.mono L1.out.size))
   clear hb g1 g2 g3
   go_wp2_with fail
   refine cZm (H3.out _) ?_
   rintro e w3 ⟨rfl, hb⟩
   have L3 := L2.out.trans (hb.mono L2.out.size)
   clear hb
   go_wp2
   go_ret
   exact ⟨rfl, L3⟩
theorem class_at (s : Bool) (h l : Int) (hh : U6 h) (hl : U6 l) {v : Int} (hv : clsV s h l = v) (w : World) :
  Calls Tryz.prog 159 #[adr s h l] w fun e w' => e = .returned (.int .i64 v) ∧ Below w.heap.size w w' := by
 subst hv; exact class_any s h l hh hl w
end Go.Proofs.YtgfkmgbcajdcdaaGreatDoor

namespace Go.Proofs.YtgfkmgbcajdcdaaGreatDoor
open Go.RowKit

def onz (n : Int) : Int := ((2 ^ 64 - 2 ^ (64 - (min n.toNat 64)) : Nat) : Int)
theorem shl_all (j : Nat) (hj : j ≤ 64) : IntKind.u64.wrap (18446744073709551615 * 2 ^ j) = ((2 ^ 64 - 2 ^ j : Nat) : Int) := by
 have h1 : (2 : Nat) ^ j ≤ 2 ^ 64 := Nat.pow_le_pow_right (by decide) hj
 have h2 := pw j
 have e : ((2 : Int) ^ j) = ((2 ^ j : Nat) : Int) := by simp
 rw [e, IntKind.wrap_u64]
 generalize (2 : Nat) ^ j = p at *
 omega
theorem and_onz (x : Nat) (hx : N64 x) (n : Int) : bits .and .u64 (x : Int) (onz n) = ((ct x (64 - (min n.toNat 64)) : Nat) : Int) := by
 have h1 : (2 : Nat) ^ (64 - (min n.toNat 64)) ≤ 2 ^ 64 := Nat.pow_le_pow_right (by decide) (by omega)
 have h2 := pw (64 - (min n.toNat 64))
 unfold onz
 rw [u64_and_nat x _ hx (by omega), and_mask x _ hx.lt (by omega)]
theorem ret_u64 {a b : Int} (h : a = b) : Ending.returned (.int .u64 a) = .returned (.int .u64 b) := by rw [h]
theorem ones_any (n : Int) (w : World) :
  Calls Tryz.prog 191 #[.int .i64 n] w fun e w' => e = .returned (.int .u64 (onz n)) ∧ w = w' := by
 obtain ⟨y, hy⟩ : ∃ y, (if n < 0 then 0 else n) = y := ⟨_, rfl⟩
 obtain ⟨k, hk⟩ : ∃ k, (if 64 < y then 64 else y) = k := ⟨_, rfl⟩
 have hk0 : 0 ≤ k := by split at hy <;> split at hk <;> omega
 have hk1 : k ≤ 64 := by split at hy <;> split at hk <;> omega
 have hk2 : min n.toNat 64 = k.toNat := by split at hy <;> split at hk <;> omega
 have HK := lH hk2
 clear hk2
 go_enter Tryz.func191, Tryz.ntmps191
 go_wp2
 go_ret
 refine ⟨ret_u64 ?_, rfl⟩
 unfold onz
 rw [HK.out]
 rw [show 64 - k.toNat = (64 - k).toNat by omega]
 exact shl_all _ (by omega)

theorem width_at (s : Bool) (h l W : Int) (hW : (wd s : Int) = W) (w : World) :
  Calls Tryz.prog 156 #[adr s h l] w fun e w' => e = .returned (.int .i64 W) ∧ Below w.heap.size w w' := by
 subst hW
 cases s
 all_goals
  go_enter Tryz.func156, Tryz.ntmps156
  go_wp2
  go_ret
  exact ⟨rfl, (Below.refl _ _).alloc (Nat.le_refl _) _⟩
theorem before_at (s : Bool) (h l W : Int) (hW : (wd s : Int) = W) (w : World) :
  Calls Tryz.prog 190 #[adr s h l] w fun e w' => e = .returned (.int .i64 (128 - W)) ∧ Below w.heap.size w w' := by
 have h0 : 0 ≤ W := by rw [← hW]; omega
 have h1 : W ≤ 128 := by rw [← hW]; unfold wd; split <;> omega
 have H := lH (fun W' => width_at s h l W hW W')
 clear hW
 go_enter Tryz.func190, Tryz.ntmps190
 go_wp2_with fail
 refine cZm (H.out _) ?_
 rintro e w1 ⟨rfl, hb⟩
 have L1 := lH (((Below.refl _ w).alloc (Nat.le_refl _) _).trans (hb.mono (by simp only [zA]; omega)))
 clear hb
 go_wp2
 go_ret
 exact ⟨rfl, L1.out⟩
theorem masks_at (s : Bool) (h l b W : Int) (hW : (wd s : Int) = W) (hb0 : 0 ≤ b) (hb1 : b ≤ W) (w : World) :
  Calls Tryz.prog 157 #[adr s h l, .int .i64 b] w fun e w' => e = .returned (.tuple #[.int .u64 (onz (128 - W + b)), .int .u64 (onz (128 - W + b - 64))]) ∧ Below w.heap.size w w' := by
 have h0 : 0 ≤ W := by rw [← hW]; omega
 have h1 : W ≤ 128 := by rw [← hW]; unfold wd; split <;> omega
 have H := lH (fun W' => before_at s h l W hW W')
 clear hW
 go_enter Tryz.func157, Tryz.ntmps157
 go_wp2_with fail
 refine cZm (H.out _) ?_
 rintro e w1 ⟨rfl, hb⟩
 have L1 := lH (((Below.refl _ w).alloc (Nat.le_refl _) _).trans (hb.mono (by simp only [zA]; omega)))
 clear hb
 go_wp2_with fail
 refine cZm (ones_any _ _) ?_
 rintro e w2 ⟨rfl, rfl⟩
 go_wp2_with fail
 refine cZm (ones_any _ _) ?_
 rintro e w2 ⟨rfl, rfl⟩
 go_wp2
 go_ret2
 exact ⟨rfl, L1.out⟩
end Go.Proofs.YtgfkmgbcajdcdaaGreatDoor

namespace Go.Proofs.YtgfkmgbcajdcdaaGreatDoor
open Go.RowKit

abbrev pfx (s : Bool) (h l b : Int) : Value := .agg #[.bool s, .int .u64 h, .int .u64 l, .int .i64 b]
def ofP (s : Bool) (h l : Nat) (b : Int) : Value :=
 if vld s h l && okn s b then .tuple #[pfx s (ct h (kk s b - 64) : Nat) (ct l (kk s b) : Nat) b, .int .i64 0] else .tuple #[pfx false 0 0 0, .int .i64 1]
theorem mask_hi {s : Bool} {b W : Int} (hW : (wd s : Int) = W) (hb0 : 0 ≤ b) (hb1 : b ≤ W) (h : Nat) (hh : N64 h) :
  bits .and .u64 (h : Int) (onz (128 - W + b)) = ((ct h (kk s b - 64) : Nat) : Int) := by
 rw [and_onz h hh]
 have : wd s ≤ 128 := by unfold wd; split <;> omega
 rw [show 64 - min (128 - W + b).toNat 64 = kk s b - 64 by unfold kk; omega]
theorem mask_lo {s : Bool} {b W : Int} (hW : (wd s : Int) = W) (hb0 : 0 ≤ b) (hb1 : b ≤ W) (l : Nat) (hl : N64 l) :
  bits .and .u64 (l : Int) (onz (128 - W + b - 64)) = ((ct l (kk s b) : Nat) : Int) := by
 rw [and_onz l hl]
 have : wd s ≤ 128 := by unfold wd; split <;> omega
 rw [show 64 - min (128 - W + b - 64).toNat 64 = min (kk s b) 64 by unfold kk; omega]
 rcases Nat.lt_or_ge (kk s b) 64 with h | h
 ·rw [show min (kk s b) 64 = kk s b by omega]
 ·rw [show min (kk s b) 64 = 64 by omega, ct_lt hl.lt, ct_lt (Nat.lt_of_lt_of_le hl.lt (Nat.pow_le_pow_right (by decide) h))]

theorem Blk.c4 {w : World} {g : Nat} {t : TypeId} {a b c d : Value} (h : Blk w g t #[a, b, c, d]) : w.cell? ⟨g, 0, none⟩ = some a ∧ w.cell? ⟨g, 1, none⟩ = some b ∧ w.cell? ⟨g, 2, none⟩ = some c ∧ w.cell? ⟨g, 3, none⟩ = some d :=
 ⟨by rw [h.cell]; rfl, by rw [h.cell]; rfl, by rw [h.cell]; rfl, by rw [h.cell]; rfl⟩
theorem okn_no {s : Bool} {b W : Int} (hW : (wd s : Int) = W) (e : okn s b = false) (h0 : ¬ b < 0) : b > W := by
 rw [← hW]
 simp only [okn, Bool.and_eq_false_iff, decide_eq_false_iff_not] at e
 omega

theorem ofP_any (s : Bool) (h l : Nat) (b : Int) (hh : N64 h) (hl : N64 l) (w : World) :
  Calls Tryz.prog 112 #[adr s h l, .int .i64 b] w fun e w' => e = .returned (ofP s h l b) ∧ Below w.heap.size w w' := by
 obtain ⟨V, hV⟩ : ∃ V, vld s h l = V := ⟨_, rfl⟩
 obtain ⟨W, hW⟩ : ∃ W, (wd s : Int) = W := ⟨_, rfl⟩
 have h0 : 0 ≤ W := by rw [← hW]; omega
 have h1 : W ≤ 128 := by rw [← hW]; unfold wd; split <;> omega
 have HV := lH (fun w => valid_at s h l w hV)
 have HW := lH (fun w => width_at s h l W hW w)
 obtain ⟨R, hR⟩ : ∃ R, ofP s h l b = R := ⟨_, rfl⟩
 rw [hR]
 by_cases hk : V = true ∧ okn s b = true
 ·obtain ⟨rfl, ho⟩ := hk
  obtain ⟨o1, o2⟩ := okn_iff.1 ho
  rw [hW] at o2
  obtain ⟨X, hX⟩ : ∃ X, ((ct h (kk s b - 64) : Nat) : Int) = X := ⟨_, rfl⟩
  obtain ⟨Y, hY⟩ : ∃ Y, ((ct l (kk s b) : Nat) : Int) = Y := ⟨_, rfl⟩
  have e1 : ofP s h l b = .tuple #[pfx s X Y b, .int .i64 0] := by unfold ofP; rw [hV, ho, hX, hY]; rfl
  have HR := lH (e1.symm.trans hR)
  obtain ⟨M1, hM1⟩ : ∃ M, onz (128 - W + b) = M := ⟨_, rfl⟩
  obtain ⟨M2, hM2⟩ : ∃ M, onz (128 - W + b - 64) = M := ⟨_, rfl⟩
  have HM := lH (fun w => masks_at s h l b W hW o1 o2 w)
  have b1 := mask_hi hW o1 o2 h hh
  have b2 := mask_lo hW o1 o2 l hl
  rw [hM1, hM2] at HM
  rw [hM1, hX] at b1
  rw [hM2, hY] at b2
  have n1 : ¬ b < 0 := by omega
  have n2 : ¬ b > W := by omega
  have B1 := lH b1
  have B2 := lH b2
  clear hV hW e1 hR ho hM1 hM2 hX hY b1 b2
  go_enter Tryz.func112, Tryz.ntmps112
  go_wp2_with fail
  refine cZm (HV.out _) ?_
  rintro e w1 ⟨rfl, hb⟩
  have K1 := lH ((Blk.new w 28 #[.bool s, .int .u64 h, .int .u64 l]).alloc (.cells #[.bool false, .int .u64 0, .int .u64 0, .int .i64 0] 30) |>.below hb (by simp only [zA]; omega))
  have R1 := lH ((Blk.new (w.alloc (.cells #[.bool s, .int .u64 h, .int .u64 l] 28)) 30 #[.bool false, .int .u64 0, .int .u64 0, .int .i64 0]).below hb (by simp only [zA]; omega))
  have L1 := lH ((((Below.refl _ w).alloc (Nat.le_refl _) _).alloc (by simp) _).trans (hb.mono (by simp only [zA]; omega)))
  have s1 : w.heap.size + 1 < w1.heap.size := by have := hb.size; simp only [zA] at this; omega
  rw [zA] at R1
  obtain ⟨f1, f2, f3⟩ := K1.out.c3
  clear hb
  go_wp2_with fail
  refine cZm (HW.out _) ?_
  rintro e w2 ⟨rfl, hb⟩
  clear f1 f2 f3
  have K2 := lH (K1.out.below hb (by omega))
  have R2 := lH (R1.out.below hb s1)
  have L2 := lH (L1.out.trans (hb.mono L1.out.size))
  have s2 : w.heap.size + 1 < w2.heap.size := by have := hb.size; omega
  obtain ⟨f1, f2, f3⟩ := K2.out.c3
  clear hb
  go_wp2_with fail
  refine cZm (HM.out _) ?_
  rintro e w3 ⟨rfl, hb⟩
  clear f1 f2 f3
  have K3 := lH (K2.out.below hb (by omega))
  have R3 := lH (R2.out.below hb s2)
  have L3 := lH (L2.out.trans (hb.mono L2.out.size))
  obtain ⟨f1, f2, f3⟩ := K3.out.c3
  obtain ⟨g1, g2, g3, g4⟩ := R3.out.c4
  have z0 := R3.out.frozen 0
  have z1 := R3.out.frozen 1
  have z2 := R3.out.frozen 2
  have z3 := R3.out.frozen 3
  have y1 := K3.out.frozen 1
  have y2 := K3.out.frozen 2
  have b1 := B1.out
  have b2 := B2.out
  clear hb
  go_wp2
  exact bodyPost_ret (v := .tuple #[pfx s X Y b, .int .i64 0]) (by simp [results, Tryz.results112, go_sem, g1, g2, g3, g4]) rfl ⟨by rw [HR.out], by (repeat (refine Below.setCell ?_ (by simp) _)); exact L3.out⟩
 ·have e1 : ofP s h l b = .tuple #[pfx false 0 0 0, .int .i64 1] := by
   unfold ofP
   rw [if_neg (by rw [hV]; simpa using hk)]
  have HR := lH (e1.symm.trans hR)
  cases V
  ·clear hV hW e1 hR hk
   go_enter Tryz.func112, Tryz.ntmps112
   go_wp2_with fail
   refine cZm (HV.out _) ?_
   rintro e w1 ⟨rfl, hb⟩
   have K1 := lH ((Blk.new w 28 #[.bool s, .int .u64 h, .int .u64 l]).alloc (.cells #[.bool false, .int .u64 0, .int .u64 0, .int .i64 0] 30) |>.below hb (by simp only [zA]; omega))
   have R1 := lH ((Blk.new (w.alloc (.cells #[.bool s, .int .u64 h, .int .u64 l] 28)) 30 #[.bool false, .int .u64 0, .int .u64 0, .int .i64 0]).below hb (by simp only [zA]; omega))
   have L1 := lH ((((Below.refl _ w).alloc (Nat.le_refl _) _).alloc (by simp) _).trans (hb.mono (by simp only [zA]; omega)))
   have s1 : w.heap.size + 1 < w1.heap.size := by have := hb.size; simp only [zA] at this; omega
   rw [zA] at R1
   obtain ⟨f1, f2, f3⟩ := K1.out.c3
   clear hb
   obtain ⟨g1, g2, g3, g4⟩ := R1.out.c4
   have z0 := R1.out.frozen 0
   have z1 := R1.out.frozen 1
   have z2 := R1.out.frozen 2
   have z3 := R1.out.frozen 3
   go_wp2
   exact bodyPost_ret (v := .tuple #[pfx false 0 0 0, .int .i64 1]) (by simp [results, Tryz.results112, go_sem, g1, g2, g3, g4]) rfl ⟨by rw [HR.out], by (repeat (refine Below.setCell ?_ (by simp) _)); exact L1.out⟩
  ·by_cases hneg : b < 0
   ·clear hV hW e1 hR hk
    go_enter Tryz.func112, Tryz.ntmps112
    go_wp2_with fail
    refine cZm (HV.out _) ?_
    rintro e w1 ⟨rfl, hb⟩
    have K1 := lH ((Blk.new w 28 #[.bool s, .int .u64 h, .int .u64 l]).alloc (.cells #[.bool false, .int .u64 0, .int .u64 0, .int .i64 0] 30) |>.below hb (by simp only [zA]; omega))
    have R1 := lH ((Blk.new (w.alloc (.cells #[.bool s, .int .u64 h, .int .u64 l] 28)) 30 #[.bool false, .int .u64 0, .int .u64 0, .int .i64 0]).below hb (by simp only [zA]; omega))
    have L1 := lH ((((Below.refl _ w).alloc (Nat.le_refl _) _).alloc (by simp) _).trans (hb.mono (by simp only [zA]; omega)))
    have s1 : w.heap.size + 1 < w1.heap.size := by have := hb.size; simp only [zA] at this; omega
    rw [zA] at R1
    obtain ⟨f1, f2, f3⟩ := K1.out.c3
    clear hb
    obtain ⟨g1, g2, g3, g4⟩ := R1.out.c4
    have z0 := R1.out.frozen 0
    have z1 := R1.out.frozen 1
    have z2 := R1.out.frozen 2
    have z3 := R1.out.frozen 3
    go_wp2
    exact bodyPost_ret (v := .tuple #[pfx false 0 0 0, .int .i64 1]) (by simp [results, Tryz.results112, go_sem, g1, g2, g3, g4]) rfl ⟨by rw [HR.out], by (repeat (refine Below.setCell ?_ (by simp) _)); exact L1.out⟩
   ·have hgt : b > W := okn_no hW (by simpa using hk) hneg
    clear hV hW e1 hR hk
    go_enter Tryz.func112, Tryz.ntmps112
    go_wp2_with fail
    refine cZm (HV.out _) ?_
    rintro e w1 ⟨rfl, hb⟩
    have K1 := lH ((Blk.new w 28 #[.bool s, .int .u64 h, .int .u64 l]).alloc (.cells #[.bool false, .int .u64 0, .int .u64 0, .int .i64 0] 30) |>.below hb (by simp only [zA]; omega))
    have R1 := lH ((Blk.new (w.alloc (.cells #[.bool s, .int .u64 h, .int .u64 l] 28)) 30 #[.bool false, .int .u64 0, .int .u64 0, .int .i64 0]).below hb (by simp only [zA]; omega))
    have L1 := lH ((((Below.refl _ w).alloc (Nat.le_refl _) _).alloc (by simp) _).trans (hb.mono (by simp only [zA]; omega)))
    have s1 : w.heap.size + 1 < w1.heap.size := by have := hb.size; simp only [zA] at this; omega
    rw [zA] at R1
    obtain ⟨f1, f2, f3⟩ := K1.out.c3
    clear hb
    go_wp2_with fail
    refine cZm (HW.out _) ?_
    rintro e w2 ⟨rfl, hb⟩
    clear f1 f2 f3
    have R2 := lH (R1.out.below hb s1)
    have L2 := lH (L1.out.trans (hb.mono L1.out.size))
    clear hb
    obtain ⟨g1, g2, g3, g4⟩ := R2.out.c4
    have z0 := R2.out.frozen 0
    have z1 := R2.out.frozen 1
    have z2 := R2.out.frozen 2
    have z3 := R2.out.frozen 3
    go_wp2
    exact bodyPost_ret (v := .tuple #[pfx false 0 0 0, .int .i64 1]) (by simp [results, Tryz.results112, go_sem, g1, g2, g3, g4]) rfl ⟨by rw [HR.out], by (repeat (refine Below.setCell ?_ (by simp) _)); exact L2.out⟩
end Go.Proofs.YtgfkmgbcajdcdaaGreatDoor

namespace Go.Proofs.YtgfkmgbcajdcdaaGreatDoor
open Go.RowKit

theorem ofP_at (s : Bool) (h l : Nat) (b : Int) (hh : N64 h) (hl : N64 l) {v : Value} (e : ofP s h l b = v) (w : World) :
  Calls Tryz.prog 112 #[adr s h l, .int .i64 b] w fun e w' => e = .returned v ∧ Below w.heap.size w w' := by
 subst e; exact ofP_any s h l b hh hl w
theorem ofP_yes {s : Bool} {h l : Nat} {b : Int} (hk : vld s h l = true ∧ okn s b = true) : ofP s h l b = .tuple #[pfx s (ct h (kk s b - 64) : Nat) (ct l (kk s b) : Nat) b, .int .i64 0] := by
 unfold ofP; rw [hk.1, hk.2]; rfl
theorem ofP_no {s : Bool} {h l : Nat} {b : Int} (hk : ¬ (vld s h l = true ∧ okn s b = true)) : ofP s h l b = .tuple #[pfx false 0 0 0, .int .i64 1] := by
 unfold ofP
 rw [if_neg (by simpa using hk)]
theorem hld_not {s : Bool} {h l : Nat} {b : Int} {s' : Bool} {h' l' : Nat} (hk : ¬ (vld s' h' l' = true ∧ okn s' b = true)) : hld s h l b s' h' l' = false := by
 rw [Bool.eq_false_iff]; intro e
 unfold hld at e
 simp only [Bool.and_eq_true, decide_eq_true_eq] at e
 exact hk e.1.1.1
theorem hld_if {s : Bool} {h l : Nat} {b : Int} {s' : Bool} {h' l' : Nat} (hk : vld s' h' l' = true ∧ okn s' b = true) :
  hld s h l b s' h' l' = decide (s' = s ∧ ((ct h' (kk s' b - 64) : Nat) : Int) = h ∧ ((ct l' (kk s' b) : Nat) : Int) = l) := by
 unfold hld
 rw [hk.1, hk.2]
 rw [Bool.eq_iff_iff]
 simp only [Bool.and_eq_true, decide_eq_true_eq, Bool.true_and, and_assoc]
 exact and_congr_right fun _ => and_congr (by omega) (by omega)

theorem holds_any (s : Bool) (h l : Nat) (b : Int) (s' : Bool) (h' l' : Nat) (hh : N64 h') (hl : N64 l') (w : World) :
  Calls Tryz.prog 69 #[pfx s h l b, adr s' h' l'] w fun e w' => e = .returned (.bool (hld s h l b s' h' l')) ∧ Below w.heap.size w w' := by
 obtain ⟨R, hR⟩ : ∃ R, hld s h l b s' h' l' = R := ⟨_, rfl⟩
 rw [hR]
 by_cases hk : vld s' h' l' = true ∧ okn s' b = true
 ·have e1 := ofP_yes hk
  rw [hld_if hk] at hR
  obtain ⟨X, hX⟩ : ∃ X, ((ct h' (kk s' b - 64) : Nat) : Int) = X := ⟨_, rfl⟩
  obtain ⟨Y, hY⟩ : ∃ Y, ((ct l' (kk s' b) : Nat) : Int) = Y := ⟨_, rfl⟩
  rw [hX, hY] at e1 hR
  obtain ⟨H, hH⟩ : ∃ H : Int, (h : Int) = H := ⟨_, rfl⟩
  obtain ⟨M, hM⟩ : ∃ M : Int, (l : Int) = M := ⟨_, rfl⟩
  rw [hH, hM] at hR
  rw [hH, hM]
  have HO := lH (fun w => ofP_at s' h' l' b hh hl e1 w)
  clear e1 hk hX hY hH hM
  have HR := lH hR
  clear hR
  by_cases c : s' = s ∧ X = H ∧ Y = M
  ·obtain ⟨rfl, rfl, rfl⟩ := c
   go_enter Tryz.func69, Tryz.ntmps69
   go_wp2_with fail
   refine cZm (HO.out _) ?_
   rintro e w1 ⟨rfl, hb⟩
   have K1 := lH ((Blk.new w 30 #[.bool s', .int .u64 X, .int .u64 Y, .int .i64 b]).alloc (.cells #[.bool s', .int .u64 h', .int .u64 l'] 28) |>.below hb (by simp only [zA]; omega))
   have Q1 := lH ((Blk.new (w.alloc (.cells #[.bool s', .int .u64 X, .int .u64 Y, .int .i64 b] 30)) 28 #[.bool s', .int .u64 h', .int .u64 l']).below hb (by simp only [zA]; omega))
   rw [zA] at Q1
   have L1 := lH ((((Below.refl _ w).alloc (Nat.le_refl _) _).alloc (by simp) _).trans (hb.mono (by simp only [zA]; omega)))
   have s1 : w.heap.size + 1 < w1.heap.size := by have := hb.size; simp only [zA] at this; omega
   clear hb
   obtain ⟨f0, f1, f2, f3⟩ := K1.out.c4
   obtain ⟨g0, g1, g2⟩ := Q1.out.c3
   have N1 := lH (L1.out.alloc L1.out.size (.cells #[.bool s', .int .u64 X, .int .u64 Y, .int .i64 b] 30))
   have K9 := lH (K1.out.alloc (.cells #[.bool s', .int .u64 X, .int .u64 Y, .int .i64 b] 30))
   obtain ⟨m0, m1, m2, m3⟩ := K9.out.c4
   go_wp2
   go_ret
   exact ⟨ret_bool (by rw [← HR.out]; simp [*]), N1.out⟩
  ·by_cases c1 : s' = s
   ·subst c1
    by_cases c2 : X = H
    ·subst c2
     have c3 : ¬ Y = M := fun e => c ⟨rfl, rfl, e⟩
     go_enter Tryz.func69, Tryz.ntmps69
     go_wp2_with fail
     refine cZm (HO.out _) ?_
     rintro e w1 ⟨rfl, hb⟩
     have K1 := lH ((Blk.new w 30 #[.bool s', .int .u64 X, .int .u64 M, .int .i64 b]).alloc (.cells #[.bool s', .int .u64 h', .int .u64 l'] 28) |>.below hb (by simp only [zA]; omega))
     have Q1 := lH ((Blk.new (w.alloc (.cells #[.bool s', .int .u64 X, .int .u64 M, .int .i64 b] 30)) 28 #[.bool s', .int .u64 h', .int .u64 l']).below hb (by simp only [zA]; omega))
     rw [zA] at Q1
     have L1 := lH ((((Below.refl _ w).alloc (Nat.le_refl _) _).alloc (by simp) _).trans (hb.mono (by simp only [zA]; omega)))
     have s1 : w.heap.size + 1 < w1.heap.size := by have := hb.size; simp only [zA] at this; omega
     clear hb
     obtain ⟨f0, f1, f2, f3⟩ := K1.out.c4
     obtain ⟨g0, g1, g2⟩ := Q1.out.c3
     have N1 := lH (L1.out.alloc L1.out.size (.cells #[.bool s', .int .u64 X, .int .u64 Y, .int .i64 b] 30))
     have K9 := lH (K1.out.alloc (.cells #[.bool s', .int .u64 X, .int .u64 Y, .int .i64 b] 30))
     obtain ⟨m0, m1, m2, m3⟩ := K9.out.c4
     go_wp2
     go_ret
     exact ⟨ret_bool (by rw [← HR.out]; simp [*]), N1.out⟩
    ·skip
     go_enter Tryz.func69, Tryz.ntmps69
     go_wp2_with fail
     refine cZm (HO.out _) ?_
     rintro e w1 ⟨rfl, hb⟩
     have K1 := lH ((Blk.new w 30 #[.bool s', .int .u64 H, .int .u64 M, .int .i64 b]).alloc (.cells #[.bool s', .int .u64 h', .int .u64 l'] 28) |>.below hb (by simp only [zA]; omega))
     have Q1 := lH ((Blk.new (w.alloc (.cells #[.bool s', .int .u64 H, .int .u64 M, .int .i64 b] 30)) 28 #[.bool s', .int .u64 h', .int .u64 l']).below hb (by simp only [zA]; omega))
     rw [zA] at Q1
     have L1 := lH ((((Below.refl _ w).alloc (Nat.le_refl _) _).alloc (by simp) _).trans (hb.mono (by simp only [zA]; omega)))
     have s1 : w.heap.size + 1 < w1.heap.size := by have := hb.size; simp only [zA] at this; omega
     clear hb
     obtain ⟨f0, f1, f2, f3⟩ := K1.out.c4
     obtain ⟨g0, g1, g2⟩ := Q1.out.c3
     have N1 := lH (L1.out.alloc L1.out.size (.cells #[.bool s', .int .u64 X, .int .u64 Y, .int .i64 b] 30))
     have K9 := lH (K1.out.alloc (.cells #[.bool s', .int .u64 X, .int .u64 Y, .int .i64 b] 30))
     obtain ⟨m0, m1, m2, m3⟩ := K9.out.c4
     go_wp2
     go_ret
     exact ⟨ret_bool (by rw [← HR.out]; simp [*]), N1.out⟩
   ·cases s <;> cases s'
    ·exact absurd rfl c1
    ·skip
     go_enter Tryz.func69, Tryz.ntmps69
     go_wp2_with fail
     refine cZm (HO.out _) ?_
     rintro e w1 ⟨rfl, hb⟩
     have K1 := lH ((Blk.new w 30 #[.bool false, .int .u64 H, .int .u64 M, .int .i64 b]).alloc (.cells #[.bool true, .int .u64 h', .int .u64 l'] 28) |>.below hb (by simp only [zA]; omega))
     have Q1 := lH ((Blk.new (w.alloc (.cells #[.bool false, .int .u64 H, .int .u64 M, .int .i64 b] 30)) 28 #[.bool true, .int .u64 h', .int .u64 l']).below hb (by simp only [zA]; omega))
     rw [zA] at Q1
     have L1 := lH ((((Below.refl _ w).alloc (Nat.le_refl _) _).alloc (by simp) _).trans (hb.mono (by simp only [zA]; omega)))
     have s1 : w.heap.size + 1 < w1.heap.size := by have := hb.size; simp only [zA] at this; omega
     clear hb
     obtain ⟨f0, f1, f2, f3⟩ := K1.out.c4
     obtain ⟨g0, g1, g2⟩ := Q1.out.c3
     have N1 := lH (L1.out.alloc L1.out.size (.cells #[.bool true, .int .u64 X, .int .u64 Y, .int .i64 b] 30))
     have K9 := lH (K1.out.alloc (.cells #[.bool true, .int .u64 X, .int .u64 Y, .int .i64 b] 30))
     obtain ⟨m0, m1, m2, m3⟩ := K9.out.c4
     go_wp2
     go_ret
     exact ⟨ret_bool (by rw [← HR.out]; simp [*]), N1.out⟩
    ·skip
     go_enter Tryz.func69, Tryz.ntmps69
     go_wp2_with fail
     refine cZm (HO.out _) ?_
     rintro e w1 ⟨rfl, hb⟩
     have K1 := lH ((Blk.new w 30 #[.bool true, .int .u64 H, .int .u64 M, .int .i64 b]).alloc (.cells #[.bool false, .int .u64 h', .int .u64 l'] 28) |>.below hb (by simp only [zA]; omega))
     have Q1 := lH ((Blk.new (w.alloc (.cells #[.bool true, .int .u64 H, .int .u64 M, .int .i64 b] 30)) 28 #[.bool false, .int .u64 h', .int .u64 l']).below hb (by simp only [zA]; omega))
     rw [zA] at Q1
     have L1 := lH ((((Below.refl _ w).alloc (Nat.le_refl _) _).alloc (by simp) _).trans (hb.mono (by simp only [zA]; omega)))
     have s1 : w.heap.size + 1 < w1.heap.size := by have := hb.size; simp only [zA] at this; omega
     clear hb
     obtain ⟨f0, f1, f2, f3⟩ := K1.out.c4
     obtain ⟨g0, g1, g2⟩ := Q1.out.c3
     have N1 := lH (L1.out.alloc L1.out.size (.cells #[.bool false, .int .u64 X, .int .u64 Y, .int .i64 b] 30))
     have K9 := lH (K1.out.alloc (.cells #[.bool false, .int .u64 X, .int .u64 Y, .int .i64 b] 30))
     obtain ⟨m0, m1, m2, m3⟩ := K9.out.c4
     go_wp2
     go_ret
     exact ⟨ret_bool (by rw [← HR.out]; simp [*]), N1.out⟩
    ·exact absurd rfl c1
 ·have e1 := ofP_no hk
  have HO := lH (fun w => ofP_at s' h' l' b hh hl e1 w)
  rw [hld_not hk] at hR
  subst hR
  clear e1 hk
  go_enter Tryz.func69, Tryz.ntmps69
  go_wp2_with fail
  refine cZm (HO.out _) ?_
  rintro e w1 ⟨rfl, hb⟩
  have K1 := lH ((Blk.new w 30 #[.bool s, .int .u64 h, .int .u64 l, .int .i64 b]).alloc (.cells #[.bool s', .int .u64 h', .int .u64 l'] 28) |>.below hb (by simp only [zA]; omega))
  have Q1 := lH ((Blk.new (w.alloc (.cells #[.bool s, .int .u64 h, .int .u64 l, .int .i64 b] 30)) 28 #[.bool s', .int .u64 h', .int .u64 l']).below hb (by simp only [zA]; omega))
  rw [zA] at Q1
  have L1 := lH ((((Below.refl _ w).alloc (Nat.le_refl _) _).alloc (by simp) _).trans (hb.mono (by simp only [zA]; omega)))
  have s1 : w.heap.size + 1 < w1.heap.size := by have := hb.size; simp only [zA] at this; omega
  clear hb
  obtain ⟨f0, f1, f2, f3⟩ := K1.out.c4
  obtain ⟨g0, g1, g2⟩ := Q1.out.c3
  have N1 := lH (L1.out.alloc L1.out.size (.cells #[.bool false, .int .u64 0, .int .u64 0, .int .i64 0] 30))
  go_wp2
  go_ret
  exact ⟨rfl, N1.out⟩

theorem holds_at (s : Bool) (h l : Nat) (b : Int) (s' : Bool) (h' l' : Nat) (hh : N64 h') (hl : N64 l') {v : Bool} (e : hld s h l b s' h' l' = v) (w : World) :
  Calls Tryz.prog 69 #[pfx s h l b, adr s' h' l'] w fun e w' => e = .returned (.bool v) ∧ Below w.heap.size w w' := by
 subst e; exact holds_any s h l b s' h' l' hh hl w
theorem pvalid_at (s : Bool) (h l : Nat) (b : Int) (hh : N64 h) (hl : N64 l) {v : Bool} (e : pvl s h l b = v) (w : World) :
  Calls Tryz.prog 106 #[pfx s h l b] w fun e w' => e = .returned (.bool v) ∧ Below w.heap.size w w' := by
 have H := lH (fun w => holds_at s h l b s h l hh hl e w)
 clear e
 go_enter Tryz.func106, Tryz.ntmps106
 go_wp2_with fail
 refine cZm (H.out _) ?_
 rintro e w1 ⟨rfl, hb⟩
 have L1 := lH (((Below.refl _ w).alloc (Nat.le_refl _) _).trans (hb.mono (by simp only [zA]; omega)))
 clear hb
 go_wp2
 go_ret
 exact ⟨rfl, L1.out⟩

end Go.Proofs.YtgfkmgbcajdcdaaGreatDoor
