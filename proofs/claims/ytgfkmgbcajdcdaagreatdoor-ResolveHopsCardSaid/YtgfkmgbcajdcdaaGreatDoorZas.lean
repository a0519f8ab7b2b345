/-
  Several texts in one: PRof, PLast, PRCut, PRVl.
-/
import Derived.Test.YtgfkmgbcajdcdaaGreatDoorZar
import Derived.StillTailTactics
import Derived.Test.YtgfkmgbcajdcdaaGreatDoorZad
import Derived.Deep.RegionHeld3
import Derived.BigGuard
import Derived.Test.YtgfkmgbcajdcdaaGreatDoorZaa
set_option linter.unusedVariables false
set_option maxRecDepth 100000
set_option maxHeartbeats 16000000
namespace Go.Proofs.YtgfkmgbcajdcdaaGreatDoor
open Go.RowKit

def Bin (zs : List Int) : Prop := ∀ z ∈ zs, 0 ≤ z ∧ z ≤ 1
theorem f2_bd : ∀ (k : Nat) (zs : List Int), Bin zs → 0 ≤ f2 (zs.take k) ∧ f2 (zs.take k) < ((2 ^ k : Nat) : Int)
 | 0, zs, h => by rw [List.take_zero]; exact ⟨Int.le_refl _, by decide⟩
 | k + 1, zs, h => by
  obtain ⟨a, b⟩ := f2_bd k zs h
  rw [Nat.pow_succ]
  cases hz : zs[k]? with
  | none =>
   rw [List.take_add_one, hz]
   simp only [Option.toList_none, List.append_nil]
   omega
  | some z =>
   have hb := h z (List.mem_of_getElem? hz)
   rw [List.take_add_one, hz]
   show 0 ≤ f2 (_ ++ [z]) ∧ _
   rw [Option.toList_some, f2_snoc]
   omega
theorem f2_next {zs : List Int} {k : Nat} {z : Int} (h : zs[k]? = some z) : f2 (zs.take (k + 1)) = f2 (zs.take k) * 2 + z := by
 rw [List.take_add_one, h, Option.toList_some, f2_snoc]
theorem Bin.drop {zs : List Int} (h : Bin zs) (k : Nat) : Bin (zs.drop k) := fun z hz => h z (List.mem_of_mem_drop hz)
theorem two63 {j : Nat} (h : j ≤ 63) : ((2 ^ j : Nat) : Int) ≤ 9223372036854775808 := by
 have : (2 : Nat) ^ j ≤ 2 ^ 63 := Nat.pow_le_pow_right (by decide) h
 omega

theorem rof_four (w : World) (B c : Nat) (A : Option Addr) (zs : List Int) (hz : RI .i64 w B A 32 zs) (hB : B ≤ w.heap.size) (hb : Bin zs) :
  Calls Tryz.prog 142 #[.bool false, .slice A 32 c] w fun e w' => e = .returned (adr false 0 (f2 zs)) ∧ Below w.heap.size w w' := by
 obtain ⟨b, o, rfl, hbk, hcell⟩ := hz.2.1 (by decide)
 have hlen := hz.1
 have HC := lH hcell
 have HL := lH hlen
 have HBn := lH hb
 have hbw : b < w.heap.size := by omega
 clear hz hcell hlen hb
 go_enter Tryz.func142, Tryz.ntmps142
 go_wp2
 go_loopw [6] (fun i wr => ∃ (k : Nat) (X Y : Int), k ≤ 32 ∧ i = .int .i64 (k : Int) ∧ Blk wr (w.heap.size + 1) 28 #[.bool false, .int .u64 X, .int .u64 Y] ∧ Blk wr w.heap.size 28 #[.bool false, .int .u64 0, .int .u64 0] ∧ Below w.heap.size w wr ∧ Hid (X = 0 ∧ Y = f2 (zs.take k))) (fun i wr => (32 - intOf i).toNat)
 case atStart =>
  have h1 := Blk.new (w.alloc (.cells #[.bool false, .int .u64 0, .int .u64 0] 28)) 28 #[.bool false, .int .u64 0, .int .u64 0]
  rw [zA] at h1
  exact ⟨0, 0, 0, by decide, rfl, h1, (Blk.new w _ _).alloc _, ((Below.refl _ w).alloc (Nat.le_refl _) _).alloc (by simp) _, lH (by simp [f2])⟩
 case round =>
  obtain ⟨k, X, Y, hk, rfl, hg, hr, hbel, hxy⟩ := hrel
  have HG := lH hg
  have HR := lH hr
  have HBl := lH hbel
  have sw := hbel.size
  by_cases hlt : k < 32
  ·obtain ⟨z, hzk⟩ : ∃ z, zs[k]? = some z := ⟨_, List.getElem?_eq_getElem (by rw [HL.out]; exact hlt)⟩
   have hzb := HBn.out z (List.mem_of_getElem? hzk)
   have d0 := HC.out _ _ hzk
   have d1 := (hbel.cell (p := ⟨b, o + k, none⟩) hbw).trans d0
   have HZ := lH hzk
   clear d0 hzk hg hr hbel
   have hklt : (k : Int) < 32 := by omega
   have hk0 : (0 : Int) ≤ k := by omega
   have hwz : IntKind.u64.wrap z = z := by rw [IntKind.wrap_u64]; omega
   obtain ⟨c0, c1, c2⟩ := HG.out.c3
   have hb2 : 0 ≤ Y ∧ Y < 9223372036854775808 := by
    obtain ⟨e1, e2⟩ := hxy.out
    rw [e2]
    have h1 := f2_bd k zs HBn.out
    have h2 := two63 (j := k) (by omega)
    exact ⟨h1.1, Int.lt_of_lt_of_le h1.2 h2⟩
   have hw2 : IntKind.u64.wrap (Y * 2) = Y * 2 := by rw [IntKind.wrap_u64]; omega
   have hw3 : IntKind.u64.wrap (Y * 2 + z) = Y * 2 + z := by rw [IntKind.wrap_u64]; omega
   have y1 := HG.out.frozen 2
   go_wp2
   go_still_tail 10, (by kernel_rfl)
   go_wp2
   have HG2 := lH (HG.out.set_ 2 (.int .u64 (Y * 2 + z)))
   have HR2 := lH (HR.out.far (p := ⟨w.heap.size + 1, 2, none⟩) (by simp) (.int .u64 (Y * 2 + z)))
   have HL2 := lH (HBl.out.setCell (p := ⟨w.heap.size + 1, 2, none⟩) (by simp) (.int .u64 (Y * 2 + z)))
   go_roundw
   case rel => exact ⟨k + 1, X, (Y * 2 + z), by omega, by go_num, HG2.out, HR2.out, HL2.out.drew, lH (by
    obtain ⟨e1, e2⟩ := hxy.out
    exact ⟨e1, by rw [f2_next HZ.out, ← e2]⟩)⟩
   case measure => simp [intOf]; omega
  ·obtain rfl : k = 32 := by omega
   obtain ⟨c0, c1, c2⟩ := HG.out.c3
   obtain ⟨r0, r1, r2⟩ := HR.out.c3
   have z0 := HR.out.frozen 0
   have z1 := HR.out.frozen 1
   have z2 := HR.out.frozen 2
   clear hg hr hbel
   go_wp2
   refine bodyPost_ret (v := adr false X Y) (by simp [results, Tryz.results142, go_sem, r0, r1, r2]) rfl ⟨?_, ?_⟩
   ·obtain ⟨e1, e2⟩ := hxy.out
    rw [List.take_of_length_le (by rw [HL.out]; exact Nat.le_refl _)] at e2
    rw [e1, e2]
   ·iterate 3 refine Below.setCell ?_ (by simp) _
    exact HBl.out

theorem rof_six (w : World) (B c : Nat) (A : Option Addr) (zs : List Int) (hz : RI .i64 w B A 128 zs) (hB : B ≤ w.heap.size) (hb : Bin zs) :
  Calls Tryz.prog 142 #[.bool true, .slice A 128 c] w fun e w' => e = .returned (adr true (f2 (zs.take 64)) (f2 (zs.drop 64))) ∧ Below w.heap.size w w' := by
 obtain ⟨b, o, rfl, hbk, hcell⟩ := hz.2.1 (by decide)
 have hlen := hz.1
 have HC := lH hcell
 have HL := lH hlen
 have HBn := lH hb
 have hbw : b < w.heap.size := by omega
 clear hz hcell hlen hb
 go_enter Tryz.func142, Tryz.ntmps142
 go_wp2
 go_loopw [6] (fun i wr => ∃ (k : Nat) (X Y : Int), k ≤ 128 ∧ i = .int .i64 (k : Int) ∧ Blk wr (w.heap.size + 1) 28 #[.bool true, .int .u64 X, .int .u64 Y] ∧ Blk wr w.heap.size 28 #[.bool false, .int .u64 0, .int .u64 0] ∧ Below w.heap.size w wr ∧ Hid (X = f2 (zs.take (min k 64)) ∧ Y = f2 ((zs.take k).drop 64))) (fun i wr => (128 - intOf i).toNat)
 case atStart =>
  have h1 := Blk.new (w.alloc (.cells #[.bool false, .int .u64 0, .int .u64 0] 28)) 28 #[.bool true, .int .u64 0, .int .u64 0]
  rw [zA] at h1
  exact ⟨0, 0, 0, by decide, rfl, h1, (Blk.new w _ _).alloc _, ((Below.refl _ w).alloc (Nat.le_refl _) _).alloc (by simp) _, lH (by simp [f2])⟩
 case round =>
  obtain ⟨k, X, Y, hk, rfl, hg, hr, hbel, hxy⟩ := hrel
  have HG := lH hg
  have HR := lH hr
  have HBl := lH hbel
  have sw := hbel.size
  by_cases hlt : k < 128
  ·obtain ⟨z, hzk⟩ : ∃ z, zs[k]? = some z := ⟨_, List.getElem?_eq_getElem (by rw [HL.out]; exact hlt)⟩
   have hzb := HBn.out z (List.mem_of_getElem? hzk)
   have d0 := HC.out _ _ hzk
   have d1 := (hbel.cell (p := ⟨b, o + k, none⟩) hbw).trans d0
   have HZ := lH hzk
   clear d0 hzk hg hr hbel
   have hklt : (k : Int) < 128 := by omega
   have hk0 : (0 : Int) ≤ k := by omega
   have hwz : IntKind.u64.wrap z = z := by rw [IntKind.wrap_u64]; omega
   obtain ⟨c0, c1, c2⟩ := HG.out.c3
   by_cases hk64 : k < 64
   ·skip
    have hb2 : 0 ≤ X ∧ X < 9223372036854775808 := by
     obtain ⟨e1, e2⟩ := hxy.out
     rw [show min k 64 = k by omega] at e1
     rw [e1]
     have h1 := f2_bd k zs HBn.out
     have h2 := two63 (j := k) (by omega)
     exact ⟨h1.1, Int.lt_of_lt_of_le h1.2 h2⟩
    have hw2 : IntKind.u64.wrap (X * 2) = X * 2 := by rw [IntKind.wrap_u64]; omega
    have hw3 : IntKind.u64.wrap (X * 2 + z) = X * 2 + z := by rw [IntKind.wrap_u64]; omega
    have h64 : (k : Int) < 64 := by omega
    have y1 := HG.out.frozen 1
    go_wp2
    go_still_tail 10, (by kernel_rfl)
    go_wp2
    have HG2 := lH (HG.out.set_ 1 (.int .u64 (X * 2 + z)))
    have HR2 := lH (HR.out.far (p := ⟨w.heap.size + 1, 1, none⟩) (by simp) (.int .u64 (X * 2 + z)))
    have HL2 := lH (HBl.out.setCell (p := ⟨w.heap.size + 1, 1, none⟩) (by simp) (.int .u64 (X * 2 + z)))
    go_roundw
    case rel => exact ⟨k + 1, (X * 2 + z), Y, by omega, by go_num, HG2.out, HR2.out, HL2.out.drew, lH (by
     obtain ⟨e1, e2⟩ := hxy.out
     refine ⟨?_, ?_⟩
     ·rw [show min (k + 1) 64 = k + 1 by omega, f2_next HZ.out]
      rw [show min k 64 = k by omega] at e1
      rw [← e1]
     ·rw [e2, List.drop_eq_nil_of_le (by rw [List.length_take]; omega), List.drop_eq_nil_of_le (by rw [List.length_take]; omega)])⟩
    case measure => simp [intOf]; omega
   ·skip
    have hb2 : 0 ≤ Y ∧ Y < 9223372036854775808 := by
     obtain ⟨e1, e2⟩ := hxy.out
     rw [List.drop_take] at e2
     rw [e2]
     have h1 := f2_bd (k - 64) (zs.drop 64) (HBn.out.drop 64)
     have h2 := two63 (j := k - 64) (by omega)
     exact ⟨h1.1, Int.lt_of_lt_of_le h1.2 h2⟩
    have hw2 : IntKind.u64.wrap (Y * 2) = Y * 2 := by rw [IntKind.wrap_u64]; omega
    have hw3 : IntKind.u64.wrap (Y * 2 + z) = Y * 2 + z := by rw [IntKind.wrap_u64]; omega
    have h64 : ¬ (k : Int) < 64 := by omega
    have y1 := HG.out.frozen 2
    go_wp2
    go_still_tail 10, (by kernel_rfl)
    go_wp2
    have HG2 := lH (HG.out.set_ 2 (.int .u64 (Y * 2 + z)))
    have HR2 := lH (HR.out.far (p := ⟨w.heap.size + 1, 2, none⟩) (by simp) (.int .u64 (Y * 2 + z)))
    have HL2 := lH (HBl.out.setCell (p := ⟨w.heap.size + 1, 2, none⟩) (by simp) (.int .u64 (Y * 2 + z)))
    go_roundw
    case rel => exact ⟨k + 1, X, (Y * 2 + z), by omega, by go_num, HG2.out, HR2.out, HL2.out.drew, lH (by
     obtain ⟨e1, e2⟩ := hxy.out
     refine ⟨?_, ?_⟩
     ·rw [show min (k + 1) 64 = 64 by omega]
      rw [show min k 64 = 64 by omega] at e1
      exact e1
     ·rw [List.drop_take] at e2 ⊢
      rw [show k + 1 - 64 = (k - 64) + 1 by omega, f2_next (z := z) (by rw [List.getElem?_drop, show 64 + (k - 64) = k by omega]; exact HZ.out), ← e2])⟩
    case measure => simp [intOf]; omega
  ·obtain rfl : k = 128 := by omega
   obtain ⟨c0, c1, c2⟩ := HG.out.c3
   obtain ⟨r0, r1, r2⟩ := HR.out.c3
   have z0 := HR.out.frozen 0
   have z1 := HR.out.frozen 1
   have z2 := HR.out.frozen 2
   clear hg hr hbel
   go_wp2
   refine bodyPost_ret (v := adr true X Y) (by simp [results, Tryz.results142, go_sem, r0, r1, r2]) rfl ⟨?_, ?_⟩
   ·obtain ⟨e1, e2⟩ := hxy.out
    rw [List.take_of_length_le (by rw [HL.out]; exact Nat.le_refl _)] at e2
    rw [e1, e2, show min 128 64 = 64 from rfl]
   ·iterate 3 refine Below.setCell ?_ (by simp) _
    exact HBl.out

theorem rof_any (s : Bool) (h l : Nat) (hh : N64 h) (hl : N64 l) (hv : nm h l < 2 ^ wd s) (w : World) (B c : Nat) (A : Option Addr) (zs : List Int) (hz : RI .i64 w B A (wd s) zs) (hB : B ≤ w.heap.size) (hb : IsBits (nm h l) (wd s) zs) :
  Calls Tryz.prog 142 #[.bool s, .slice A (wd s) c] w fun e w' => e = .returned (adr s h l) ∧ Below w.heap.size w w' := by
 have hbin : Bin zs := by
  intro z hz
  obtain ⟨i, hi, e⟩ := List.getElem_of_mem hz
  have h1 := hb.2 i (by rw [← hb.1]; exact hi)
  rw [List.getElem?_eq_getElem hi, e] at h1
  injection h1 with h1
  have := bt_le (nm h l) (wd s) i
  omega
 cases s
 ·have H := rof_four w B c A zs hz hB hbin
  have e0 : h = 0 := by
   have : wd false = 32 := rfl
   rw [this] at hv
   unfold nm at hv
   omega
  rw [f2_all hb hv] at H
  subst e0
  have e1 : nm 0 l = l := by unfold nm; omega
  rw [e1] at H
  exact H
 ·have H := rof_six w B c A zs hz hB hbin
  rw [f2_hi hb hh.lt hl.lt, f2_lo hb hl.lt] at H
  exact H
end Go.Proofs.YtgfkmgbcajdcdaaGreatDoor

namespace Go.Proofs.YtgfkmgbcajdcdaaGreatDoor
open Go.RowKit

end Go.Proofs.YtgfkmgbcajdcdaaGreatDoor

namespace Go.Proofs.YtgfkmgbcajdcdaaGreatDoor
open Go.RowKit

theorem make_ints (n : Nat) (h : n ≤ 1000) (w : World) :
  (Instr.makeSlice 147 (.int .i64 (n : Int)) (.int .i64 (n : Int))).run Tryz.prog w = .ok (.slice (some ⟨w.heap.size, 0, none⟩) n n) (w.alloc (.cells (madeCells #[.int .i64 0] n) 3)) :=
 run_make_row' (P := Tryz.prog) 147 3 (.int .i64 0) 8 Tryz.underlying147 (by kernel_rfl) rfl .i64 .i64 n (by omega) (by omega) w
theorem made_ints (n : Nat) : madeCells #[.int .i64 0] n = (((List.replicate n (0 : Int)).map (Value.int .i64)).toArray) := by
 apply Array.ext
 ·simp [madeCells]
 ·intro i h1 h2
  simp [madeCells, Nat.mod_one]
theorem Blk.reads64 {w : World} {g : Nat} {t : TypeId} {zs : List Int} (h : Blk w g t ((zs.map (Value.int .i64)).toArray)) (hw : ∀ z ∈ zs, (Lit.int .i64 z).wf = true) {B : Nat} (hB : g < B) : RI .i64 w B (some ⟨g, 0, none⟩) zs.length zs :=
 ⟨rfl, fun _ => ⟨g, 0, rfl, hB, fun j z hz => by rw [h.cell]; simp [hz]⟩, hw⟩

def bl (n W m : Nat) : List Int := (List.range W).map fun i => if i < m then ((bt n W i : Nat) : Int) else 0
theorem bl_len (n W m : Nat) : (bl n W m).length = W := by simp [bl]
theorem bl_get (n W m i : Nat) (h : i < W) : (bl n W m)[i]? = some (if i < m then ((bt n W i : Nat) : Int) else 0) := by
 unfold bl
 rw [List.getElem?_map, List.getElem?_range h]
 rfl
theorem bl_zero (n W : Nat) : List.replicate W (0 : Int) = bl n W 0 := by
 apply List.ext_getElem?
 intro i
 by_cases h : i < W
 ·rw [bl_get n W 0 i h, List.getElem?_replicate, if_pos h]; simp
 ·rw [List.getElem?_eq_none (by simp; omega), List.getElem?_eq_none (by rw [bl_len]; omega)]
theorem bl_set (n W m : Nat) (h : m < W) : (((bl n W m).map (Value.int .i64)).toArray).setIfInBounds m (.int .i64 ((bt n W m : Nat) : Int)) = ((bl n W (m + 1)).map (Value.int .i64)).toArray := by
 have e : (bl n W m).set m ((bt n W m : Nat) : Int) = bl n W (m + 1) := by
  apply List.ext_getElem?
  intro i
  rw [List.getElem?_set]
  by_cases hi : i < W
  ·by_cases e : m = i
   ·subst e
    rw [if_pos rfl, if_pos (by rw [bl_len]; exact h), bl_get n W (m + 1) m h, if_pos (by omega)]
   ·rw [if_neg e, bl_get n W m i hi, bl_get n W (m + 1) i hi]
    by_cases h1 : i < m
    ·rw [if_pos h1, if_pos (by omega)]
    ·rw [if_neg h1, if_neg (by omega)]
  ·rw [if_neg (by omega), List.getElem?_eq_none (by rw [bl_len]; omega), List.getElem?_eq_none (by rw [bl_len]; omega)]
 rw [← e]
 simp [List.map_set]
theorem bl_bits (n W m : Nat) (h : m ≤ W) : IsBits (ct n (W - m)) W (bl n W m) := by
 refine ⟨bl_len _ _ _, fun i hi => ?_⟩
 rw [bl_get n W m i hi, bt_ct n W m i h hi]
 split <;> rfl
theorem bin_wf {zs : List Int} (h : ∀ z ∈ zs, 0 ≤ z ∧ z ≤ 1) : ∀ z ∈ zs, (Lit.int .i64 z).wf = true := by
 intro z hz
 have := h z hz
 simp [Lit.wf, IntKind.min, IntKind.max, IntKind.bits, IntKind.signed]; omega
theorem bits_bin {n W : Nat} {zs : List Int} (hb : IsBits n W zs) : ∀ z ∈ zs, 0 ≤ z ∧ z ≤ 1 := by
 intro z hz
 obtain ⟨i, hi, e⟩ := List.getElem_of_mem hz
 have h1 := hb.2 i (by rw [← hb.1]; exact hi)
 rw [List.getElem?_eq_getElem hi, e] at h1
 injection h1 with h1
 have := bt_le n W i
 omega

theorem rcut_any (s : Bool) (h l m : Nat) (hh : N64 h) (hl : N64 l) (v : vld s h l = true) (hm : m ≤ wd s) (w : World) :
  Calls Tryz.prog 104 #[adr s h l, .int .i64 m] w fun e w' => e = .returned (adr s (ct h (wd s - m - 64) : Nat) (ct l (wd s - m) : Nat)) ∧ Below w.heap.size w w' := by
 obtain ⟨W, hW⟩ : ∃ W, W = wd s := ⟨_, rfl⟩
 have W1 : W ≤ 128 := by rw [hW]; unfold wd; split <;> omega
 have HW := lH (fun w => rwidth_at s h l (W : Int) (by rw [hW]) w)
 have HB := lH (fun (i b : Nat) (hi : i < wd s) (e : bt (nm h l) (wd s) i = b) w => rbit_any s h l i hh hl v hi e w)
 have hN := nm_wd hh hl v
 have HO := lH (fun (w : World) (B c : Nat) (A : Option Addr) zs hz hB hb => rof_any s (ct h (wd s - m - 64)) (ct l (wd s - m)) (Nat.lt_of_le_of_lt (ct_le _ _) hh) (Nat.lt_of_le_of_lt (ct_le _ _) hl) (by rw [← nm_ct h l _ hl.lt]; exact Nat.lt_of_le_of_lt (ct_le _ _) hN) w B c A zs hz hB hb)
 have HBL := lH (bl_bits (nm h l) (wd s) m hm)
 rw [nm_ct h l _ hl.lt] at HBL
 obtain ⟨X, hX⟩ : ∃ X : Int, ((ct h (wd s - m - 64) : Nat) : Int) = X := ⟨_, rfl⟩
 obtain ⟨Y, hY⟩ : ∃ Y : Int, ((ct l (wd s - m) : Nat) : Int) = Y := ⟨_, rfl⟩
 rw [hX, hY] at HO ⊢
 rw [← hW] at HB HO HBL hm
 obtain ⟨N, hNN⟩ : ∃ N, N = nm h l := ⟨_, rfl⟩
 have hHB : Hid (∀ (i b : Nat), i < W → bt N W i = b → ∀ w, Calls Tryz.prog 141 #[adr s h l, .int .i64 i] w fun e w' => e = .returned (.int .i64 b) ∧ Below w.heap.size w w') := by rw [hNN]; exact HB
 have hMI := lH hm
 clear HB hW v hN hX hY hh hl
 rw [← hNN] at HBL
 have hm' : m ≤ W := hm
 clear hNN hm
 go_enter Tryz.func104, Tryz.ntmps104
 go_wp2_with fail
 refine cZm (HW.out _) ?_
 rintro e w1 ⟨rfl, hb⟩
 have K1 := lH ((Blk.new w 28 #[.bool s, .int .u64 h, .int .u64 l]).alloc (.cells #[.bool false, .int .u64 0, .int .u64 0] 28) |>.below hb (by simp only [zA]; omega))
 have R1 := lH ((Blk.new (w.alloc (.cells #[.bool s, .int .u64 h, .int .u64 l] 28)) 28 #[.bool false, .int .u64 0, .int .u64 0]).below hb (by simp only [zA]; omega))
 rw [zA] at R1
 have L1 := lH ((((Below.refl _ w).alloc (Nat.le_refl _) _).alloc (by simp) _).trans (hb.mono (by simp only [zA]; omega)))
 have s1 : w.heap.size + 1 < w1.heap.size := by have := hb.size; simp only [zA] at this; omega
 clear hb
 have hmk := make_ints W (by omega) w1
 rw [made_ints, bl_zero N W] at hmk
 have K2 := lH (K1.out.alloc (.cells ((bl N W 0).map (Value.int .i64)).toArray 3))
 have R2 := lH (R1.out.alloc (.cells ((bl N W 0).map (Value.int .i64)).toArray 3))
 have G2 := lH (Blk.new w1 3 ((bl N W 0).map (Value.int .i64)).toArray)
 have L2 := lH (L1.out.alloc L1.out.size (.cells ((bl N W 0).map (Value.int .i64)).toArray 3))
 generalize w1.alloc (.cells ((bl N W 0).map (Value.int .i64)).toArray 3) = w2 at hmk K2 R2 G2 L2
 go_wp2
 generalize w1.heap.size = g at *
 clear hmk
 go_loopw [6] (fun i wr => ∃ k : Nat, k ≤ m ∧ i = .int .i64 (k : Int) ∧ Blk wr g 3 ((bl N W k).map (Value.int .i64)).toArray ∧ Blk wr w.heap.size 28 #[.bool s, .int .u64 h, .int .u64 l] ∧ Blk wr (w.heap.size + 1) 28 #[.bool false, .int .u64 0, .int .u64 0] ∧ Below w.heap.size w wr) (fun i _ => (m - intOf i).toNat)
 case atStart => exact ⟨0, by omega, rfl, G2.out, K2.out, R2.out, L2.out⟩
 case round =>
  obtain ⟨k, hk, rfl, hg, hkk, hr, hbel⟩ := hrel
  have HG := lH hg
  have HK := lH hkk
  have HR := lH hr
  have HL := lH hbel
  obtain ⟨f0, f1, f2⟩ := hkk.c3
  clear hg hkk hr hbel
  have kW : (k : Int) ≤ W := by omega
  by_cases hlt : k < m
  ·obtain ⟨b, hb⟩ : ∃ b, bt N W k = b := ⟨_, rfl⟩
   have b1 : b ≤ 1 := by rw [← hb]; exact bt_le _ _ _
   have HBk := lH (hHB.out k b (by omega) hb)
   have HBt := lH hb
   clear hb
   have kW2 : (k : Int) < W := by omega
   have km : (k : Int) < m := by omega
   go_wp2_with fail
   refine cZm (HBk.out _) ?_
   rintro e w3 ⟨rfl, hb⟩
   clear f0 f1 f2
   have G3 := lH (HG.out.below hb HG.out.lt)
   have K3 := lH (HK.out.below hb HK.out.lt)
   have R3 := lH (HR.out.below hb HR.out.lt)
   have L3 := lH (HL.out.trans (hb.mono HL.out.size))
   clear hb
   have gc : w3.cell? ⟨g, k, none⟩ = some (.int .i64 ((if k < k then ((bt N W k : Nat) : Int) else 0))) := by
    rw [G3.out.cell]
    simp [bl_get N W k k (by omega)]
   have gz := G3.out.frozen k
   go_wp2
   have G4 := lH (G3.out.set_ k (.int .i64 b))
   have e4 := bl_set N W k (by omega)
   rw [HBt.out] at e4
   rw [e4] at G4
   have K4 := lH (K3.out.far (p := ⟨g, k, none⟩) (by simp; omega) (.int .i64 b))
   have R4 := lH (R3.out.far (p := ⟨g, k, none⟩) (by simp; omega) (.int .i64 b))
   have L4 := lH (L3.out.setCell (p := ⟨g, k, none⟩) (by simp; omega) (.int .i64 b))
   go_roundw
   case rel => exact ⟨k + 1, by omega, by go_num, G4.out, K4.out, R4.out, L4.out⟩
   case measure => simp [intOf]; omega
  ·obtain rfl : k = m := by omega
   have HOk := lH (fun (w : World) (hG : Blk w g 3 ((bl N W k).map (Value.int .i64)).toArray) => HO.out w w.heap.size W (some ⟨g, 0, none⟩) (bl N W k) (by have := hG.reads64 (bin_wf (bits_bin HBL.out)) hG.lt; rw [bl_len] at this; exact this) (Nat.le_refl _) HBL.out)
   go_wp2_with fail
   all_goals
    refine cZm (HOk.out _ HG.out) ?_
    rintro e w3 ⟨rfl, hb⟩
    have R3 := lH (HR.out.below hb HR.out.lt)
    have L3 := lH (HL.out.trans (hb.mono HL.out.size))
    clear hb f0 f1 f2
    obtain ⟨r0, r1, r2⟩ := R3.out.c3
    have z0 := R3.out.frozen 0
    have z1 := R3.out.frozen 1
    have z2 := R3.out.frozen 2
    go_wp2
    refine bodyPost_ret (v := adr s X Y) (by simp [results, Tryz.results104, go_sem, r0, r1, r2]) rfl ⟨rfl, ?_⟩
    iterate 3 refine Below.setCell ?_ (by simp) _
    exact L3.out
end Go.Proofs.YtgfkmgbcajdcdaaGreatDoor

namespace Go.Proofs.YtgfkmgbcajdcdaaGreatDoor
open Go.RowKit

theorem rpv_a (s : Bool) (h l : Nat) (b : Int) (v : vld s h l = false) (w : World) :
  Calls Tryz.prog 60 #[pfx s h l b] w fun e w' => e = .returned (.bool false) ∧ Below w.heap.size w w' := by
 have HV := lH (fun w => rvalid_at s h l w v)
 clear v
 go_enter Tryz.func60, Tryz.ntmps60
 go_wp2_with fail
 refine cZm (HV.out _) ?_
 rintro e w1 ⟨rfl, hb⟩
 have K1 := lH ((Blk.new w 30 #[.bool s, .int .u64 h, .int .u64 l, .int .i64 b]).below hb (by simp only [zA]; omega))
 have L1 := lH (((Below.refl _ w).alloc (Nat.le_refl _) _).trans (hb.mono (by simp only [zA]; omega)))
 have s1 : w.heap.size < w1.heap.size := by have := hb.size; simp only [zA] at this; omega
 clear hb
 go_wp2
 go_quiet (fail)
 go_wp2
 go_ret
 exact ⟨rfl, below_drewN L1.out _⟩

theorem rpv_b (s : Bool) (h l : Nat) (b : Int) (v : vld s h l = true) (hb0 : b < 0) (w : World) :
  Calls Tryz.prog 60 #[pfx s h l b] w fun e w' => e = .returned (.bool false) ∧ Below w.heap.size w w' := by
 have HV := lH (fun w => rvalid_at s h l w v)
 have gd : decide (0 ≤ b) = false := by simp; omega
 clear v
 go_enter Tryz.func60, Tryz.ntmps60
 go_wp2_with fail
 refine cZm (HV.out _) ?_
 rintro e w1 ⟨rfl, hb⟩
 have K1 := lH ((Blk.new w 30 #[.bool s, .int .u64 h, .int .u64 l, .int .i64 b]).below hb (by simp only [zA]; omega))
 have L1 := lH (((Below.refl _ w).alloc (Nat.le_refl _) _).trans (hb.mono (by simp only [zA]; omega)))
 have s1 : w.heap.size < w1.heap.size := by have := hb.size; simp only [zA] at this; omega
 clear hb
 obtain ⟨f0, f1, f2, f3⟩ := K1.out.c4
 go_wp2
 go_quiet (fail)
 go_wp2
 go_ret
 exact ⟨rfl, below_drewN L1.out _⟩

theorem rpv_c (s : Bool) (h l : Nat) (b W : Int) (hW : (wd s : Int) = W) (v : vld s h l = true) (hb0 : 0 ≤ b) (hb1 : W < b) (w : World) :
  Calls Tryz.prog 60 #[pfx s h l b] w fun e w' => e = .returned (.bool false) ∧ Below w.heap.size w w' := by
 have HV := lH (fun w => rvalid_at s h l w v)
 have HW := lH (fun w => rwidth_at s h l W hW w)
 have gd : decide (0 ≤ b) = true := by simp; omega
 have gd2 : decide (b ≤ W) = false := by simp; omega
 clear v hW
 go_enter Tryz.func60, Tryz.ntmps60
 go_wp2_with fail
 refine cZm (HV.out _) ?_
 rintro e w1 ⟨rfl, hb⟩
 have K1 := lH ((Blk.new w 30 #[.bool s, .int .u64 h, .int .u64 l, .int .i64 b]).below hb (by simp only [zA]; omega))
 have L1 := lH (((Below.refl _ w).alloc (Nat.le_refl _) _).trans (hb.mono (by simp only [zA]; omega)))
 have s1 : w.heap.size < w1.heap.size := by have := hb.size; simp only [zA] at this; omega
 clear hb
 have HC : Hid (∀ W', Below w1.heap.size w1 W' → W'.cell? ⟨w.heap.size, 0, none⟩ = some (.bool s) ∧ W'.cell? ⟨w.heap.size, 1, none⟩ = some (.int .u64 h) ∧ W'.cell? ⟨w.heap.size, 2, none⟩ = some (.int .u64 l) ∧ W'.cell? ⟨w.heap.size, 3, none⟩ = some (.int .i64 b)) := by
  show ∀ W', _ → _
  intro W' hB
  exact (K1.out.below hB s1).c4
 have hR : Below w1.heap.size w1 w1.drew := (Below.refl _ _).drew
 go_wp2
 refine wp_region_held_drew (S := (fun w' => w'.cell? ⟨w.heap.size, 0, none⟩ = some (.bool s) ∧ w'.cell? ⟨w.heap.size, 1, none⟩ = some (.int .u64 h) ∧ w'.cell? ⟨w.heap.size, 2, none⟩ = some (.int .u64 l) ∧ w'.cell? ⟨w.heap.size, 3, none⟩ = some (.int .i64 b))) (by kernel_rfl) ?_ (fun hHeld => ?_)
 ·exact HC.out _ hR
 refine tkH 0 ?_
 refine tkH 1 ?_
 refine tkH 2 ?_
 refine tkH 3 ?_
 refine tkH 4 ?_
 refine tkH 5 ?_
 refine tkH 6 ?_
 refine tkH 7 ?_
 refine tkH 8 ?_
 refine tkH 9 ?_
 refine tkH 10 ?_
 refine wpAnyH_ready (rs := [11]) (by kernel_rfl) (by simp) ?_
 refine AllReadyH.cons (o := { dst := some 18, op := Op.call { callee := Callee.value (Operand.func 103), args := #[Operand.tmp 17], argTypes := #[28] }, type := 3, pos := "ref.go:56", after := #[{ on := 10, ground := Ground.data }, { on := 6, ground := Ground.chain }, { on := 6, ground := Ground.guard }], guard := some (6, true) }) rfl (fun K hK => ?_) AllReadyH.nil
 go_simp
 (go_at_call 103; (with_reducible refine cZm (HW.out _) ?_); rintro e W' ⟨rfl, hb⟩; replace hR := hR.trans (hb.mono hR.size); clear hb)
 go_wp2_with fail
 refine hK.out _ _ ?_ (fun hHeld => ?_)
 ·exact HC.out _ hR
 clear hK K
 try simp only [Act.put, List.setIfInBounds_toArray, List.set_cons_zero, List.set_cons_succ]
 refine tkH 12 ?_
 refine tkH 13 ?_
 refine tkH 14 ?_
 refine tkO 15 ?_
 refine tkO 16 ?_
 refine tkO 17 ?_
 refine tkO 18 ?_
 refine tkO 19 ?_
 refine tkO 20 ?_
 refine tkO 21 ?_
 refine tkO 22 ?_
 refine tkH 23 ?_
 refine tkH 24 ?_
 refine wpAnyH_done (by kernel_rfl) ?_ _
 have L5 := lH (L1.out.trans (hR.mono L1.out.size))
 clear hR
 go_wp2
 go_ret
 exact ⟨rfl, L5.out⟩

theorem rpv_d (s : Bool) (h l : Nat) (b W : Int) (hW : (wd s : Int) = W) (v : vld s h l = true) (hh : N64 h) (hl : N64 l) (hb0 : 0 ≤ b) (hb1 : b ≤ W) (w : World) :
  Calls Tryz.prog 60 #[pfx s h l b] w fun e w' => e = .returned (.bool (decide (((ct h (kk s b - 64) : Nat) : Int) = h ∧ ((ct l (kk s b) : Nat) : Int) = l))) ∧ Below w.heap.size w w' := by
 have HV := lH (fun w => rvalid_at s h l w v)
 have HW := lH (fun w => rwidth_at s h l W hW w)
 obtain ⟨m, rfl⟩ := Int.eq_ofNat_of_zero_le hb0
 have HCu := lH (fun w => rcut_any s h l m hh hl v (by omega) w)
 have ek : kk s (m : Int) = wd s - m := rfl
 rw [ek]
 obtain ⟨X, hX⟩ : ∃ X : Int, ((ct h (wd s - m - 64) : Nat) : Int) = X := ⟨_, rfl⟩
 obtain ⟨Y, hY⟩ : ∃ Y : Int, ((ct l (wd s - m) : Nat) : Int) = Y := ⟨_, rfl⟩
 obtain ⟨A, hA⟩ : ∃ A : Int, (h : Int) = A := ⟨_, rfl⟩
 obtain ⟨B, hB⟩ : ∃ B : Int, (l : Int) = B := ⟨_, rfl⟩
 obtain ⟨b, hbm⟩ : ∃ b : Int, (m : Int) = b := ⟨_, rfl⟩
 rw [hX, hY] at HCu
 rw [hX, hY]
 rw [hA, hB] at HV HW HCu ⊢
 rw [hbm] at HCu hb0 hb1 ⊢
 have gd : decide (0 ≤ b) = true := by simp; omega
 have gd2 : decide (b ≤ W) = true := by simp; omega
 clear v hW hX hY hA hB hbm ek hh hl
 by_cases c1 : X = A
 ·subst c1
  by_cases c2 : Y = B
  ·subst c2
   go_enter Tryz.func60, Tryz.ntmps60
   go_wp2_with fail
   refine cZm (HV.out _) ?_
   rintro e w1 ⟨rfl, hb⟩
   have K1 := lH ((Blk.new w 30 #[.bool s, .int .u64 X, .int .u64 Y, .int .i64 b]).below hb (by simp only [zA]; omega))
   have L1 := lH (((Below.refl _ w).alloc (Nat.le_refl _) _).trans (hb.mono (by simp only [zA]; omega)))
   have s1 : w.heap.size < w1.heap.size := by have := hb.size; simp only [zA] at this; omega
   clear hb
   have HC : Hid (∀ W', Below w1.heap.size w1 W' → W'.cell? ⟨w.heap.size, 0, none⟩ = some (.bool s) ∧ W'.cell? ⟨w.heap.size, 1, none⟩ = some (.int .u64 X) ∧ W'.cell? ⟨w.heap.size, 2, none⟩ = some (.int .u64 Y) ∧ W'.cell? ⟨w.heap.size, 3, none⟩ = some (.int .i64 b)) := by
    show ∀ W', _ → _
    intro W' hB
    exact (K1.out.below hB s1).c4
   have hR : Below w1.heap.size w1 w1.drew := (Below.refl _ _).drew
   go_wp2
   refine wp_region_held_drew (S := (fun w' => w'.cell? ⟨w.heap.size, 0, none⟩ = some (.bool s) ∧ w'.cell? ⟨w.heap.size, 1, none⟩ = some (.int .u64 X) ∧ w'.cell? ⟨w.heap.size, 2, none⟩ = some (.int .u64 Y) ∧ w'.cell? ⟨w.heap.size, 3, none⟩ = some (.int .i64 b))) (by kernel_rfl) ?_ (fun hHeld => ?_)
   ·exact HC.out _ hR
   refine tkH 0 ?_
   refine tkH 1 ?_
   refine tkH 2 ?_
   refine tkH 3 ?_
   refine tkH 4 ?_
   refine tkH 5 ?_
   refine tkH 6 ?_
   refine tkH 7 ?_
   refine tkH 8 ?_
   refine tkH 9 ?_
   refine tkH 10 ?_
   refine wpAnyH_ready (rs := [11]) (by kernel_rfl) (by simp) ?_
   refine AllReadyH.cons (o := { dst := some 18, op := Op.call { callee := Callee.value (Operand.func 103), args := #[Operand.tmp 17], argTypes := #[28] }, type := 3, pos := "ref.go:56", after := #[{ on := 10, ground := Ground.data }, { on := 6, ground := Ground.chain }, { on := 6, ground := Ground.guard }], guard := some (6, true) }) rfl (fun K hK => ?_) AllReadyH.nil
   go_simp
   (go_at_call 103; (with_reducible refine cZm (HW.out _) ?_); rintro e W' ⟨rfl, hb⟩; replace hR := hR.trans (hb.mono hR.size); clear hb)
   go_wp2_with fail
   refine hK.out _ _ ?_ (fun hHeld => ?_)
   ·exact HC.out _ hR
   clear hK K
   try simp only [Act.put, List.setIfInBounds_toArray, List.set_cons_zero, List.set_cons_succ]
   refine tkH 12 ?_
   refine tkH 13 ?_
   refine tkH 14 ?_
   refine tkH 15 ?_
   refine tkH 16 ?_
   refine tkH 17 ?_
   refine tkH 18 ?_
   refine tkH 20 ?_
   refine tkH 21 ?_
   refine wpAnyH_ready (rs := [19]) (by kernel_rfl) (by simp) ?_
   refine AllReadyH.cons (o := { dst := some 26, op := Op.call { callee := Callee.value (Operand.func 104), args := #[Operand.tmp 23, Operand.tmp 25], argTypes := #[28, 3] }, type := 28, pos := "ref.go:56", after := #[{ on := 16, ground := Ground.data }, { on := 18, ground := Ground.data }, { on := 14, ground := Ground.chain }, { on := 14, ground := Ground.guard }], guard := some (14, true) }) rfl (fun K hK => ?_) AllReadyH.nil
   go_simp
   (go_at_call 104; (with_reducible refine cZm (HCu.out _) ?_); rintro e W' ⟨rfl, hb⟩; replace hR := hR.trans (hb.mono hR.size); clear hb)
   go_wp2_with fail
   refine hK.out _ _ ?_ (fun hHeld => ?_)
   ·exact HC.out _ hR
   clear hK K
   try simp only [Act.put, List.setIfInBounds_toArray, List.set_cons_zero, List.set_cons_succ]
   refine tkH 22 ?_
   refine tkH 23 ?_
   refine tkH 24 ?_
   refine wpAnyH_done (by kernel_rfl) ?_ _
   have L5 := lH (L1.out.trans (hR.mono L1.out.size))
   clear hR
   go_wp2
   go_ret
   exact ⟨ret_bool (by simp), L5.out⟩
  ·skip
   go_enter Tryz.func60, Tryz.ntmps60
   go_wp2_with fail
   refine cZm (HV.out _) ?_
   rintro e w1 ⟨rfl, hb⟩
   have K1 := lH ((Blk.new w 30 #[.bool s, .int .u64 X, .int .u64 B, .int .i64 b]).below hb (by simp only [zA]; omega))
   have L1 := lH (((Below.refl _ w).alloc (Nat.le_refl _) _).trans (hb.mono (by simp only [zA]; omega)))
   have s1 : w.heap.size < w1.heap.size := by have := hb.size; simp only [zA] at this; omega
   clear hb
   have HC : Hid (∀ W', Below w1.heap.size w1 W' → W'.cell? ⟨w.heap.size, 0, none⟩ = some (.bool s) ∧ W'.cell? ⟨w.heap.size, 1, none⟩ = some (.int .u64 X) ∧ W'.cell? ⟨w.heap.size, 2, none⟩ = some (.int .u64 B) ∧ W'.cell? ⟨w.heap.size, 3, none⟩ = some (.int .i64 b)) := by
    show ∀ W', _ → _
    intro W' hB
    exact (K1.out.below hB s1).c4
   have hR : Below w1.heap.size w1 w1.drew := (Below.refl _ _).drew
   go_wp2
   refine wp_region_held_drew (S := (fun w' => w'.cell? ⟨w.heap.size, 0, none⟩ = some (.bool s) ∧ w'.cell? ⟨w.heap.size, 1, none⟩ = some (.int .u64 X) ∧ w'.cell? ⟨w.heap.size, 2, none⟩ = some (.int .u64 B) ∧ w'.cell? ⟨w.heap.size, 3, none⟩ = some (.int .i64 b))) (by kernel_rfl) ?_ (fun hHeld => ?_)
   ·exact HC.out _ hR
   refine tkH 0 ?_
   refine tkH 1 ?_
   refine tkH 2 ?_
   refine tkH 3 ?_
   refine tkH 4 ?_
   refine tkH 5 ?_
   refine tkH 6 ?_
   refine tkH 7 ?_
   refine tkH 8 ?_
   refine tkH 9 ?_
   refine tkH 10 ?_
   refine wpAnyH_ready (rs := [11]) (by kernel_rfl) (by simp) ?_
   refine AllReadyH.cons (o := { dst := some 18, op := Op.call { callee := Callee.value (Operand.func 103), args := #[Operand.tmp 17], argTypes := #[28] }, type := 3, pos := "ref.go:56", after := #[{ on := 10, ground := Ground.data }, { on := 6, ground := Ground.chain }, { on := 6, ground := Ground.guard }], guard := some (6, true) }) rfl (fun K hK => ?_) AllReadyH.nil
   go_simp
   (go_at_call 103; (with_reducible refine cZm (HW.out _) ?_); rintro e W' ⟨rfl, hb⟩; replace hR := hR.trans (hb.mono hR.size); clear hb)
   go_wp2_with fail
   refine hK.out _ _ ?_ (fun hHeld => ?_)
   ·exact HC.out _ hR
   clear hK K
   try simp only [Act.put, List.setIfInBounds_toArray, List.set_cons_zero, List.set_cons_succ]
   refine tkH 12 ?_
   refine tkH 13 ?_
   refine tkH 14 ?_
   refine tkH 15 ?_
   refine tkH 16 ?_
   refine tkH 17 ?_
   refine tkH 18 ?_
   refine tkH 20 ?_
   refine tkH 21 ?_
   refine wpAnyH_ready (rs := [19]) (by kernel_rfl) (by simp) ?_
   refine AllReadyH.cons (o := { dst := some 26, op := Op.call { callee := Callee.value (Operand.func 104), args := #[Operand.tmp 23, Operand.tmp 25], argTypes := #[28, 3] }, type := 28, pos := "ref.go:56", after := #[{ on := 16, ground := Ground.data }, { on := 18, ground := Ground.data }, { on := 14, ground := Ground.chain }, { on := 14, ground := Ground.guard }], guard := some (14, true) }) rfl (fun K hK => ?_) AllReadyH.nil
   go_simp
   (go_at_call 104; (with_reducible refine cZm (HCu.out _) ?_); rintro e W' ⟨rfl, hb⟩; replace hR := hR.trans (hb.mono hR.size); clear hb)
   go_wp2_with fail
   refine hK.out _ _ ?_ (fun hHeld => ?_)
   ·exact HC.out _ hR
   clear hK K
   try simp only [Act.put, List.setIfInBounds_toArray, List.set_cons_zero, List.set_cons_succ]
   refine tkH 22 ?_
   refine tkH 23 ?_
   refine tkH 24 ?_
   refine wpAnyH_done (by kernel_rfl) ?_ _
   have L5 := lH (L1.out.trans (hR.mono L1.out.size))
   clear hR
   go_wp2
   go_ret
   exact ⟨ret_bool (by simp [c2]), L5.out⟩
 ·skip
  go_enter Tryz.func60, Tryz.ntmps60
  go_wp2_with fail
  refine cZm (HV.out _) ?_
  rintro e w1 ⟨rfl, hb⟩
  have K1 := lH ((Blk.new w 30 #[.bool s, .int .u64 A, .int .u64 B, .int .i64 b]).below hb (by simp only [zA]; omega))
  have L1 := lH (((Below.refl _ w).alloc (Nat.le_refl _) _).trans (hb.mono (by simp only [zA]; omega)))
  have s1 : w.heap.size < w1.heap.size := by have := hb.size; simp only [zA] at this; omega
  clear hb
  have HC : Hid (∀ W', Below w1.heap.size w1 W' → W'.cell? ⟨w.heap.size, 0, none⟩ = some (.bool s) ∧ W'.cell? ⟨w.heap.size, 1, none⟩ = some (.int .u64 A) ∧ W'.cell? ⟨w.heap.size, 2, none⟩ = some (.int .u64 B) ∧ W'.cell? ⟨w.heap.size, 3, none⟩ = some (.int .i64 b)) := by
   show ∀ W', _ → _
   intro W' hB
   exact (K1.out.below hB s1).c4
  have hR : Below w1.heap.size w1 w1.drew := (Below.refl _ _).drew
  go_wp2
  refine wp_region_held_drew (S := (fun w' => w'.cell? ⟨w.heap.size, 0, none⟩ = some (.bool s) ∧ w'.cell? ⟨w.heap.size, 1, none⟩ = some (.int .u64 A) ∧ w'.cell? ⟨w.heap.size, 2, none⟩ = some (.int .u64 B) ∧ w'.cell? ⟨w.heap.size, 3, none⟩ = some (.int .i64 b))) (by kernel_rfl) ?_ (fun hHeld => ?_)
  ·exact HC.out _ hR
  refine tkH 0 ?_
  refine tkH 1 ?_
  refine tkH 2 ?_
  refine tkH 3 ?_
  refine tkH 4 ?_
  refine tkH 5 ?_
  refine tkH 6 ?_
  refine tkH 7 ?_
  refine tkH 8 ?_
  refine tkH 9 ?_
  refine tkH 10 ?_
  refine wpAnyH_ready (rs := [11]) (by kernel_rfl) (by simp) ?_
  refine AllReadyH.cons (o := { dst := some 18, op := Op.call { callee := Callee.value (Operand.func 103), args := #[Operand.tmp 17], argTypes := #[28] }, type := 3, pos := "ref.go:56", after := #[{ on := 10, ground := Ground.data }, { on := 6, ground := Ground.chain }, { on := 6, ground := Ground.guard }], guard := some (6, true) }) rfl (fun K hK => ?_) AllReadyH.nil
  go_simp
  (go_at_call 103; (with_reducible refine cZm (HW.out _) ?_); rintro e W' ⟨rfl, hb⟩; replace hR := hR.trans (hb.mono hR.size); clear hb)
  go_wp2_with fail
  refine hK.out _ _ ?_ (fun hHeld => ?_)
  ·exact HC.out _ hR
  clear hK K
  try simp only [Act.put, List.setIfInBounds_toArray, List.set_cons_zero, List.set_cons_succ]
  refine tkH 12 ?_
  refine tkH 13 ?_
  refine tkH 14 ?_
  refine tkH 15 ?_
  refine tkH 16 ?_
  refine tkH 17 ?_
  refine tkH 18 ?_
  refine tkH 20 ?_
  refine tkH 21 ?_
  refine wpAnyH_ready (rs := [19]) (by kernel_rfl) (by simp) ?_
  refine AllReadyH.cons (o := { dst := some 26, op := Op.call { callee := Callee.value (Operand.func 104), args := #[Operand.tmp 23, Operand.tmp 25], argTypes := #[28, 3] }, type := 28, pos := "ref.go:56", after := #[{ on := 16, ground := Ground.data }, { on := 18, ground := Ground.data }, { on := 14, ground := Ground.chain }, { on := 14, ground := Ground.guard }], guard := some (14, true) }) rfl (fun K hK => ?_) AllReadyH.nil
  go_simp
  (go_at_call 104; (with_reducible refine cZm (HCu.out _) ?_); rintro e W' ⟨rfl, hb⟩; replace hR := hR.trans (hb.mono hR.size); clear hb)
  go_wp2_with fail
  refine hK.out _ _ ?_ (fun hHeld => ?_)
  ·exact HC.out _ hR
  clear hK K
  try simp only [Act.put, List.setIfInBounds_toArray, List.set_cons_zero, List.set_cons_succ]
  refine tkH 22 ?_
  refine tkH 23 ?_
  refine tkH 24 ?_
  refine wpAnyH_done (by kernel_rfl) ?_ _
  have L5 := lH (L1.out.trans (hR.mono L1.out.size))
  clear hR
  go_wp2
  go_ret
  exact ⟨ret_bool (by simp [c1]), L5.out⟩

theorem rpvalid_at (s : Bool) (h l : Nat) (b : Int) (hh : N64 h) (hl : N64 l) {v : Bool} (e : pvl s h l b = v) (w : World) :
  Calls Tryz.prog 60 #[pfx s h l b] w fun e w' => e = .returned (.bool v) ∧ Below w.heap.size w w' := by
 subst e
 by_cases hv : vld s h l = true
 ·by_cases h0 : b < 0
  ·have e : pvl s h l b = false := hld_not (fun x => by have := (okn_iff.1 x.2).1; omega)
   rw [e]; exact rpv_b s h l b hv h0 w
  ·by_cases h1 : (wd s : Int) < b
   ·have e : pvl s h l b = false := hld_not (fun x => by have := (okn_iff.1 x.2).2; omega)
    rw [e]; exact rpv_c s h l b _ rfl hv (by omega) h1 w
   ·have e : pvl s h l b = decide (((ct h (kk s b - 64) : Nat) : Int) = h ∧ ((ct l (kk s b) : Nat) : Int) = l) := by
     unfold pvl
     rw [hld_if ⟨hv, okn_iff.2 ⟨by omega, by omega⟩⟩]
     simp
    rw [e]; exact rpv_d s h l b _ rfl hv hh hl (by omega) (by omega) w
 ·have e : pvl s h l b = false := hld_not (fun x => hv x.1)
  rw [e]; exact rpv_a s h l b (by simpa using hv) w
end Go.Proofs.YtgfkmgbcajdcdaaGreatDoor
