/-
  The document's own Cut: an address with all but its first bits 0.
-/
import Derived.Test.YtecgmejfkfoceaaDoorPRof
import Derived.Test.YtecgmejfkfoceaaDoorPLast
namespace Go.Proofs.YtecgmejfkfoceaaDoor
open Go.RowKit
set_option linter.unusedVariables false

theorem make_ints (n : Nat) (h : n ≤ 1000) (w : World) :
    (Instr.makeSlice 69 (.int .i64 (n : Int)) (.int .i64 (n : Int))).run Tryd.prog w = .ok (.slice (some ⟨w.heap.size, 0, none⟩) n n) (w.alloc (.cells (madeCells #[.int .i64 0] n) 3)) :=
  run_make_row' (P := Tryd.prog) 69 3 (.int .i64 0) 8 Tryd.underlying69 (by kernel_rfl) rfl .i64 .i64 n (by omega) (by omega) w
theorem made_ints (n : Nat) : madeCells #[.int .i64 0] n = (((List.replicate n (0 : Int)).map (Value.int .i64)).toArray) := by
  apply Array.ext
  · simp [madeCells]
  · intro i h1 h2
    simp [madeCells, Nat.mod_one]
theorem Blk.reads64 {w : World} {g : Nat} {t : TypeId} {zs : List Int} (h : Blk w g t ((zs.map (Value.int .i64)).toArray)) (hw : ∀ z ∈ zs, (Lit.int .i64 z).wf = true) {B : Nat} (hB : g < B) : RI .i64 w B (some ⟨g, 0, none⟩) zs.length zs :=
  ⟨rfl, fun _ => ⟨g, 0, rfl, hB, fun j z hz => by rw [h.cell]; simp [hz]⟩, hw⟩

/-- The first m bits of a number, noughts behind them. -/
def bl (n W m : Nat) : List Int := (List.range W).map fun i => if i < m then ((bt n W i : Nat) : Int) else 0
theorem bl_len (n W m : Nat) : (bl n W m).length = W := by simp [bl]
theorem bl_get (n W m i : Nat) (h : i < W) : (bl n W m)[i]? = some (if i < m then ((bt n W i : Nat) : Int) else 0) := by
  unfold bl
  rw [List.getElem?_map, List.getElem?_range h]
  rfl
theorem bl_zero (n W : Nat) : List.replicate W (0 : Int) = bl n W 0 := by
  apply List.ext_getElem?
  intro i
  by_cases h : i < W
  · rw [bl_get n W 0 i h, List.getElem?_replicate, if_pos h]; simp
  · rw [List.getElem?_eq_none (by simp; omega), List.getElem?_eq_none (by rw [bl_len]; omega)]
theorem bl_set (n W m : Nat) (h : m < W) : (((bl n W m).map (Value.int .i64)).toArray).setIfInBounds m (.int .i64 ((bt n W m : Nat) : Int)) = ((bl n W (m + 1)).map (Value.int .i64)).toArray := by
  have e : (bl n W m).set m ((bt n W m : Nat) : Int) = bl n W (m + 1) := by
    apply List.ext_getElem?
    intro i
    rw [List.getElem?_set]
    by_cases hi : i < W
    · by_cases e : m = i
      · subst e
        rw [if_pos rfl, if_pos (by rw [bl_len]; exact h), bl_get n W (m + 1) m h, if_pos (by omega)]
      · rw [if_neg e, bl_get n W m i hi, bl_get n W (m + 1) i hi]
        by_cases h1 : i < m
        · rw [if_pos h1, if_pos (by omega)]
        · rw [if_neg h1, if_neg (by omega)]
    · rw [if_neg (by omega), List.getElem?_eq_none (by rw [bl_len]; omega), List.getElem?_eq_none (by rw [bl_len]; omega)]
  rw [← e]
  simp [List.map_set]
theorem bl_bits (n W m : Nat) (h : m ≤ W) : IsBits (ct n (W - m)) W (bl n W m) := by
  refine ⟨bl_len _ _ _, fun i hi => ?_⟩
  rw [bl_get n W m i hi, bt_ct n W m i h hi]
  split <;> rfl
theorem bin_wf {zs : List Int} (h : ∀ z ∈ zs, 0 ≤ z ∧ z ≤ 1) : ∀ z ∈ zs, (Lit.int .i64 z).wf = true := by
  intro z hz
  have := h z hz
  simp [Lit.wf, IntKind.min, IntKind.max, IntKind.bits, IntKind.signed]; omega
theorem bits_bin {n W : Nat} {zs : List Int} (hb : IsBits n W zs) : ∀ z ∈ zs, 0 ≤ z ∧ z ≤ 1 := by
  intro z hz
  obtain ⟨i, hi, e⟩ := List.getElem_of_mem hz
  have h1 := hb.2 i (by rw [← hb.1]; exact hi)
  rw [List.getElem?_eq_getElem hi, e] at h1
  injection h1 with h1
  have := bt_le n W i
  omega

set_option maxRecDepth 100000 in
set_option maxHeartbeats 4000000 in
theorem rcut_any (s : Bool) (h l m : Nat) (hh : N64 h) (hl : N64 l) (v : vld s h l = true) (hm : m ≤ wd s) (w : World) :
    Calls Tryd.prog 51 #[adr s h l, .int .i64 m] w fun e w' => e = .returned (adr s (ct h (wd s - m - 64) : Nat) (ct l (wd s - m) : Nat)) ∧ Below w.heap.size w w' := by
  obtain ⟨W, hW⟩ : ∃ W, W = wd s := ⟨_, rfl⟩
  have W1 : W ≤ 128 := by rw [hW]; unfold wd; split <;> omega
  have HW := Lib.hid (fun w => rwidth_at s h l (W : Int) (by rw [hW]) w)
  have HB := Lib.hid (fun (i b : Nat) (hi : i < wd s) (e : bt (nm h l) (wd s) i = b) w => rbit_any s h l i hh hl v hi e w)
  have hN := nm_wd hh hl v
  have HO := Lib.hid (fun (w : World) (B c : Nat) (A : Option Addr) zs hz hB hb => rof_any s (ct h (wd s - m - 64)) (ct l (wd s - m)) (Nat.lt_of_le_of_lt (ct_le _ _) hh) (Nat.lt_of_le_of_lt (ct_le _ _) hl) (by rw [← nm_ct h l _ hl.lt]; exact Nat.lt_of_le_of_lt (ct_le _ _) hN) w B c A zs hz hB hb)
  have HBL := Lib.hid (bl_bits (nm h l) (wd s) m hm)
  rw [nm_ct h l _ hl.lt] at HBL
  obtain ⟨X, hX⟩ : ∃ X : Int, ((ct h (wd s - m - 64) : Nat) : Int) = X := ⟨_, rfl⟩
  obtain ⟨Y, hY⟩ : ∃ Y : Int, ((ct l (wd s - m) : Nat) : Int) = Y := ⟨_, rfl⟩
  rw [hX, hY] at HO ⊢
  rw [← hW] at HB HO HBL hm
  obtain ⟨N, hNN⟩ : ∃ N, N = nm h l := ⟨_, rfl⟩
  have hHB : Hid (∀ (i b : Nat), i < W → bt N W i = b → ∀ w, Calls Tryd.prog 16 #[adr s h l, .int .i64 i] w fun e w' => e = .returned (.int .i64 b) ∧ Below w.heap.size w w') := by rw [hNN]; exact HB
  have hMI := Lib.hid hm
  clear HB hW v hN hX hY hh hl
  rw [← hNN] at HBL
  have hm' : m ≤ W := hm
  clear hNN hm
  go_enter Tryd.func51, Tryd.ntmps51
  go_wp2_with fail
  refine Calls.mono (HW.out _) ?_
  rintro e w1 ⟨rfl, hb⟩
  have K1 := Lib.hid ((Blk.new w 24 #[.bool s, .int .u64 h, .int .u64 l]).alloc (.cells #[.bool false, .int .u64 0, .int .u64 0] 24) |>.below hb (by simp only [World.size_alloc]; omega))
  have R1 := Lib.hid ((Blk.new (w.alloc (.cells #[.bool s, .int .u64 h, .int .u64 l] 24)) 24 #[.bool false, .int .u64 0, .int .u64 0]).below hb (by simp only [World.size_alloc]; omega))
  rw [World.size_alloc] at R1
  have L1 := Lib.hid ((((Below.refl _ w).alloc (Nat.le_refl _) _).alloc (by simp) _).trans (hb.mono (by simp only [World.size_alloc]; omega)))
  have s1 : w.heap.size + 1 < w1.heap.size := by have := hb.size; simp only [World.size_alloc] at this; omega
  clear hb
  have hmk := make_ints W (by omega) w1
  rw [made_ints, bl_zero N W] at hmk
  have K2 := Lib.hid (K1.out.alloc (.cells ((bl N W 0).map (Value.int .i64)).toArray 3))
  have R2 := Lib.hid (R1.out.alloc (.cells ((bl N W 0).map (Value.int .i64)).toArray 3))
  have G2 := Lib.hid (Blk.new w1 3 ((bl N W 0).map (Value.int .i64)).toArray)
  have L2 := Lib.hid (L1.out.alloc L1.out.size (.cells ((bl N W 0).map (Value.int .i64)).toArray 3))
  generalize w1.alloc (.cells ((bl N W 0).map (Value.int .i64)).toArray 3) = w2 at hmk K2 R2 G2 L2
  go_wp2
  generalize w1.heap.size = g at *
  clear hmk
  go_loopw [6] (fun i wr => ∃ k : Nat, k ≤ m ∧ i = .int .i64 (k : Int) ∧ Blk wr g 3 ((bl N W k).map (Value.int .i64)).toArray ∧ Blk wr w.heap.size 24 #[.bool s, .int .u64 h, .int .u64 l] ∧ Blk wr (w.heap.size + 1) 24 #[.bool false, .int .u64 0, .int .u64 0] ∧ Below w.heap.size w wr) (fun i _ => (m - intOf i).toNat)
  case atStart => exact ⟨0, by omega, rfl, G2.out, K2.out, R2.out, L2.out⟩
  case round =>
    obtain ⟨k, hk, rfl, hg, hkk, hr, hbel⟩ := hrel
    have HG := Lib.hid hg
    have HK := Lib.hid hkk
    have HR := Lib.hid hr
    have HL := Lib.hid hbel
    obtain ⟨f0, f1, f2⟩ := hkk.c3
    clear hg hkk hr hbel
    have kW : (k : Int) ≤ W := by omega
    by_cases hlt : k < m
    · obtain ⟨b, hb⟩ : ∃ b, bt N W k = b := ⟨_, rfl⟩
      have b1 : b ≤ 1 := by rw [← hb]; exact bt_le _ _ _
      have HBk := Lib.hid (hHB.out k b (by omega) hb)
      have HBt := Lib.hid hb
      clear hb
      have kW2 : (k : Int) < W := by omega
      have km : (k : Int) < m := by omega
      go_wp2_with fail
      refine Calls.mono (HBk.out _) ?_
      rintro e w3 ⟨rfl, hb⟩
      clear f0 f1 f2
      have G3 := Lib.hid (HG.out.below hb HG.out.lt)
      have K3 := Lib.hid (HK.out.below hb HK.out.lt)
      have R3 := Lib.hid (HR.out.below hb HR.out.lt)
      have L3 := Lib.hid (HL.out.trans (hb.mono HL.out.size))
      clear hb
      have gc : w3.cell? ⟨g, k, none⟩ = some (.int .i64 ((if k < k then ((bt N W k : Nat) : Int) else 0))) := by
        rw [G3.out.cell]
        simp [bl_get N W k k (by omega)]
      have gz := G3.out.frozen k
      go_wp2
      have G4 := Lib.hid (G3.out.set_ k (.int .i64 b))
      have e4 := bl_set N W k (by omega)
      rw [HBt.out] at e4
      rw [e4] at G4
      have K4 := Lib.hid (K3.out.far (p := ⟨g, k, none⟩) (by simp; omega) (.int .i64 b))
      have R4 := Lib.hid (R3.out.far (p := ⟨g, k, none⟩) (by simp; omega) (.int .i64 b))
      have L4 := Lib.hid (L3.out.setCell (p := ⟨g, k, none⟩) (by simp; omega) (.int .i64 b))
      go_roundw
      case rel => exact ⟨k + 1, by omega, by go_num, G4.out, K4.out, R4.out, L4.out⟩
      case measure => simp [intOf]; omega
    · obtain rfl : k = m := by omega
      have HOk := Lib.hid (fun (w : World) (hG : Blk w g 3 ((bl N W k).map (Value.int .i64)).toArray) => HO.out w w.heap.size W (some ⟨g, 0, none⟩) (bl N W k) (by have := hG.reads64 (bin_wf (bits_bin HBL.out)) hG.lt; rw [bl_len] at this; exact this) (Nat.le_refl _) HBL.out)
      go_wp2_with fail
      all_goals
        refine Calls.mono (HOk.out _ HG.out) ?_
        rintro e w3 ⟨rfl, hb⟩
        have R3 := Lib.hid (HR.out.below hb HR.out.lt)
        have L3 := Lib.hid (HL.out.trans (hb.mono HL.out.size))
        clear hb f0 f1 f2
        obtain ⟨r0, r1, r2⟩ := R3.out.c3
        have z0 := R3.out.frozen 0
        have z1 := R3.out.frozen 1
        have z2 := R3.out.frozen 2
        go_wp2
        refine bodyPost_ret (v := adr s X Y) (by simp [results, Tryd.results51, go_sem, r0, r1, r2]) rfl ⟨rfl, ?_⟩
        iterate 3 refine Below.setCell ?_ (by simp) _
        exact L3.out
end Go.Proofs.YtecgmejfkfoceaaDoor
