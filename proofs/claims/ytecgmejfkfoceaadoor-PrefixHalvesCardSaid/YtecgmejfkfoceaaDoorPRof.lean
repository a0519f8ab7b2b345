/-
  The document's own way from bits to an address.
-/
import Derived.Test.YtecgmejfkfoceaaDoorPRBit
import Derived.StillTailTactics
namespace Go.Proofs.YtecgmejfkfoceaaDoor
open Go.RowKit
set_option linter.unusedVariables false

/-- A list of noughts and ones. -/
def Bin (zs : List Int) : Prop := ∀ z ∈ zs, 0 ≤ z ∧ z ≤ 1
theorem f2_bd : ∀ (k : Nat) (zs : List Int), Bin zs → 0 ≤ f2 (zs.take k) ∧ f2 (zs.take k) < ((2 ^ k : Nat) : Int)
  | 0, zs, h => by rw [List.take_zero]; exact ⟨Int.le_refl _, by decide⟩
  | k + 1, zs, h => by
    obtain ⟨a, b⟩ := f2_bd k zs h
    rw [Nat.pow_succ]
    cases hz : zs[k]? with
    | none =>
      rw [List.take_add_one, hz]
      simp only [Option.toList_none, List.append_nil]
      omega
    | some z =>
      have hb := h z (List.mem_of_getElem? hz)
      rw [List.take_add_one, hz]
      show 0 ≤ f2 (_ ++ [z]) ∧ _
      rw [Option.toList_some, f2_snoc]
      omega
theorem f2_next {zs : List Int} {k : Nat} {z : Int} (h : zs[k]? = some z) : f2 (zs.take (k + 1)) = f2 (zs.take k) * 2 + z := by
  rw [List.take_add_one, h, Option.toList_some, f2_snoc]
theorem Bin.drop {zs : List Int} (h : Bin zs) (k : Nat) : Bin (zs.drop k) := fun z hz => h z (List.mem_of_mem_drop hz)
theorem two63 {j : Nat} (h : j ≤ 63) : ((2 ^ j : Nat) : Int) ≤ 9223372036854775808 := by
  have : (2 : Nat) ^ j ≤ 2 ^ 63 := Nat.pow_le_pow_right (by decide) h
  omega

set_option maxRecDepth 100000 in
set_option maxHeartbeats 4000000 in
theorem rof_four (w : World) (B c : Nat) (A : Option Addr) (zs : List Int) (hz : RI .i64 w B A 32 zs) (hB : B ≤ w.heap.size) (hb : Bin zs) :
    Calls Tryd.prog 57 #[.bool false, .slice A 32 c] w fun e w' => e = .returned (adr false 0 (f2 zs)) ∧ Below w.heap.size w w' := by
  obtain ⟨b, o, rfl, hbk, hcell⟩ := hz.2.1 (by decide)
  have hlen := hz.1
  have HC := Lib.hid hcell
  have HL := Lib.hid hlen
  have HBn := Lib.hid hb
  have hbw : b < w.heap.size := by omega
  clear hz hcell hlen hb
  go_enter Tryd.func57, Tryd.ntmps57
  go_wp2
  go_loopw [6] (fun i wr => ∃ (k : Nat) (X Y : Int), k ≤ 32 ∧ i = .int .i64 (k : Int) ∧ Blk wr (w.heap.size + 1) 24 #[.bool false, .int .u64 X, .int .u64 Y] ∧ Blk wr w.heap.size 24 #[.bool false, .int .u64 0, .int .u64 0] ∧ Below w.heap.size w wr ∧ Hid (X = 0 ∧ Y = f2 (zs.take k))) (fun i wr => (32 - intOf i).toNat)
  case atStart =>
    have h1 := Blk.new (w.alloc (.cells #[.bool false, .int .u64 0, .int .u64 0] 24)) 24 #[.bool false, .int .u64 0, .int .u64 0]
    rw [World.size_alloc] at h1
    exact ⟨0, 0, 0, by decide, rfl, h1, (Blk.new w _ _).alloc _, ((Below.refl _ w).alloc (Nat.le_refl _) _).alloc (by simp) _, Lib.hid (by simp [f2])⟩
  case round =>
    obtain ⟨k, X, Y, hk, rfl, hg, hr, hbel, hxy⟩ := hrel
    have HG := Lib.hid hg
    have HR := Lib.hid hr
    have HBl := Lib.hid hbel
    have sw := hbel.size
    by_cases hlt : k < 32
    · obtain ⟨z, hzk⟩ : ∃ z, zs[k]? = some z := ⟨_, List.getElem?_eq_getElem (by rw [HL.out]; exact hlt)⟩
      have hzb := HBn.out z (List.mem_of_getElem? hzk)
      have d0 := HC.out _ _ hzk
      have d1 := (hbel.cell (p := ⟨b, o + k, none⟩) hbw).trans d0
      have HZ := Lib.hid hzk
      clear d0 hzk hg hr hbel
      have hklt : (k : Int) < 32 := by omega
      have hk0 : (0 : Int) ≤ k := by omega
      have hwz : IntKind.u64.wrap z = z := by rw [IntKind.wrap_u64]; omega
      obtain ⟨c0, c1, c2⟩ := HG.out.c3
      have hb2 : 0 ≤ Y ∧ Y < 9223372036854775808 := by
        obtain ⟨e1, e2⟩ := hxy.out
        rw [e2]
        have h1 := f2_bd k zs HBn.out
        have h2 := two63 (j := k) (by omega)
        exact ⟨h1.1, Int.lt_of_lt_of_le h1.2 h2⟩
      have hw2 : IntKind.u64.wrap (Y * 2) = Y * 2 := by rw [IntKind.wrap_u64]; omega
      have hw3 : IntKind.u64.wrap (Y * 2 + z) = Y * 2 + z := by rw [IntKind.wrap_u64]; omega
      have y1 := HG.out.frozen 2
      go_wp2
      go_still_tail 10, (by kernel_rfl)
      go_wp2
      have HG2 := Lib.hid (HG.out.set_ 2 (.int .u64 (Y * 2 + z)))
      have HR2 := Lib.hid (HR.out.far (p := ⟨w.heap.size + 1, 2, none⟩) (by simp) (.int .u64 (Y * 2 + z)))
      have HL2 := Lib.hid (HBl.out.setCell (p := ⟨w.heap.size + 1, 2, none⟩) (by simp) (.int .u64 (Y * 2 + z)))
      go_roundw
      case rel => exact ⟨k + 1, X, (Y * 2 + z), by omega, by go_num, HG2.out, HR2.out, HL2.out.drew, Lib.hid (by
        obtain ⟨e1, e2⟩ := hxy.out
        exact ⟨e1, by rw [f2_next HZ.out, ← e2]⟩)⟩
      case measure => simp [intOf]; omega
    · obtain rfl : k = 32 := by omega
      obtain ⟨c0, c1, c2⟩ := HG.out.c3
      obtain ⟨r0, r1, r2⟩ := HR.out.c3
      have z0 := HR.out.frozen 0
      have z1 := HR.out.frozen 1
      have z2 := HR.out.frozen 2
      clear hg hr hbel
      go_wp2
      refine bodyPost_ret (v := adr false X Y) (by simp [results, Tryd.results57, go_sem, r0, r1, r2]) rfl ⟨?_, ?_⟩
      · obtain ⟨e1, e2⟩ := hxy.out
        rw [List.take_of_length_le (by rw [HL.out]; exact Nat.le_refl _)] at e2
        rw [e1, e2]
      · iterate 3 refine Below.setCell ?_ (by simp) _
        exact HBl.out

set_option maxRecDepth 100000 in
set_option maxHeartbeats 4000000 in
theorem rof_six (w : World) (B c : Nat) (A : Option Addr) (zs : List Int) (hz : RI .i64 w B A 128 zs) (hB : B ≤ w.heap.size) (hb : Bin zs) :
    Calls Tryd.prog 57 #[.bool true, .slice A 128 c] w fun e w' => e = .returned (adr true (f2 (zs.take 64)) (f2 (zs.drop 64))) ∧ Below w.heap.size w w' := by
  obtain ⟨b, o, rfl, hbk, hcell⟩ := hz.2.1 (by decide)
  have hlen := hz.1
  have HC := Lib.hid hcell
  have HL := Lib.hid hlen
  have HBn := Lib.hid hb
  have hbw : b < w.heap.size := by omega
  clear hz hcell hlen hb
  go_enter Tryd.func57, Tryd.ntmps57
  go_wp2
  go_loopw [6] (fun i wr => ∃ (k : Nat) (X Y : Int), k ≤ 128 ∧ i = .int .i64 (k : Int) ∧ Blk wr (w.heap.size + 1) 24 #[.bool true, .int .u64 X, .int .u64 Y] ∧ Blk wr w.heap.size 24 #[.bool false, .int .u64 0, .int .u64 0] ∧ Below w.heap.size w wr ∧ Hid (X = f2 (zs.take (min k 64)) ∧ Y = f2 ((zs.take k).drop 64))) (fun i wr => (128 - intOf i).toNat)
  case atStart =>
    have h1 := Blk.new (w.alloc (.cells #[.bool false, .int .u64 0, .int .u64 0] 24)) 24 #[.bool true, .int .u64 0, .int .u64 0]
    rw [World.size_alloc] at h1
    exact ⟨0, 0, 0, by decide, rfl, h1, (Blk.new w _ _).alloc _, ((Below.refl _ w).alloc (Nat.le_refl _) _).alloc (by simp) _, Lib.hid (by simp [f2])⟩
  case round =>
    obtain ⟨k, X, Y, hk, rfl, hg, hr, hbel, hxy⟩ := hrel
    have HG := Lib.hid hg
    have HR := Lib.hid hr
    have HBl := Lib.hid hbel
    have sw := hbel.size
    by_cases hlt : k < 128
    · obtain ⟨z, hzk⟩ : ∃ z, zs[k]? = some z := ⟨_, List.getElem?_eq_getElem (by rw [HL.out]; exact hlt)⟩
      have hzb := HBn.out z (List.mem_of_getElem? hzk)
      have d0 := HC.out _ _ hzk
      have d1 := (hbel.cell (p := ⟨b, o + k, none⟩) hbw).trans d0
      have HZ := Lib.hid hzk
      clear d0 hzk hg hr hbel
      have hklt : (k : Int) < 128 := by omega
      have hk0 : (0 : Int) ≤ k := by omega
      have hwz : IntKind.u64.wrap z = z := by rw [IntKind.wrap_u64]; omega
      obtain ⟨c0, c1, c2⟩ := HG.out.c3
      by_cases hk64 : k < 64
      · skip
        have hb2 : 0 ≤ X ∧ X < 9223372036854775808 := by
          obtain ⟨e1, e2⟩ := hxy.out
          rw [show min k 64 = k by omega] at e1
          rw [e1]
          have h1 := f2_bd k zs HBn.out
          have h2 := two63 (j := k) (by omega)
          exact ⟨h1.1, Int.lt_of_lt_of_le h1.2 h2⟩
        have hw2 : IntKind.u64.wrap (X * 2) = X * 2 := by rw [IntKind.wrap_u64]; omega
        have hw3 : IntKind.u64.wrap (X * 2 + z) = X * 2 + z := by rw [IntKind.wrap_u64]; omega
        have h64 : (k : Int) < 64 := by omega
        have y1 := HG.out.frozen 1
        go_wp2
        go_still_tail 10, (by kernel_rfl)
        go_wp2
        have HG2 := Lib.hid (HG.out.set_ 1 (.int .u64 (X * 2 + z)))
        have HR2 := Lib.hid (HR.out.far (p := ⟨w.heap.size + 1, 1, none⟩) (by simp) (.int .u64 (X * 2 + z)))
        have HL2 := Lib.hid (HBl.out.setCell (p := ⟨w.heap.size + 1, 1, none⟩) (by simp) (.int .u64 (X * 2 + z)))
        go_roundw
        case rel => exact ⟨k + 1, (X * 2 + z), Y, by omega, by go_num, HG2.out, HR2.out, HL2.out.drew, Lib.hid (by
          obtain ⟨e1, e2⟩ := hxy.out
          refine ⟨?_, ?_⟩
          · rw [show min (k + 1) 64 = k + 1 by omega, f2_next HZ.out]
            rw [show min k 64 = k by omega] at e1
            rw [← e1]
          · rw [e2, List.drop_eq_nil_of_le (by rw [List.length_take]; omega), List.drop_eq_nil_of_le (by rw [List.length_take]; omega)])⟩
        case measure => simp [intOf]; omega
      · skip
        have hb2 : 0 ≤ Y ∧ Y < 9223372036854775808 := by
          obtain ⟨e1, e2⟩ := hxy.out
          rw [List.drop_take] at e2
          rw [e2]
          have h1 := f2_bd (k - 64) (zs.drop 64) (HBn.out.drop 64)
          have h2 := two63 (j := k - 64) (by omega)
          exact ⟨h1.1, Int.lt_of_lt_of_le h1.2 h2⟩
        have hw2 : IntKind.u64.wrap (Y * 2) = Y * 2 := by rw [IntKind.wrap_u64]; omega
        have hw3 : IntKind.u64.wrap (Y * 2 + z) = Y * 2 + z := by rw [IntKind.wrap_u64]; omega
        have h64 : ¬ (k : Int) < 64 := by omega
        have y1 := HG.out.frozen 2
        go_wp2
        go_still_tail 10, (by kernel_rfl)
        go_wp2
        have HG2 := Lib.hid (HG.out.set_ 2 (.int .u64 (Y * 2 + z)))
        have HR2 := Lib.hid (HR.out.far (p := ⟨w.heap.size + 1, 2, none⟩) (by simp) (.int .u64 (Y * 2 + z)))
        have HL2 := Lib.hid (HBl.out.setCell (p := ⟨w.heap.size + 1, 2, none⟩) (by simp) (.int .u64 (Y * 2 + z)))
        go_roundw
        case rel => exact ⟨k + 1, X, (Y * 2 + z), by omega, by go_num, HG2.out, HR2.out, HL2.out.drew, Lib.hid (by
          obtain ⟨e1, e2⟩ := hxy.out
          refine ⟨?_, ?_⟩
          · rw [show min (k + 1) 64 = 64 by omega]
            rw [show min k 64 = 64 by omega] at e1
            exact e1
          · rw [List.drop_take] at e2 ⊢
            rw [show k + 1 - 64 = (k - 64) + 1 by omega, f2_next (z := z) (by rw [List.getElem?_drop, show 64 + (k - 64) = k by omega]; exact HZ.out), ← e2])⟩
        case measure => simp [intOf]; omega
    · obtain rfl : k = 128 := by omega
      obtain ⟨c0, c1, c2⟩ := HG.out.c3
      obtain ⟨r0, r1, r2⟩ := HR.out.c3
      have z0 := HR.out.frozen 0
      have z1 := HR.out.frozen 1
      have z2 := HR.out.frozen 2
      clear hg hr hbel
      go_wp2
      refine bodyPost_ret (v := adr true X Y) (by simp [results, Tryd.results57, go_sem, r0, r1, r2]) rfl ⟨?_, ?_⟩
      · obtain ⟨e1, e2⟩ := hxy.out
        rw [List.take_of_length_le (by rw [HL.out]; exact Nat.le_refl _)] at e2
        rw [e1, e2, show min 128 64 = 64 from rfl]
      · iterate 3 refine Below.setCell ?_ (by simp) _
        exact HBl.out

/-- Bits of a number make that number's address. -/
theorem rof_any (s : Bool) (h l : Nat) (hh : N64 h) (hl : N64 l) (hv : nm h l < 2 ^ wd s) (w : World) (B c : Nat) (A : Option Addr) (zs : List Int) (hz : RI .i64 w B A (wd s) zs) (hB : B ≤ w.heap.size) (hb : IsBits (nm h l) (wd s) zs) :
    Calls Tryd.prog 57 #[.bool s, .slice A (wd s) c] w fun e w' => e = .returned (adr s h l) ∧ Below w.heap.size w w' := by
  have hbin : Bin zs := by
    intro z hz
    obtain ⟨i, hi, e⟩ := List.getElem_of_mem hz
    have h1 := hb.2 i (by rw [← hb.1]; exact hi)
    rw [List.getElem?_eq_getElem hi, e] at h1
    injection h1 with h1
    have := bt_le (nm h l) (wd s) i
    omega
  cases s
  · have H := rof_four w B c A zs hz hB hbin
    have e0 : h = 0 := by
      have : wd false = 32 := rfl
      rw [this] at hv
      unfold nm at hv
      omega
    rw [f2_all hb hv] at H
    subst e0
    have e1 : nm 0 l = l := by unfold nm; omega
    rw [e1] at H
    exact H
  · have H := rof_six w B c A zs hz hB hbin
    rw [f2_hi hb hh.lt hl.lt, f2_lo hb hl.lt] at H
    exact H
end Go.Proofs.YtecgmejfkfoceaaDoor
