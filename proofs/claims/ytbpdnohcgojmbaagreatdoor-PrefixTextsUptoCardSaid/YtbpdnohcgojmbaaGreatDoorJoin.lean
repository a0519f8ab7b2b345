/-
  addr.join of bytes in base 10, and of groups in base 16.
-/
import Derived.Test.YtbpdnohcgojmbaaGreatDoorHex
import Derived.Test.YtbpdnohcgojmbaaGreatDoorGroups
namespace Go.Proofs.YtbpdnohcgojmbaaGreatDoor
open Go.RowKit
set_option linter.unusedVariables false

/-- The text of a byte, and that of a group. -/
def d10 (z : Int) : List UInt8 := Lib.decDigits z.toNat
def d16 (z : Int) : List UInt8 := (dhx z).map fun n => UInt8.ofNat n.toNat
theorem d10_len : ∀ z : Int, 0 ≤ z → z ≤ 255 → (d10 z).length ≤ 3 := by
  intro z h0 h1
  obtain ⟨u, rfl⟩ : ∃ u : Nat, z = u := ⟨z.toNat, by omega⟩
  have e : ∀ m : Fin 256, (Lib.decDigits m.val).length ≤ 3 := by decide +kernel
  exact e ⟨u, by omega⟩
theorem d16_len (z : Int) : (d16 z).length ≤ 4 := by
  unfold d16 dhx
  rw [List.length_map, lowd_len]
  unfold nhx
  repeat (first | omega | split)
theorem joinTail_len (xs : List (List UInt8)) (c : UInt8) (k : Nat) (h : ∀ x ∈ xs, x.length ≤ k) : (Lib.joinTail [c] xs).length ≤ xs.length * (k + 1) := by
  induction xs with
  | nil => simp [Lib.joinTail]
  | cons x r ih =>
    have h1 := ih fun y hy => h y (List.mem_cons_of_mem _ hy)
    have h2 := h x (List.mem_cons_self ..)
    simp only [Lib.joinTail, List.map_cons, List.flatten_cons, List.length_append, List.length_cons] at h1 ⊢
    rw [Nat.add_mul]
    simp only [List.length_nil]
    omega
theorem join_len (xs : List (List UInt8)) (c : UInt8) (k : Nat) (h : ∀ x ∈ xs, x.length ≤ k) : (Lib.join xs [c]).length ≤ xs.length * (k + 1) := by
  cases xs with
  | nil => simp [Lib.join_nil]
  | cons x r =>
    have h1 := joinTail_len r c k fun y hy => h y (List.mem_cons_of_mem _ hy)
    have h2 := h x (List.mem_cons_self ..)
    rw [Lib.join_cons, List.length_append, List.length_cons, Nat.add_mul]
    omega
theorem make_strs (n : Nat) (h : n ≤ 1000) (w : World) :
    (Instr.makeSlice 63 (.int .i64 (n : Int)) (.int .i64 (n : Int))).run Tryz.prog w = .ok (.slice (some ⟨w.heap.size, 0, none⟩) n n) (w.alloc (.cells (madeCells #[.string ⟨#[]⟩] n) 9)) :=
  run_make_row' (P := Tryz.prog) 63 9 (.string ⟨#[]⟩) 16 Tryz.underlying63 (by kernel_rfl) rfl .i64 .i64 n (by omega) (by omega) w
theorem made_strs (n : Nat) : madeCells #[.string ⟨#[]⟩] n = (List.replicate n (Value.string ⟨#[]⟩)).toArray := by
  apply Array.ext
  · simp [madeCells]
  · intro i h1 h2
    simp [madeCells, Nat.mod_one]
/-- Texts laid one behind the other, the first k of them. -/
def txs (f : Int → List UInt8) (zs : List Int) (k : Nat) : List ByteArray := ((zs.take k).map fun z => (⟨(f z).toArray⟩ : ByteArray)) ++ List.replicate (zs.length - k) ⟨#[]⟩
theorem txs_put (f : Int → List UInt8) (zs : List Int) (k : Nat) (z : Int) (h : zs[k]? = some z) :
    (((txs f zs k).map Value.string).toArray).setIfInBounds k (.string ⟨(f z).toArray⟩) = (((txs f zs (k + 1)).map Value.string).toArray) := by
  have hk : k < zs.length := (List.getElem?_eq_some_iff.1 h).1
  unfold txs
  have e : zs.length - k = (zs.length - (k + 1)) + 1 := by omega
  have e2 : zs.take (k + 1) = zs.take k ++ [z] := by rw [List.take_add_one, h]; rfl
  rw [e, List.replicate_succ, e2]
  have e3 : ((zs.take k).map fun z => (⟨(f z).toArray⟩ : ByteArray)).length = k := by simp; omega
  simp [Nat.min_eq_left (Nat.le_of_lt hk)]
theorem txs_len (f : Int → List UInt8) (zs : List Int) (k : Nat) (h : k ≤ zs.length) : (txs f zs k).length = zs.length := by simp [txs]; omega
theorem txs_all (f : Int → List UInt8) (zs : List Int) : txs f zs zs.length = zs.map fun z => (⟨(f z).toArray⟩ : ByteArray) := by simp [txs]
theorem txs_join (f : Int → List UInt8) (zs : List Int) : (zs.map fun z => (⟨(f z).toArray⟩ : ByteArray)).map (·.data.toList) = zs.map f := by simp [Function.comp_def]

theorem u16_bd {z : Int} (h : (Lit.int .u16 z).wf = true) : 0 ≤ z ∧ z ≤ 65535 := by
  simp [Lit.wf, IntKind.min, IntKind.max, IntKind.bits, IntKind.signed] at h; omega

set_option maxHeartbeats 4000000 in
theorem join_b (w : World) (hE : Env w) (B : Nat) (A : Option Addr) (n c : Nat) (zs : List Int) (hz : RI .u8 w B A n zs) (hB : B ≤ w.heap.size) (hn : n ≤ 16) :
    Calls Tryz.prog 44 #[.slice A n c, .int .i64 10, .string ⟨#[46]⟩] w fun e w' => e = .returned (.string ⟨(Lib.join (zs.map d10) [46]).toArray⟩) ∧ Below w.heap.size w w' := by
  have hl := hz.1
  have hmk := make_strs n (by omega) w
  obtain ⟨w1, hw1⟩ : ∃ w1, w1 = w.alloc (.cells (madeCells #[.string ⟨#[]⟩] n) 9) := ⟨_, rfl⟩
  have HG : Hid (Blk w1 w.heap.size 9 (((txs d10 zs 0).map Value.string).toArray)) := Lib.hid (by
    have h := Blk.new w 9 (madeCells #[.string ⟨#[]⟩] n)
    rw [← hw1, made_strs] at h
    simpa [txs, hl] using h)
  have HB : Below w.heap.size w w1 := by rw [hw1]; exact (Below.refl _ _).alloc (Nat.le_refl _) _
  rw [← hw1] at hmk
  have HL := Lib.hid hl
  have HZ := Lib.hid hz
  have HE := Lib.hid hE
  clear hw1 hz hl
  have hc : n ≤ 9223372036854775807 := by omega
  go_enter Tryz.func44, Tryz.ntmps44
  go_wp2
  go_loopw [15] (fun i wr => ∃ j : Nat, j ≤ n ∧ i = .int .i64 j ∧ Blk wr w.heap.size 9 (((txs d10 zs j).map Value.string).toArray) ∧ Below w.heap.size w wr) (fun i _ => n - (intOf i).toNat)
  case atStart => exact ⟨0, Nat.zero_le _, rfl, HG.out, HB⟩
  case round =>
    obtain ⟨j, hj, rfl, hblk, hbel⟩ := hrel
    have HBk := Lib.hid hblk
    have HBl := Lib.hid hbel
    by_cases hlt : j < n
    · obtain ⟨b, o, z, rfl, hb, hz1, hzw, hcell⟩ := (HZ.out.below (hbel.mono hB)).at_ (j := j) hlt
      have HZ1 := Lib.hid hz1
      obtain ⟨z0, z1⟩ := u8_bd hzw
      obtain ⟨u, rfl⟩ : ∃ u : Nat, z = u := ⟨z.toNat, by omega⟩
      have h1 : (j : Int) < n := by omega
      have hF := Lib.hid (fmt10 wr (HE.out.below hbel) u (by omega))
      clear hz1 hblk hbel hzw
      go_wp2_with fail
      refine Calls.mono hF.out ?_
      rintro e w2 ⟨rfl, hb2⟩
      have HB2 := Lib.hid (HBk.out.below hb2 HBk.out.lt)
      have HL2 := Lib.hid (HBl.out.trans (hb2.mono HBl.out.size))
      have hlen : j < ((txs d10 zs j).map Value.string).length := by rw [List.length_map, txs_len _ _ _ (by rw [HL.out]; omega), HL.out]; exact hlt
      obtain ⟨q, hq⟩ : ∃ q, w2.cell? ⟨w.heap.size, j, none⟩ = some q := ⟨_, (HB2.out.cell _).trans (by rw [List.getElem?_toArray, List.getElem?_eq_getElem hlen])⟩
      have hfz := HB2.out.frozen j
      clear hlen hb2 hcell
      go_wp2
      go_roundw
      case rel =>
        refine ⟨j + 1, by omega, by go_num, ?_, HL2.out.setCell (p := ⟨_, _, _⟩) (Nat.le_refl _) _⟩
        have h := HB2.out.set_ j (.string ⟨(d10 (u : Int)).toArray⟩)
        rw [txs_put d10 zs j _ HZ1.out] at h
        exact h
      case measure => simp [intOf]; omega
    · have hjn : j = zs.length := by rw [HL.out]; omega
      have hnz : n = zs.length := HL.out.symm
      subst hjn
      have hw : ∀ x ∈ zs.map d10, x.length ≤ 4 := by
        intro x hx
        obtain ⟨z, hz, rfl⟩ := List.mem_map.1 hx
        have := HZ.out.by_ z hz; have := d10_len z this.1 this.2; omega
      have hjl := join_len (zs.map d10) 46 4 hw
      have HJ := Tryz.strings_Join w.heap.size 0 zs.length (zs.map fun z => (⟨(d10 z).toArray⟩ : ByteArray)) ⟨#[46]⟩ wr (fun i x hx => by
          rw [HBk.out.cell, Nat.zero_add, txs_all]
          simp only [List.getElem?_toArray, List.getElem?_map] at hx ⊢
          rw [hx]; rfl) HBk.out.lt (by simp; omega) (by simp) (by rw [txs_join]; show (Lib.join _ [46]).length ≤ _; simp at hjl; omega)
      rw [txs_join, List.length_map] at HJ
      have HJ' := Lib.hid HJ
      subst hnz
      clear HJ hw hjl hblk hbel hlt hj
      go_wp2_with fail
      refine Calls.mono HJ'.out ?_
      rintro e w2 ⟨rfl, hb2⟩
      have HL2 := HBl.out.trans (hb2.mono HBl.out.size)
      clear hb2
      go_wp2
      go_ret
      exact ⟨rfl, HL2⟩

set_option maxHeartbeats 4000000 in
theorem join_h (w : World) (hE : Env w) (B : Nat) (A : Option Addr) (n c : Nat) (zs : List Int) (hz : RI .u16 w B A n zs) (hB : B ≤ w.heap.size) (hn : n ≤ 16) :
    Calls Tryz.prog 48 #[.slice A n c, .int .i64 16, .string ⟨#[58]⟩] w fun e w' => e = .returned (.string ⟨(Lib.join (zs.map d16) [58]).toArray⟩) ∧ Below w.heap.size w w' := by
  have hl := hz.1
  have hmk := make_strs n (by omega) w
  obtain ⟨w1, hw1⟩ : ∃ w1, w1 = w.alloc (.cells (madeCells #[.string ⟨#[]⟩] n) 9) := ⟨_, rfl⟩
  have HG : Hid (Blk w1 w.heap.size 9 (((txs d16 zs 0).map Value.string).toArray)) := Lib.hid (by
    have h := Blk.new w 9 (madeCells #[.string ⟨#[]⟩] n)
    rw [← hw1, made_strs] at h
    simpa [txs, hl] using h)
  have HB : Below w.heap.size w w1 := by rw [hw1]; exact (Below.refl _ _).alloc (Nat.le_refl _) _
  rw [← hw1] at hmk
  have HL := Lib.hid hl
  have HZ := Lib.hid hz
  have HE := Lib.hid hE
  clear hw1 hz hl
  have hc : n ≤ 9223372036854775807 := by omega
  go_enter Tryz.func48, Tryz.ntmps48
  go_wp2
  go_loopw [15] (fun i wr => ∃ j : Nat, j ≤ n ∧ i = .int .i64 j ∧ Blk wr w.heap.size 9 (((txs d16 zs j).map Value.string).toArray) ∧ Below w.heap.size w wr) (fun i _ => n - (intOf i).toNat)
  case atStart => exact ⟨0, Nat.zero_le _, rfl, HG.out, HB⟩
  case round =>
    obtain ⟨j, hj, rfl, hblk, hbel⟩ := hrel
    have HBk := Lib.hid hblk
    have HBl := Lib.hid hbel
    by_cases hlt : j < n
    · obtain ⟨b, o, z, rfl, hb, hz1, hzw, hcell⟩ := (HZ.out.below (hbel.mono hB)).at_ (j := j) hlt
      have HZ1 := Lib.hid hz1
      obtain ⟨z0, z1⟩ := u16_bd hzw
      have h1 : (j : Int) < n := by omega
      have hF := Lib.hid (fmt16 wr (HE.out.below hbel) z z0 z1)
      clear hz1 hblk hbel hzw
      go_wp2_with fail
      refine Calls.mono hF.out ?_
      rintro e w2 ⟨rfl, hb2⟩
      have HB2 := Lib.hid (HBk.out.below hb2 HBk.out.lt)
      have HL2 := Lib.hid (HBl.out.trans (hb2.mono HBl.out.size))
      have hlen : j < ((txs d16 zs j).map Value.string).length := by rw [List.length_map, txs_len _ _ _ (by rw [HL.out]; omega), HL.out]; exact hlt
      obtain ⟨q, hq⟩ : ∃ q, w2.cell? ⟨w.heap.size, j, none⟩ = some q := ⟨_, (HB2.out.cell _).trans (by rw [List.getElem?_toArray, List.getElem?_eq_getElem hlen])⟩
      have hfz := HB2.out.frozen j
      clear hlen hb2 hcell
      go_wp2
      go_roundw
      case rel =>
        refine ⟨j + 1, by omega, by go_num, ?_, HL2.out.setCell (p := ⟨_, _, _⟩) (Nat.le_refl _) _⟩
        have h := HB2.out.set_ j (.string ⟨(d16 z).toArray⟩)
        rw [txs_put d16 zs j _ HZ1.out] at h
        exact h
      case measure => simp [intOf]; omega
    · have hjn : j = zs.length := by rw [HL.out]; omega
      have hnz : n = zs.length := HL.out.symm
      subst hjn
      have hw : ∀ x ∈ zs.map d16, x.length ≤ 4 := by
        intro x hx
        obtain ⟨z, hz, rfl⟩ := List.mem_map.1 hx
        exact d16_len z
      have hjl := join_len (zs.map d16) 58 4 hw
      have HJ := Tryz.strings_Join w.heap.size 0 zs.length (zs.map fun z => (⟨(d16 z).toArray⟩ : ByteArray)) ⟨#[58]⟩ wr (fun i x hx => by
          rw [HBk.out.cell, Nat.zero_add, txs_all]
          simp only [List.getElem?_toArray, List.getElem?_map] at hx ⊢
          rw [hx]; rfl) HBk.out.lt (by simp; omega) (by simp) (by rw [txs_join]; show (Lib.join _ [58]).length ≤ _; simp at hjl; omega)
      rw [txs_join, List.length_map] at HJ
      have HJ' := Lib.hid HJ
      subst hnz
      clear HJ hw hjl hblk hbel hlt hj
      go_wp2_with fail
      refine Calls.mono HJ'.out ?_
      rintro e w2 ⟨rfl, hb2⟩
      have HL2 := HBl.out.trans (hb2.mono HBl.out.size)
      clear hb2
      go_wp2
      go_ret
      exact ⟨rfl, HL2⟩

end Go.Proofs.YtbpdnohcgojmbaaGreatDoor
