/-
  Several texts in one: IfR, IfV, IfU, IfX.
-/
import Derived.Test.YtgfkmgbcajdcdaaGreatDoorZax
import Derived.Test.YtgfkmgbcajdcdaaGreatDoorZaw
import Derived.Laws.AppendOwnNone
import Derived.Test.YtgfkmgbcajdcdaaGreatDoorZaa
set_option linter.unusedVariables false
set_option maxRecDepth 100000
set_option maxHeartbeats 16000000
namespace Go.Proofs.YtgfkmgbcajdcdaaGreatDoor.Ifs
open Go.RowKit

theorem putD_none (t : Nat) (S : List Nat) (st : StI) (port : Int) (a : AdI) (bits : Int) (hth : thereI st port = false) (w : World) (h : IfD w t S st) :
  Calls Tryz.prog 92 #[.pointer (some ⟨t, 0, none⟩), .int .i64 port, adV a, .int .i64 bits] w fun e w' => e = .returned (.int .i64 (putI st port a bits).2) ∧ (putI st port a bits).1 = st ∧ Tch w w' [] := by
 have HE : Hid (putI st port a bits = (st, 132)) := lH (by unfold putI; rw [if_pos hth])
 obtain ⟨s, ah, al⟩ := a
 obtain ⟨xb, hxb⟩ : ∃ xb, w.heap.size = xb := ⟨_, rfl⟩
 obtain ⟨W0, hW0⟩ : ∃ W, w.alloc (.cells #[.bool s, .int .u64 (ah : Int), .int .u64 (al : Int)] 28) = W := ⟨_, rfl⟩
 have HT0 : Hid (Tch w W0 []) := lH (hW0 ▸ (Tch.refl w []).alloc _)
 have HTh := lH (there_any t S st port W0 (h.tch HT0.out (by simp)))
 have HW0 := lH (And.intro hW0 hxb)
 rw [hth] at HTh
 clear hW0 hxb h hth
 go_enter Tryz.func92, Tryz.ntmps92
 go_wp2_with fail
 rw [HW0.out.1, HW0.out.2]
 refine cZm HTh.out ?_
 rintro e w' ⟨rfl, rfl⟩
 go_wp2
 exact bodyPost_ret (v := .int .i64 132) (by simp [results, Tryz.results92, go_sem]) rfl ⟨by rw [HE.out], by rw [HE.out], HT0.out⟩
theorem putD_cls (t : Nat) (S : List Nat) (st : StI) (port : Int) (a : AdI) (ha : N64 a.2.1 ∧ N64 a.2.2) (bits : Int) (hth : thereI st port = true) (hc : clsI a ≠ 2 ∧ clsI a ≠ 5) (w : World) (h : IfD w t S st) :
  Calls Tryz.prog 92 #[.pointer (some ⟨t, 0, none⟩), .int .i64 port, adV a, .int .i64 bits] w fun e w' => e = .returned (.int .i64 (putI st port a bits).2) ∧ (putI st port a bits).1 = st ∧ Tch w w' [] := by
 have HE : Hid (putI st port a bits = (st, 133)) := lH (by unfold putI; rw [if_neg (by rw [hth]; simp), if_pos (by unfold adOk; simp [hc.1, hc.2])])
 obtain ⟨s, ah, al⟩ := a
 have ha : N64 ah ∧ N64 al := ha
 obtain ⟨c, hcv⟩ : ∃ c, clsV s (ah : Int) (al : Int) = c := ⟨_, rfl⟩
 have hc1 : c ≠ 2 ∧ c ≠ 5 := by rw [← hcv]; exact hc
 have b2 : (c == (2 : Int)) = false := by simpa using hc1.1
 have b5 : (c == (5 : Int)) = false := by simpa using hc1.2
 have HC := lH (fun W => rclass_at s (ah : Int) (al : Int) (by unfold U6; have := ha.1; unfold N64 at this; omega) (by unfold U6; have := ha.2; unfold N64 at this; omega) hcv W)
 obtain ⟨xb, hxb⟩ : ∃ xb, w.heap.size = xb := ⟨_, rfl⟩
 obtain ⟨W0, hW0⟩ : ∃ W, w.alloc (.cells #[.bool s, .int .u64 (ah : Int), .int .u64 (al : Int)] 28) = W := ⟨_, rfl⟩
 have hX : Blk W0 xb 28 #[.bool s, .int .u64 (ah : Int), .int .u64 (al : Int)] := hW0 ▸ hxb ▸ Blk.new _ _ _
 have x0 := (hX.cell 0).trans (show _ = some (Value.bool s) by rfl)
 have x1 := (hX.cell 1).trans (show _ = some (Value.int .u64 (ah : Int)) by rfl)
 have x2 := (hX.cell 2).trans (show _ = some (Value.int .u64 (al : Int)) by rfl)
 have HT0 : Hid (Tch w W0 []) := lH (hW0 ▸ (Tch.refl w []).alloc _)
 have HTh := lH (there_any t S st port W0 (h.tch HT0.out (by simp)))
 have HW0 := lH (And.intro hW0 hxb)
 have HXb : Hid (w.heap.size ≤ xb) := lH (by omega)
 have HX := lH hX
 rw [hth] at HTh
 clear hW0 hxb h hth hX ha hcv hc
 go_enter Tryz.func92, Tryz.ntmps92
 go_wp2_with fail
 rw [HW0.out.1, HW0.out.2]
 refine cZm HTh.out ?_
 rintro e w' ⟨rfl, rfl⟩
 go_wp2_with fail
 refine cZm (HC.out _) ?_
 rintro e w1 ⟨rfl, hb1⟩
 have hB1 := (Tch.of_below [] hb1).blk HX.out (by simp)
 have y0 := (hB1.cell 0).trans (show _ = some (Value.bool s) by rfl)
 have y1 := (hB1.cell 1).trans (show _ = some (Value.int .u64 (ah : Int)) by rfl)
 have y2 := (hB1.cell 2).trans (show _ = some (Value.int .u64 (al : Int)) by rfl)
 have HB1 := lH hb1
 clear hB1 hb1 x0 x1 x2
 go_wp2_with fail
 exact bodyPost_ret (v := .int .i64 133) (by simp [results, Tryz.results92, go_sem]) rfl ⟨by rw [HE.out], by rw [HE.out], HT0.out.trans_fre (Tch.of_below [] HB1.out) (by simp)⟩
theorem IfD.reads {W : World} {t : Nat} {S : List Nat} {st : StI} {port : Int} (h : IfD W t S st) (ht : thereI st port = true) : ∃ (gP cP gL cL : Nat) (A : Option Addr) (c n i : Nat), W.cell? ⟨t, 0, none⟩ = some (.slice (some ⟨gP, 0, none⟩) n cP) ∧ W.cell? ⟨gP, i * 4 + 2, none⟩ = some (.int .i64 (mtuI st port)) ∧
  W.cell? ⟨t, 1, none⟩ = some (.slice (some ⟨gL, 0, none⟩) n cL) ∧ W.cell? ⟨gL, i, none⟩ = some (.slice A (locI st port).length c) ∧ IntKind.i64.wrap (port - 1) = (i : Int) ∧ i < n ∧ n ≤ 8 := by
 obtain ⟨p, l, hp, hl, hle, hmt, hlt, hpe⟩ := locI_at h.inv ht
 have hf := h.few
 have hlen := h.inv.len
 obtain ⟨AP, AL, cP, cL, lv, rfl, h2, h3, h4, h5, h6, h7, h8⟩ := h
 obtain ⟨gP, rfl⟩ := slice_some h4 (by omega)
 obtain ⟨gL, rfl⟩ := slice_some h5 (by omega)
 obtain ⟨A, c, e, ho⟩ := h7 _ l hl
 refine ⟨gP, cP, gL, cL, A, c, st.1.length, idxI port, (h3.cell 0).trans rfl, ?_, (h3.cell 1).trans rfl, ?_, ?_, hlt, hf⟩
 ·rw [hmt]; exact own_cellN h4 ((flat4_at (f := prC) (fun _ => rfl) hp (k := 2) (by decide)).trans rfl)
 ·rw [hle]; exact own_cellN h5 e
 ·rw [IntKind.wrap_i64]; omega
theorem putD_low (t : Nat) (S : List Nat) (st : StI) (port : Int) (a : AdI) (ha : N64 a.2.1 ∧ N64 a.2.2) (bits : Int) (hth : thereI st port = true) (hc : clsI a = 2 ∨ clsI a = 5) (hb : bits < 1) (w : World) (h : IfD w t S st) :
  Calls Tryz.prog 92 #[.pointer (some ⟨t, 0, none⟩), .int .i64 port, adV a, .int .i64 bits] w fun e w' => e = .returned (.int .i64 (putI st port a bits).2) ∧ (putI st port a bits).1 = st ∧ Tch w w' [] := by
 have HE : Hid (putI st port a bits = (st, 133)) := lH (by unfold putI; rw [if_neg (by rw [hth]; simp), if_pos (by unfold adOk; simp; omega)])
 have HMi := lH (fun W h => mineD t S st a W h)
 obtain ⟨s, ah, al⟩ := a
 have ha : N64 ah ∧ N64 al := ha
 obtain ⟨c, hcv⟩ : ∃ c, clsV s (ah : Int) (al : Int) = c := ⟨_, rfl⟩
 have hc1 : c = 2 ∨ c = 5 := by rw [← hcv]; exact hc
 have HC := lH (fun W => rclass_at s (ah : Int) (al : Int) (by unfold U6; have := ha.1; unfold N64 at this; omega) (by unfold U6; have := ha.2; unfold N64 at this; omega) hcv W)
 have HWd := lH (fun W => rwidth_at s (ah : Int) (al : Int) (wd s : Int) rfl W)
 obtain ⟨xb, hxb⟩ : ∃ xb, w.heap.size = xb := ⟨_, rfl⟩
 obtain ⟨W0, hW0⟩ : ∃ W, w.alloc (.cells #[.bool s, .int .u64 (ah : Int), .int .u64 (al : Int)] 28) = W := ⟨_, rfl⟩
 have hX : Blk W0 xb 28 #[.bool s, .int .u64 (ah : Int), .int .u64 (al : Int)] := hW0 ▸ hxb ▸ Blk.new _ _ _
 have x0 := (hX.cell 0).trans (show _ = some (Value.bool s) by rfl)
 have x1 := (hX.cell 1).trans (show _ = some (Value.int .u64 (ah : Int)) by rfl)
 have x2 := (hX.cell 2).trans (show _ = some (Value.int .u64 (al : Int)) by rfl)
 have HT0 : Hid (Tch w W0 []) := lH (hW0 ▸ (Tch.refl w []).alloc _)
 have hD0 := h.tch HT0.out (by simp)
 have HD0 := lH hD0
 have HTh := lH (there_any t S st port W0 hD0)
 have HW0 := lH (And.intro hW0 hxb)
 have HX := lH hX
 rw [hth] at HTh
 have HTt := lH hth
 clear hW0 hxb h hth hX ha hcv hc hD0
 have hcc : ∀ c : Int, c = 2 ∨ c = 5 → (c != 2 && c != 5) = false := by rintro c (rfl | rfl) <;> rfl
 have bc := hcc c hc1
 clear hcc
 have key : ∀ (b2 b5 : Bool), (c == (2 : Int)) = b2 → (c == (5 : Int)) = b5 → (b2 = true ∨ b2 = false ∧ b5 = true) → True := fun _ _ _ _ _ => trivial
 clear key
 rcases hc1 with rfl | rfl <;> clear bc
 all_goals
  go_enter Tryz.func92, Tryz.ntmps92
  go_wp2_with fail
  rw [HW0.out.1, HW0.out.2]
  refine cZm HTh.out ?_
  rintro e w' ⟨rfl, rfl⟩
  go_wp2_with fail
  refine cZm (HC.out _) ?_
  rintro e w1 ⟨rfl, hb1⟩
  have hT1 := Tch.of_below [] hb1
  have hB1 := hT1.blk HX.out (by simp)
  have y0 := (hB1.cell 0).trans (show _ = some (Value.bool s) by rfl)
  have y1 := (hB1.cell 1).trans (show _ = some (Value.int .u64 (ah : Int)) by rfl)
  have y2 := (hB1.cell 2).trans (show _ = some (Value.int .u64 (al : Int)) by rfl)
  have HT1 := lH (HT0.out.trans_fre hT1 (by simp))
  have HX1 := lH hB1
  have HD1 := lH (HD0.out.tch hT1 (by simp))
  clear hB1 hb1 hT1 x0 x1 x2
  go_wp2_with fail
  exact bodyPost_ret (v := .int .i64 133) (by simp [results, Tryz.results92, go_sem]) rfl ⟨by rw [HE.out], by rw [HE.out], HT1.out⟩
theorem putD_wide (t : Nat) (S : List Nat) (st : StI) (port : Int) (a : AdI) (ha : N64 a.2.1 ∧ N64 a.2.2) (bits : Int) (hth : thereI st port = true) (hc : clsI a = 2 ∨ clsI a = 5) (hb : 1 ≤ bits) (hb2 : (wd a.1 : Int) < bits) (w : World) (h : IfD w t S st) :
  Calls Tryz.prog 92 #[.pointer (some ⟨t, 0, none⟩), .int .i64 port, adV a, .int .i64 bits] w fun e w' => e = .returned (.int .i64 (putI st port a bits).2) ∧ (putI st port a bits).1 = st ∧ Tch w w' [] := by
 have HE : Hid (putI st port a bits = (st, 133)) := lH (by unfold putI; rw [if_neg (by rw [hth]; simp), if_pos (by unfold adOk; simp; omega)])
 have HMi := lH (fun W h => mineD t S st a W h)
 obtain ⟨s, ah, al⟩ := a
 have ha : N64 ah ∧ N64 al := ha
 obtain ⟨c, hcv⟩ : ∃ c, clsV s (ah : Int) (al : Int) = c := ⟨_, rfl⟩
 have hc1 : c = 2 ∨ c = 5 := by rw [← hcv]; exact hc
 have HC := lH (fun W => rclass_at s (ah : Int) (al : Int) (by unfold U6; have := ha.1; unfold N64 at this; omega) (by unfold U6; have := ha.2; unfold N64 at this; omega) hcv W)
 have HWd := lH (fun W => rwidth_at s (ah : Int) (al : Int) (wd s : Int) rfl W)
 obtain ⟨xb, hxb⟩ : ∃ xb, w.heap.size = xb := ⟨_, rfl⟩
 obtain ⟨W0, hW0⟩ : ∃ W, w.alloc (.cells #[.bool s, .int .u64 (ah : Int), .int .u64 (al : Int)] 28) = W := ⟨_, rfl⟩
 have hX : Blk W0 xb 28 #[.bool s, .int .u64 (ah : Int), .int .u64 (al : Int)] := hW0 ▸ hxb ▸ Blk.new _ _ _
 have x0 := (hX.cell 0).trans (show _ = some (Value.bool s) by rfl)
 have x1 := (hX.cell 1).trans (show _ = some (Value.int .u64 (ah : Int)) by rfl)
 have x2 := (hX.cell 2).trans (show _ = some (Value.int .u64 (al : Int)) by rfl)
 have HT0 : Hid (Tch w W0 []) := lH (hW0 ▸ (Tch.refl w []).alloc _)
 have hD0 := h.tch HT0.out (by simp)
 have HD0 := lH hD0
 have HTh := lH (there_any t S st port W0 hD0)
 have HW0 := lH (And.intro hW0 hxb)
 have HX := lH hX
 rw [hth] at HTh
 have HTt := lH hth
 have hb2 : (wd s : Int) < bits := hb2
 clear hW0 hxb h hth hX ha hcv hc hD0
 have hcc : ∀ c : Int, c = 2 ∨ c = 5 → (c != 2 && c != 5) = false := by rintro c (rfl | rfl) <;> rfl
 have bc := hcc c hc1
 clear hcc
 have key : ∀ (b2 b5 : Bool), (c == (2 : Int)) = b2 → (c == (5 : Int)) = b5 → (b2 = true ∨ b2 = false ∧ b5 = true) → True := fun _ _ _ _ _ => trivial
 clear key
 rcases hc1 with rfl | rfl <;> clear bc
 all_goals
  go_enter Tryz.func92, Tryz.ntmps92
  go_wp2_with fail
  rw [HW0.out.1, HW0.out.2]
  refine cZm HTh.out ?_
  rintro e w' ⟨rfl, rfl⟩
  go_wp2_with fail
  refine cZm (HC.out _) ?_
  rintro e w1 ⟨rfl, hb1⟩
  have hT1 := Tch.of_below [] hb1
  have hB1 := hT1.blk HX.out (by simp)
  have y0 := (hB1.cell 0).trans (show _ = some (Value.bool s) by rfl)
  have y1 := (hB1.cell 1).trans (show _ = some (Value.int .u64 (ah : Int)) by rfl)
  have y2 := (hB1.cell 2).trans (show _ = some (Value.int .u64 (al : Int)) by rfl)
  have HT1 := lH (HT0.out.trans_fre hT1 (by simp))
  have HX1 := lH hB1
  have HD1 := lH (HD0.out.tch hT1 (by simp))
  clear hB1 hb1 hT1 x0 x1 x2
  go_wp2_with fail
  refine cZm (HWd.out _) ?_
  rintro e w2 ⟨rfl, hb2⟩
  have hT2 := Tch.of_below [] hb2
  have hB2 := hT2.blk HX1.out (by simp)
  have z0 := (hB2.cell 0).trans (show _ = some (Value.bool s) by rfl)
  have z1 := (hB2.cell 1).trans (show _ = some (Value.int .u64 (ah : Int)) by rfl)
  have z2 := (hB2.cell 2).trans (show _ = some (Value.int .u64 (al : Int)) by rfl)
  have HT2 := lH (HT1.out.trans_fre hT2 (by simp))
  have HX2 := lH hB2
  have HD2 := lH (HD1.out.tch hT2 (by simp))
  clear hB2 hb2 hT2 y0 y1 y2
  go_wp2_with fail
  exact bodyPost_ret (v := .int .i64 133) (by simp [results, Tryz.results92, go_sem]) rfl ⟨by rw [HE.out], by rw [HE.out], HT2.out⟩
theorem putD_mine (t : Nat) (S : List Nat) (st : StI) (port : Int) (a : AdI) (ha : N64 a.2.1 ∧ N64 a.2.2) (bits : Int) (hth : thereI st port = true) (hc : clsI a = 2 ∨ clsI a = 5) (hb : 1 ≤ bits) (hb2 : bits ≤ (wd a.1 : Int)) (hmi : mineI st.2 a ≠ 0) (w : World) (h : IfD w t S st) :
  Calls Tryz.prog 92 #[.pointer (some ⟨t, 0, none⟩), .int .i64 port, adV a, .int .i64 bits] w fun e w' => e = .returned (.int .i64 (putI st port a bits).2) ∧ (putI st port a bits).1 = st ∧ Tch w w' [] := by
 have HE : Hid (putI st port a bits = (st, 133)) := lH (by unfold putI; rw [if_neg (by rw [hth]; simp), if_pos (by unfold adOk; simp [hmi])])
 have HMi := lH (fun W h => mineD t S st a W h)
 obtain ⟨s, ah, al⟩ := a
 have ha : N64 ah ∧ N64 al := ha
 obtain ⟨c, hcv⟩ : ∃ c, clsV s (ah : Int) (al : Int) = c := ⟨_, rfl⟩
 have hc1 : c = 2 ∨ c = 5 := by rw [← hcv]; exact hc
 have HC := lH (fun W => rclass_at s (ah : Int) (al : Int) (by unfold U6; have := ha.1; unfold N64 at this; omega) (by unfold U6; have := ha.2; unfold N64 at this; omega) hcv W)
 have HWd := lH (fun W => rwidth_at s (ah : Int) (al : Int) (wd s : Int) rfl W)
 obtain ⟨xb, hxb⟩ : ∃ xb, w.heap.size = xb := ⟨_, rfl⟩
 obtain ⟨W0, hW0⟩ : ∃ W, w.alloc (.cells #[.bool s, .int .u64 (ah : Int), .int .u64 (al : Int)] 28) = W := ⟨_, rfl⟩
 have hX : Blk W0 xb 28 #[.bool s, .int .u64 (ah : Int), .int .u64 (al : Int)] := hW0 ▸ hxb ▸ Blk.new _ _ _
 have x0 := (hX.cell 0).trans (show _ = some (Value.bool s) by rfl)
 have x1 := (hX.cell 1).trans (show _ = some (Value.int .u64 (ah : Int)) by rfl)
 have x2 := (hX.cell 2).trans (show _ = some (Value.int .u64 (al : Int)) by rfl)
 have HT0 : Hid (Tch w W0 []) := lH (hW0 ▸ (Tch.refl w []).alloc _)
 have hD0 := h.tch HT0.out (by simp)
 have HD0 := lH hD0
 have HTh := lH (there_any t S st port W0 hD0)
 have HW0 := lH (And.intro hW0 hxb)
 have HX := lH hX
 rw [hth] at HTh
 have HTt := lH hth
 have hb2 : bits ≤ (wd s : Int) := hb2
 have mi : (0 : Int) < (mineI st.2 (s, ah, al) : Int) := by omega
 clear hW0 hxb h hth hX ha hcv hc hD0
 have hcc : ∀ c : Int, c = 2 ∨ c = 5 → (c != 2 && c != 5) = false := by rintro c (rfl | rfl) <;> rfl
 have bc := hcc c hc1
 clear hcc
 have key : ∀ (b2 b5 : Bool), (c == (2 : Int)) = b2 → (c == (5 : Int)) = b5 → (b2 = true ∨ b2 = false ∧ b5 = true) → True := fun _ _ _ _ _ => trivial
 clear key
 rcases hc1 with rfl | rfl <;> clear bc
 all_goals
  go_enter Tryz.func92, Tryz.ntmps92
  go_wp2_with fail
  rw [HW0.out.1, HW0.out.2]
  refine cZm HTh.out ?_
  rintro e w' ⟨rfl, rfl⟩
  go_wp2_with fail
  refine cZm (HC.out _) ?_
  rintro e w1 ⟨rfl, hb1⟩
  have hT1 := Tch.of_below [] hb1
  have hB1 := hT1.blk HX.out (by simp)
  have y0 := (hB1.cell 0).trans (show _ = some (Value.bool s) by rfl)
  have y1 := (hB1.cell 1).trans (show _ = some (Value.int .u64 (ah : Int)) by rfl)
  have y2 := (hB1.cell 2).trans (show _ = some (Value.int .u64 (al : Int)) by rfl)
  have HT1 := lH (HT0.out.trans_fre hT1 (by simp))
  have HX1 := lH hB1
  have HD1 := lH (HD0.out.tch hT1 (by simp))
  clear hB1 hb1 hT1 x0 x1 x2
  go_wp2_with fail
  refine cZm (HWd.out _) ?_
  rintro e w2 ⟨rfl, hb2⟩
  have hT2 := Tch.of_below [] hb2
  have hB2 := hT2.blk HX1.out (by simp)
  have z0 := (hB2.cell 0).trans (show _ = some (Value.bool s) by rfl)
  have z1 := (hB2.cell 1).trans (show _ = some (Value.int .u64 (ah : Int)) by rfl)
  have z2 := (hB2.cell 2).trans (show _ = some (Value.int .u64 (al : Int)) by rfl)
  have HT2 := lH (HT1.out.trans_fre hT2 (by simp))
  have HX2 := lH hB2
  have HD2 := lH (HD1.out.tch hT2 (by simp))
  clear hB2 hb2 hT2 y0 y1 y2
  go_wp2_with fail
  refine cZm (HMi.out _ HD2.out) ?_
  rintro e w3 ⟨rfl, hT3⟩
  have hB3 := hT3.blk HX2.out (by simp)
  have v0 := (hB3.cell 0).trans (show _ = some (Value.bool s) by rfl)
  have HT3 := lH (HT2.out.trans_fre hT3 (by simp))
  obtain ⟨gP, cP, gL, cL, A, c, n, i, r0, r1, r2, r3, r4, r5, r6⟩ := (HD2.out.tch hT3 (by simp)).reads HTt.out
  clear hB3 hT3 z0 z1 z2
  go_wp2_with fail
  exact bodyPost_ret (v := .int .i64 133) (by simp [results, Tryz.results92, go_sem]) rfl ⟨by rw [HE.out], by rw [HE.out], HT3.out⟩
end Go.Proofs.YtgfkmgbcajdcdaaGreatDoor.Ifs

namespace Go.Proofs.YtgfkmgbcajdcdaaGreatDoor.Ifs
open Go.RowKit

theorem putD_mtu (t : Nat) (S : List Nat) (st : StI) (port : Int) (a : AdI) (ha : N64 a.2.1 ∧ N64 a.2.2) (bits : Int) (hth : thereI st port = true) (hc : clsI a = 2 ∨ clsI a = 5) (hb : 1 ≤ bits) (hb2 : bits ≤ (wd a.1 : Int)) (hmi : mineI st.2 a = 0) (hs : a.1 = true) (hmt : mtuI st port < 1280) (w : World) (h : IfD w t S st) :
  Calls Tryz.prog 92 #[.pointer (some ⟨t, 0, none⟩), .int .i64 port, adV a, .int .i64 bits] w fun e w' => e = .returned (.int .i64 (putI st port a bits).2) ∧ (putI st port a bits).1 = st ∧ Tch w w' [] := by
 have HE : Hid (putI st port a bits = (st, 133)) := lH (by unfold putI; rw [if_neg (by rw [hth]; simp), if_pos (by unfold adOk; simp [hs, hmt])])
 have HMi := lH (fun W h => mineD t S st a W h)
 obtain ⟨s, ah, al⟩ := a
 have ha : N64 ah ∧ N64 al := ha
 obtain ⟨c, hcv⟩ : ∃ c, clsV s (ah : Int) (al : Int) = c := ⟨_, rfl⟩
 have hc1 : c = 2 ∨ c = 5 := by rw [← hcv]; exact hc
 have HC := lH (fun W => rclass_at s (ah : Int) (al : Int) (by unfold U6; have := ha.1; unfold N64 at this; omega) (by unfold U6; have := ha.2; unfold N64 at this; omega) hcv W)
 have HWd := lH (fun W => rwidth_at s (ah : Int) (al : Int) (wd s : Int) rfl W)
 obtain ⟨xb, hxb⟩ : ∃ xb, w.heap.size = xb := ⟨_, rfl⟩
 obtain ⟨W0, hW0⟩ : ∃ W, w.alloc (.cells #[.bool s, .int .u64 (ah : Int), .int .u64 (al : Int)] 28) = W := ⟨_, rfl⟩
 have hX : Blk W0 xb 28 #[.bool s, .int .u64 (ah : Int), .int .u64 (al : Int)] := hW0 ▸ hxb ▸ Blk.new _ _ _
 have x0 := (hX.cell 0).trans (show _ = some (Value.bool s) by rfl)
 have x1 := (hX.cell 1).trans (show _ = some (Value.int .u64 (ah : Int)) by rfl)
 have x2 := (hX.cell 2).trans (show _ = some (Value.int .u64 (al : Int)) by rfl)
 have HT0 : Hid (Tch w W0 []) := lH (hW0 ▸ (Tch.refl w []).alloc _)
 have hD0 := h.tch HT0.out (by simp)
 have HD0 := lH hD0
 have HTh := lH (there_any t S st port W0 hD0)
 have HW0 := lH (And.intro hW0 hxb)
 have HX := lH hX
 rw [hth] at HTh
 have HTt := lH hth
 have hb2 : bits ≤ (wd s : Int) := hb2
 rw [show mineI st.2 (s, ah, al) = 0 from hmi] at HMi
 have HSt : Hid (s = true) := lH hs
 clear hs
 clear hW0 hxb h hth hX ha hcv hc hD0
 have hcc : ∀ c : Int, c = 2 ∨ c = 5 → (c != 2 && c != 5) = false := by rintro c (rfl | rfl) <;> rfl
 have bc := hcc c hc1
 clear hcc
 have key : ∀ (b2 b5 : Bool), (c == (2 : Int)) = b2 → (c == (5 : Int)) = b5 → (b2 = true ∨ b2 = false ∧ b5 = true) → True := fun _ _ _ _ _ => trivial
 clear key
 rcases hc1 with rfl | rfl <;> clear bc
 all_goals
  go_enter Tryz.func92, Tryz.ntmps92
  go_wp2_with fail
  rw [HW0.out.1, HW0.out.2]
  refine cZm HTh.out ?_
  rintro e w' ⟨rfl, rfl⟩
  go_wp2_with fail
  refine cZm (HC.out _) ?_
  rintro e w1 ⟨rfl, hb1⟩
  have hT1 := Tch.of_below [] hb1
  have hB1 := hT1.blk HX.out (by simp)
  have y0 := (hB1.cell 0).trans (show _ = some (Value.bool s) by rfl)
  have y1 := (hB1.cell 1).trans (show _ = some (Value.int .u64 (ah : Int)) by rfl)
  have y2 := (hB1.cell 2).trans (show _ = some (Value.int .u64 (al : Int)) by rfl)
  have HT1 := lH (HT0.out.trans_fre hT1 (by simp))
  have HX1 := lH hB1
  have HD1 := lH (HD0.out.tch hT1 (by simp))
  clear hB1 hb1 hT1 x0 x1 x2
  go_wp2_with fail
  refine cZm (HWd.out _) ?_
  rintro e w2 ⟨rfl, hb2⟩
  have hT2 := Tch.of_below [] hb2
  have hB2 := hT2.blk HX1.out (by simp)
  have z0 := (hB2.cell 0).trans (show _ = some (Value.bool s) by rfl)
  have z1 := (hB2.cell 1).trans (show _ = some (Value.int .u64 (ah : Int)) by rfl)
  have z2 := (hB2.cell 2).trans (show _ = some (Value.int .u64 (al : Int)) by rfl)
  have HT2 := lH (HT1.out.trans_fre hT2 (by simp))
  have HX2 := lH hB2
  have HD2 := lH (HD1.out.tch hT2 (by simp))
  clear hB2 hb2 hT2 y0 y1 y2
  go_wp2_with fail
  refine cZm (HMi.out _ HD2.out) ?_
  rintro e w3 ⟨rfl, hT3⟩
  have hB3 := hT3.blk HX2.out (by simp)
  have v0 := (hB3.cell 0).trans (show _ = some (Value.bool s) by rfl)
  have HT3 := lH (HT2.out.trans_fre hT3 (by simp))
  obtain ⟨gP, cP, gL, cL, A, c, n, i, r0, r1, r2, r3, r4, r5, r6⟩ := (HD2.out.tch hT3 (by simp)).reads HTt.out
  clear hB3 hT3 z0 z1 z2
  have i0 : (0 : Int) ≤ (i : Int) := by omega
  have i1 : (i : Int) < (n : Int) := by omega
  have hs := HSt.out
  clear HSt
  subst hs
  go_wp2_with fail
  exact bodyPost_ret (v := .int .i64 133) (by simp [results, Tryz.results92, go_sem]) rfl ⟨by rw [HE.out], by rw [HE.out], HT3.out⟩
theorem putD_full (t : Nat) (S : List Nat) (st : StI) (port : Int) (a : AdI) (ha : N64 a.2.1 ∧ N64 a.2.2) (bits : Int) (hth : thereI st port = true) (hc : clsI a = 2 ∨ clsI a = 5) (hb : 1 ≤ bits) (hb2 : bits ≤ (wd a.1 : Int)) (hmi : mineI st.2 a = 0) (hs : a.1 = false ∨ 1280 ≤ mtuI st port) (hf : 8 ≤ (locI st port).length) (w : World) (h : IfD w t S st) :
  Calls Tryz.prog 92 #[.pointer (some ⟨t, 0, none⟩), .int .i64 port, adV a, .int .i64 bits] w fun e w' => e = .returned (.int .i64 (putI st port a bits).2) ∧ (putI st port a bits).1 = st ∧ Tch w w' [] := by
 have HE : Hid (putI st port a bits = (st, 131)) := lH (by unfold putI; rw [if_neg (by rw [hth]; simp), if_neg (by unfold adOk; have hb3 := hb2; rcases hc with h1 | h1 <;> rcases hs with h2 | h2 <;> first | (rw [h2] at hb3; simp [h1, h2, hb, hb3, hmi]) | simp [h1, h2, hb, hb2, hmi]), if_pos hf])
 have HMi := lH (fun W h => mineD t S st a W h)
 obtain ⟨s, ah, al⟩ := a
 have ha : N64 ah ∧ N64 al := ha
 obtain ⟨c, hcv⟩ : ∃ c, clsV s (ah : Int) (al : Int) = c := ⟨_, rfl⟩
 have hc1 : c = 2 ∨ c = 5 := by rw [← hcv]; exact hc
 have HC := lH (fun W => rclass_at s (ah : Int) (al : Int) (by unfold U6; have := ha.1; unfold N64 at this; omega) (by unfold U6; have := ha.2; unfold N64 at this; omega) hcv W)
 have HWd := lH (fun W => rwidth_at s (ah : Int) (al : Int) (wd s : Int) rfl W)
 obtain ⟨xb, hxb⟩ : ∃ xb, w.heap.size = xb := ⟨_, rfl⟩
 obtain ⟨W0, hW0⟩ : ∃ W, w.alloc (.cells #[.bool s, .int .u64 (ah : Int), .int .u64 (al : Int)] 28) = W := ⟨_, rfl⟩
 have hX : Blk W0 xb 28 #[.bool s, .int .u64 (ah : Int), .int .u64 (al : Int)] := hW0 ▸ hxb ▸ Blk.new _ _ _
 have x0 := (hX.cell 0).trans (show _ = some (Value.bool s) by rfl)
 have x1 := (hX.cell 1).trans (show _ = some (Value.int .u64 (ah : Int)) by rfl)
 have x2 := (hX.cell 2).trans (show _ = some (Value.int .u64 (al : Int)) by rfl)
 have HT0 : Hid (Tch w W0 []) := lH (hW0 ▸ (Tch.refl w []).alloc _)
 have hD0 := h.tch HT0.out (by simp)
 have HD0 := lH hD0
 have HTh := lH (there_any t S st port W0 hD0)
 have HW0 := lH (And.intro hW0 hxb)
 have HX := lH hX
 rw [hth] at HTh
 have HTt := lH hth
 have hb2 : bits ≤ (wd s : Int) := hb2
 rw [show mineI st.2 (s, ah, al) = 0 from hmi] at HMi
 have l8 : (8 : Int) ≤ ((locI st port).length : Int) := by omega
 have hs : s = false ∨ (s = true ∧ 1280 ≤ mtuI st port) := by cases s with | false => exact .inl rfl | true => exact .inr ⟨rfl, by rcases hs with h | h; cases h; exact h⟩
 clear hW0 hxb h hth hX ha hcv hc hD0
 have hcc : ∀ c : Int, c = 2 ∨ c = 5 → (c != 2 && c != 5) = false := by rintro c (rfl | rfl) <;> rfl
 have bc := hcc c hc1
 clear hcc
 have key : ∀ (b2 b5 : Bool), (c == (2 : Int)) = b2 → (c == (5 : Int)) = b5 → (b2 = true ∨ b2 = false ∧ b5 = true) → True := fun _ _ _ _ _ => trivial
 clear key
 rcases hc1 with rfl | rfl <;> clear bc
 all_goals
  go_enter Tryz.func92, Tryz.ntmps92
  go_wp2_with fail
  rw [HW0.out.1, HW0.out.2]
  refine cZm HTh.out ?_
  rintro e w' ⟨rfl, rfl⟩
  go_wp2_with fail
  refine cZm (HC.out _) ?_
  rintro e w1 ⟨rfl, hb1⟩
  have hT1 := Tch.of_below [] hb1
  have hB1 := hT1.blk HX.out (by simp)
  have y0 := (hB1.cell 0).trans (show _ = some (Value.bool s) by rfl)
  have y1 := (hB1.cell 1).trans (show _ = some (Value.int .u64 (ah : Int)) by rfl)
  have y2 := (hB1.cell 2).trans (show _ = some (Value.int .u64 (al : Int)) by rfl)
  have HT1 := lH (HT0.out.trans_fre hT1 (by simp))
  have HX1 := lH hB1
  have HD1 := lH (HD0.out.tch hT1 (by simp))
  clear hB1 hb1 hT1 x0 x1 x2
  go_wp2_with fail
  refine cZm (HWd.out _) ?_
  rintro e w2 ⟨rfl, hb2⟩
  have hT2 := Tch.of_below [] hb2
  have hB2 := hT2.blk HX1.out (by simp)
  have z0 := (hB2.cell 0).trans (show _ = some (Value.bool s) by rfl)
  have z1 := (hB2.cell 1).trans (show _ = some (Value.int .u64 (ah : Int)) by rfl)
  have z2 := (hB2.cell 2).trans (show _ = some (Value.int .u64 (al : Int)) by rfl)
  have HT2 := lH (HT1.out.trans_fre hT2 (by simp))
  have HX2 := lH hB2
  have HD2 := lH (HD1.out.tch hT2 (by simp))
  clear hB2 hb2 hT2 y0 y1 y2
  go_wp2_with fail
  refine cZm (HMi.out _ HD2.out) ?_
  rintro e w3 ⟨rfl, hT3⟩
  have hB3 := hT3.blk HX2.out (by simp)
  have v0 := (hB3.cell 0).trans (show _ = some (Value.bool s) by rfl)
  have HT3 := lH (HT2.out.trans_fre hT3 (by simp))
  obtain ⟨gP, cP, gL, cL, A, c, n, i, r0, r1, r2, r3, r4, r5, r6⟩ := (HD2.out.tch hT3 (by simp)).reads HTt.out
  clear hB3 hT3 z0 z1 z2
  have i0 : (0 : Int) ≤ (i : Int) := by omega
  have i1 : (i : Int) < (n : Int) := by omega
  rcases hs with rfl | ⟨rfl, m1⟩
  all_goals go_wp2_with fail
  all_goals exact bodyPost_ret (v := .int .i64 131) (by simp [results, Tryz.results92, go_sem]) rfl ⟨by rw [HE.out], by rw [HE.out], HT3.out⟩
theorem putD_bad (t : Nat) (S : List Nat) (st : StI) (port : Int) (a : AdI) (ha : N64 a.2.1 ∧ N64 a.2.2) (bits : Int) (hb : thereI st port = false ∨ adOk st port a bits = false ∨ 8 ≤ (locI st port).length) (w : World) (h : IfD w t S st) :
  Calls Tryz.prog 92 #[.pointer (some ⟨t, 0, none⟩), .int .i64 port, adV a, .int .i64 bits] w fun e w' => e = .returned (.int .i64 (putI st port a bits).2) ∧ (putI st port a bits).1 = st ∧ Tch w w' [] := by
 cases hth : thereI st port with
 | false => exact putD_none t S st port a bits hth w h
 | true =>
  by_cases hc : clsI a = 2 ∨ clsI a = 5
  ·by_cases h1 : bits < 1
   ·exact putD_low t S st port a ha bits hth hc h1 w h
   ·by_cases h2 : (wd a.1 : Int) < bits
    ·exact putD_wide t S st port a ha bits hth hc (by omega) h2 w h
    ·by_cases h3 : mineI st.2 a = 0
     ·by_cases h4 : a.1 = true ∧ mtuI st port < 1280
      ·exact putD_mtu t S st port a ha bits hth hc (by omega) (by omega) h3 h4.1 h4.2 w h
      ·have h5 : a.1 = false ∨ 1280 ≤ mtuI st port := by
        cases h6 : a.1 with
        | false => exact .inl rfl
        | true => exact .inr (by have : ¬ mtuI st port < 1280 := fun x => h4 ⟨h6, x⟩; omega)
       refine putD_full t S st port a ha bits hth hc (by omega) (by omega) h3 h5 ?_ w h
       rcases hb with x | x | x
       ·rw [hth] at x; cases x
       ·exfalso
        unfold adOk at x
        rw [decide_eq_true (show mineI st.2 a = 0 from h3), decide_eq_true (show 1 ≤ bits ∧ bits ≤ (wd a.1 : Int) by omega)] at x
        rcases hc with y | y <;> rcases h5 with z | z <;> simp [y, z] at x <;> omega
       ·exact x
     ·exact putD_mine t S st port a ha bits hth hc (by omega) (by omega) h3 w h
  ·exact putD_cls t S st port a ha bits hth ⟨fun x => hc (.inl x), fun x => hc (.inr x)⟩ w h
end Go.Proofs.YtgfkmgbcajdcdaaGreatDoor.Ifs

namespace Go.Proofs.YtgfkmgbcajdcdaaGreatDoor.Ifs
open Go.RowKit

end Go.Proofs.YtgfkmgbcajdcdaaGreatDoor.Ifs

namespace Go.Proofs.YtgfkmgbcajdcdaaGreatDoor.Ifs
open Go.RowKit

theorem flat_set {lv : List Value} {v : Value} {B i : Nat} (h : (lv.flatMap obI).Nodup) (hlt : ∀ s ∈ lv.flatMap obI, s < B) (hv : ∀ s ∈ obI v, B ≤ s) : ((lv.set i v).flatMap obI).Nodup ∧ ∀ s ∈ (lv.set i v).flatMap obI, s ∈ lv.flatMap obI ∨ s ∈ obI v := by
 induction lv generalizing i with
 | nil => simp
 | cons y r ih =>
  rw [List.flatMap_cons, List.nodup_append] at h
  rw [List.flatMap_cons] at hlt
  obtain ⟨h1, h2, h3⟩ := h
  cases i with
  | zero =>
   rw [List.set_cons_zero, List.flatMap_cons, List.flatMap_cons, List.nodup_append]
   refine ⟨⟨obI_nodup v, h2, fun a ha b hb e => ?_⟩, fun s hs => ?_⟩
   ·have := hv a ha
    have := hlt b (List.mem_append_right _ hb)
    omega
   ·rcases List.mem_append.1 hs with h4 | h4
    ·exact .inr h4
    ·exact .inl (List.mem_append_right _ h4)
  | succ i =>
   obtain ⟨k1, k2⟩ := ih (i := i) h2 (fun s hs => hlt s (List.mem_append_right _ hs))
   rw [List.set_cons_succ, List.flatMap_cons, List.flatMap_cons, List.nodup_append]
   refine ⟨⟨h1, k1, fun a ha b hb e => ?_⟩, fun s hs => ?_⟩
   ·rcases k2 b hb with h4 | h4
    ·exact h3 a ha b h4 e
    ·have := hv b h4
     have := hlt a (List.mem_append_left _ ha)
     omega
   ·rcases List.mem_append.1 hs with h4 | h4
    ·exact .inl (List.mem_append_left _ h4)
    ·rcases k2 s h4 with h5 | h5
     ·exact .inl (List.mem_append_right _ h5)
     ·exact .inr h5
theorem IfD.inner {w W : World} {t i : Nat} {S : List Nat} {st : StI} {A' : Option Addr} {c' : Nat} {l' : List Loc} (h : IfD w t S st) (hi : i < st.1.length) (hT : Tch w W []) (hown : W.ownsRow w.heap.size 202 4 (.slice A' l'.length c') l'.length (l'.flatMap lcC)) (hinv : InvI (st.1, st.2.set i l')) :
  ∃ (gL cL : Nat) (S' : List Nat), W.cell? ⟨t, 1, none⟩ = some (.slice (some ⟨gL, 0, none⟩) st.1.length cL) ∧ W.frozen? ⟨gL, i, none⟩ = false ∧ (∃ u, W.cell? ⟨gL, i, none⟩ = some u) ∧
   IfD (W.setCell ⟨gL, i, none⟩ (.slice A' l'.length c')) t S' (st.1, st.2.set i l') ∧ Goes w (W.setCell ⟨gL, i, none⟩ (.slice A' l'.length c')) S S' := by
 have hlt := h.lt
 obtain ⟨AP, AL, cP, cL, lv, rfl, h2, h3, h4, h5, h6, h7, h8⟩ := h
 obtain ⟨gL, rfl⟩ := slice_some h5 (by omega)
 have eL : obI (.slice (some ⟨gL, 0, none⟩) st.1.length cL) = [gL] := obI_some rfl
 rw [eL] at h2 hlt ⊢
 have hv : ∀ s ∈ obI (.slice A' l'.length c'), w.heap.size ≤ s := by
  intro s hs
  unfold obI at hs
  cases hb : (Value.slice A' l'.length c').ownBlock with
  | none => rw [hb] at hs; cases hs
  | some k => rw [hb] at hs; rw [List.mem_singleton.1 hs]; exact own_basek hown k hb
 rw [List.nodup_cons, List.nodup_append, List.nodup_append] at h2
 obtain ⟨n1, n2, ⟨n3, n5, n6⟩, n4⟩ := h2
 have hltI : ∀ s ∈ lv.flatMap obI, s < w.heap.size := fun s hs => hlt s (List.mem_cons_of_mem _ (List.mem_append_right _ (List.mem_append_right _ hs)))
 obtain ⟨f1, f2⟩ := flat_set (i := i) (v := .slice A' l'.length c') n5 hltI hv
 have hgl : gL < w.heap.size := hlt gL (by simp)
 have tP : ∀ s ∈ obI (.slice AP st.1.length cP), s ∉ [gL] := fun s hs hm => n4 s hs gL (by simp) (List.mem_singleton.1 hm)
 have tt : t ∉ [gL] := fun hm => n1 (by rw [List.mem_singleton.1 hm]; simp)
 have tI : ∀ s ∈ lv.flatMap obI, s ∉ [gL] := fun s hs hm => n6 gL (by simp) s hs (List.mem_singleton.1 hm).symm
 have hTs : Tch W (W.setCell ⟨gL, i, none⟩ (.slice A' l'.length c')) [gL] := (Tch.refl W [gL]).set_ (p := ⟨gL, i, none⟩) (by simp) _
 have r5 := own_tch h5 hT (fun s _ => by simp)
 have hfr := own_frozen r5 i
 have hce := own_cell r5 (List.getElem?_eq_getElem (l := lv) (i := i) (by omega))
 have hlen := h8.len
 refine ⟨gL, cL, t :: (obI (.slice AP st.1.length cP) ++ ([gL] ++ (lv.set i (.slice A' l'.length c')).flatMap obI)), ((hT.blk h3 (by simp)).cell 1).trans rfl, hfr, ⟨_, hce⟩, ⟨AP, some ⟨gL, 0, none⟩, cP, cL, lv.set i (.slice A' l'.length c'), by rw [eL], ?_, hTs.blk (hT.blk h3 (by simp)) tt, own_tch (own_tch h4 hT (fun s _ => by simp)) hTs tP, own_set1 r5 hi _, by simp [h6], fun j l hl => ?_, hinv⟩, ⟨?_, fun s hs => ?_⟩⟩
 ·rw [List.nodup_cons, List.nodup_append, List.nodup_append]
  refine ⟨fun hm => ?_, n2, ⟨n3, f1, fun a ha b hb e => ?_⟩, fun a ha b hb e => ?_⟩
  ·rcases List.mem_append.1 hm with k | k
   ·exact n1 (List.mem_append_left _ k)
   rcases List.mem_append.1 k with k | k
   ·exact n1 (List.mem_append_right _ (List.mem_append_left _ k))
   ·rcases f2 t k with k | k
    ·exact n1 (List.mem_append_right _ (List.mem_append_right _ k))
    ·have := hv t k; have := h3.lt; omega
  ·rcases f2 b hb with k | k
   ·exact n6 a ha b k e
   ·have := hv b k; have := List.mem_singleton.1 ha; omega
  ·rcases List.mem_append.1 hb with k | k
   ·exact n4 a ha b (List.mem_append_left _ k) e
   ·rcases f2 b k with k | k
    ·exact n4 a ha b (List.mem_append_right _ k) e
    ·have := hv b k
     have := hlt a (List.mem_cons_of_mem _ (List.mem_append_left _ ha))
     omega
 ·by_cases hj : j = i
  ·subst hj
   have hl : (st.2.set j l')[j]? = some l := hl
   rw [List.getElem?_set_self (by omega)] at hl
   injection hl with hl
   subst hl
   exact ⟨A', c', by rw [List.getElem?_set_self (by omega)], own_mono (own_tch hown hTs (fun s hs hm => by have := hv s hs; have := List.mem_singleton.1 hm; omega)) (Nat.zero_le _)⟩
  ·have hl : (st.2.set i l')[j]? = some l := hl
   rw [List.getElem?_set_ne (fun e => hj e.symm)] at hl
   obtain ⟨A, c, e, ho⟩ := h7 j l hl
   exact ⟨A, c, by rw [List.getElem?_set_ne (fun e => hj e.symm)]; exact e, own_tch (own_tch ho hT (fun s _ => by simp)) hTs (fun s hs => tI s (List.mem_flatMap.2 ⟨_, List.mem_of_getElem? e, hs⟩))⟩
 ·exact (hT.mono (by simp)).set_ (p := ⟨gL, i, none⟩) (by simp) _
 ·rcases List.mem_cons.1 hs with k | k
  ·exact .inl (by rw [k]; simp)
  rcases List.mem_append.1 k with k | k
  ·exact .inl (List.mem_cons_of_mem _ (List.mem_append_left _ k))
  rcases List.mem_append.1 k with k | k
  ·exact .inl (List.mem_cons_of_mem _ (List.mem_append_right _ (List.mem_append_left _ k)))
  ·rcases f2 s k with k | k
   ·exact .inl (List.mem_cons_of_mem _ (List.mem_append_right _ (List.mem_append_right _ k)))
   ·exact .inr (hv s k)
end Go.Proofs.YtgfkmgbcajdcdaaGreatDoor.Ifs
