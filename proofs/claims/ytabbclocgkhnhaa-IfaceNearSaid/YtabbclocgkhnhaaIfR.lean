/-
  The document's own set of ports (layer 14): Put, its refusals.
-/
import Derived.Test.YtabbclocgkhnhaaIfQ
import Derived.Test.YtabbclocgkhnhaaIfS
namespace Go.Proofs.Ytabbclocgkhnhaa
open Go.RowKit
set_option linter.unusedVariables false

set_option maxRecDepth 100000 in
set_option maxHeartbeats 4000000 in
/-- No such port. -/
theorem putD_none (t : Nat) (S : List Nat) (st : StI) (port : Int) (a : AdI) (bits : Int) (hth : thereI st port = false) (w : World) (h : IfD w t S st) :
    Calls Try.prog 30 #[.pointer (some ⟨t, 0, none⟩), .int .i64 port, adV a, .int .i64 bits] w fun e w' => e = .returned (.int .i64 (putI st port a bits).2) ∧ (putI st port a bits).1 = st ∧ Tch w w' [] := by
  have HE : Hid (putI st port a bits = (st, 132)) := Lib.hid (by unfold putI; rw [if_pos hth])
  obtain ⟨s, ah, al⟩ := a
  obtain ⟨xb, hxb⟩ : ∃ xb, w.heap.size = xb := ⟨_, rfl⟩
  obtain ⟨W0, hW0⟩ : ∃ W, w.alloc (.cells #[.bool s, .int .u64 (ah : Int), .int .u64 (al : Int)] 34) = W := ⟨_, rfl⟩
  have HT0 : Hid (Tch w W0 []) := Lib.hid (hW0 ▸ (Tch.refl w []).alloc _)
  have HTh := Lib.hid (there_any t S st port W0 (h.tch HT0.out (by simp)))
  have HW0 := Lib.hid (And.intro hW0 hxb)
  rw [hth] at HTh
  clear hW0 hxb h hth
  go_enter Try.func30, Try.ntmps30
  go_wp2_with fail
  rw [HW0.out.1, HW0.out.2]
  refine Calls.mono HTh.out ?_
  rintro e w' ⟨rfl, rfl⟩
  go_wp2
  exact bodyPost_ret (v := .int .i64 132) (by simp [results, Try.results30, go_sem]) rfl ⟨by rw [HE.out], by rw [HE.out], HT0.out⟩
set_option maxRecDepth 100000 in
set_option maxHeartbeats 4000000 in
/-- An address that a port cannot have, by its class. -/
theorem putD_cls (t : Nat) (S : List Nat) (st : StI) (port : Int) (a : AdI) (ha : N64 a.2.1 ∧ N64 a.2.2) (bits : Int) (hth : thereI st port = true) (hc : clsI a ≠ 2 ∧ clsI a ≠ 5) (w : World) (h : IfD w t S st) :
    Calls Try.prog 30 #[.pointer (some ⟨t, 0, none⟩), .int .i64 port, adV a, .int .i64 bits] w fun e w' => e = .returned (.int .i64 (putI st port a bits).2) ∧ (putI st port a bits).1 = st ∧ Tch w w' [] := by
  have HE : Hid (putI st port a bits = (st, 133)) := Lib.hid (by unfold putI; rw [if_neg (by rw [hth]; simp), if_pos (by unfold adOk; simp [hc.1, hc.2])])
  obtain ⟨s, ah, al⟩ := a
  have ha : N64 ah ∧ N64 al := ha
  obtain ⟨c, hcv⟩ : ∃ c, clsV s (ah : Int) (al : Int) = c := ⟨_, rfl⟩
  have hc1 : c ≠ 2 ∧ c ≠ 5 := by rw [← hcv]; exact hc
  have b2 : (c == (2 : Int)) = false := by simpa using hc1.1
  have b5 : (c == (5 : Int)) = false := by simpa using hc1.2
  have HC := Lib.hid (fun W => rclass_at s (ah : Int) (al : Int) (by unfold U6; have := ha.1; unfold N64 at this; omega) (by unfold U6; have := ha.2; unfold N64 at this; omega) hcv W)
  obtain ⟨xb, hxb⟩ : ∃ xb, w.heap.size = xb := ⟨_, rfl⟩
  obtain ⟨W0, hW0⟩ : ∃ W, w.alloc (.cells #[.bool s, .int .u64 (ah : Int), .int .u64 (al : Int)] 34) = W := ⟨_, rfl⟩
  have hX : Blk W0 xb 34 #[.bool s, .int .u64 (ah : Int), .int .u64 (al : Int)] := hW0 ▸ hxb ▸ Blk.new _ _ _
  have x0 := (hX.cell 0).trans (show _ = some (Value.bool s) by rfl)
  have x1 := (hX.cell 1).trans (show _ = some (Value.int .u64 (ah : Int)) by rfl)
  have x2 := (hX.cell 2).trans (show _ = some (Value.int .u64 (al : Int)) by rfl)
  have HT0 : Hid (Tch w W0 []) := Lib.hid (hW0 ▸ (Tch.refl w []).alloc _)
  have HTh := Lib.hid (there_any t S st port W0 (h.tch HT0.out (by simp)))
  have HW0 := Lib.hid (And.intro hW0 hxb)
  have HXb : Hid (w.heap.size ≤ xb) := Lib.hid (by omega)
  have HX := Lib.hid hX
  rw [hth] at HTh
  clear hW0 hxb h hth hX ha hcv hc
  go_enter Try.func30, Try.ntmps30
  go_wp2_with fail
  rw [HW0.out.1, HW0.out.2]
  refine Calls.mono HTh.out ?_
  rintro e w' ⟨rfl, rfl⟩
  go_wp2_with fail
  refine Calls.mono (HC.out _) ?_
  rintro e w1 ⟨rfl, hb1⟩
  have hB1 := (Tch.of_below [] hb1).blk HX.out (by simp)
  have y0 := (hB1.cell 0).trans (show _ = some (Value.bool s) by rfl)
  have y1 := (hB1.cell 1).trans (show _ = some (Value.int .u64 (ah : Int)) by rfl)
  have y2 := (hB1.cell 2).trans (show _ = some (Value.int .u64 (al : Int)) by rfl)
  have HB1 := Lib.hid hb1
  clear hB1 hb1 x0 x1 x2
  go_wp2_with fail
  exact bodyPost_ret (v := .int .i64 133) (by simp [results, Try.results30, go_sem]) rfl ⟨by rw [HE.out], by rw [HE.out], HT0.out.trans_fre (Tch.of_below [] HB1.out) (by simp)⟩
/-- What Put and its like read of a set at a port that is there. -/
theorem IfD.reads {W : World} {t : Nat} {S : List Nat} {st : StI} {port : Int} (h : IfD W t S st) (ht : thereI st port = true) : ∃ (gP cP gL cL : Nat) (A : Option Addr) (c n i : Nat), W.cell? ⟨t, 0, none⟩ = some (.slice (some ⟨gP, 0, none⟩) n cP) ∧ W.cell? ⟨gP, i * 4 + 2, none⟩ = some (.int .i64 (mtuI st port)) ∧
    W.cell? ⟨t, 1, none⟩ = some (.slice (some ⟨gL, 0, none⟩) n cL) ∧ W.cell? ⟨gL, i, none⟩ = some (.slice A (locI st port).length c) ∧ IntKind.i64.wrap (port - 1) = (i : Int) ∧ i < n ∧ n ≤ 8 := by
  obtain ⟨p, l, hp, hl, hle, hmt, hlt, hpe⟩ := locI_at h.inv ht
  have hf := h.few
  have hlen := h.inv.len
  obtain ⟨AP, AL, cP, cL, lv, rfl, h2, h3, h4, h5, h6, h7, h8⟩ := h
  obtain ⟨gP, rfl⟩ := slice_some h4 (by omega)
  obtain ⟨gL, rfl⟩ := slice_some h5 (by omega)
  obtain ⟨A, c, e, ho⟩ := h7 _ l hl
  refine ⟨gP, cP, gL, cL, A, c, st.1.length, idxI port, (h3.cell 0).trans rfl, ?_, (h3.cell 1).trans rfl, ?_, ?_, hlt, hf⟩
  · rw [hmt]; exact own_cellN h4 ((flat4_at (f := prC) (fun _ => rfl) hp (k := 2) (by decide)).trans rfl)
  · rw [hle]; exact own_cellN h5 e
  · rw [IntKind.wrap_i64]; omega
set_option maxRecDepth 100000 in
set_option maxHeartbeats 4000000 in
/-- Too few bits. -/
theorem putD_low (t : Nat) (S : List Nat) (st : StI) (port : Int) (a : AdI) (ha : N64 a.2.1 ∧ N64 a.2.2) (bits : Int) (hth : thereI st port = true) (hc : clsI a = 2 ∨ clsI a = 5) (hb : bits < 1) (w : World) (h : IfD w t S st) :
    Calls Try.prog 30 #[.pointer (some ⟨t, 0, none⟩), .int .i64 port, adV a, .int .i64 bits] w fun e w' => e = .returned (.int .i64 (putI st port a bits).2) ∧ (putI st port a bits).1 = st ∧ Tch w w' [] := by
  have HE : Hid (putI st port a bits = (st, 133)) := Lib.hid (by unfold putI; rw [if_neg (by rw [hth]; simp), if_pos (by unfold adOk; simp; omega)])
  have HMi := Lib.hid (fun W h => mineD t S st a W h)
  obtain ⟨s, ah, al⟩ := a
  have ha : N64 ah ∧ N64 al := ha
  obtain ⟨c, hcv⟩ : ∃ c, clsV s (ah : Int) (al : Int) = c := ⟨_, rfl⟩
  have hc1 : c = 2 ∨ c = 5 := by rw [← hcv]; exact hc
  have HC := Lib.hid (fun W => rclass_at s (ah : Int) (al : Int) (by unfold U6; have := ha.1; unfold N64 at this; omega) (by unfold U6; have := ha.2; unfold N64 at this; omega) hcv W)
  have HWd := Lib.hid (fun W => rwidth_at s (ah : Int) (al : Int) (wd s : Int) rfl W)
  obtain ⟨xb, hxb⟩ : ∃ xb, w.heap.size = xb := ⟨_, rfl⟩
  obtain ⟨W0, hW0⟩ : ∃ W, w.alloc (.cells #[.bool s, .int .u64 (ah : Int), .int .u64 (al : Int)] 34) = W := ⟨_, rfl⟩
  have hX : Blk W0 xb 34 #[.bool s, .int .u64 (ah : Int), .int .u64 (al : Int)] := hW0 ▸ hxb ▸ Blk.new _ _ _
  have x0 := (hX.cell 0).trans (show _ = some (Value.bool s) by rfl)
  have x1 := (hX.cell 1).trans (show _ = some (Value.int .u64 (ah : Int)) by rfl)
  have x2 := (hX.cell 2).trans (show _ = some (Value.int .u64 (al : Int)) by rfl)
  have HT0 : Hid (Tch w W0 []) := Lib.hid (hW0 ▸ (Tch.refl w []).alloc _)
  have hD0 := h.tch HT0.out (by simp)
  have HD0 := Lib.hid hD0
  have HTh := Lib.hid (there_any t S st port W0 hD0)
  have HW0 := Lib.hid (And.intro hW0 hxb)
  have HX := Lib.hid hX
  rw [hth] at HTh
  have HTt := Lib.hid hth
  clear hW0 hxb h hth hX ha hcv hc hD0
  have hcc : ∀ c : Int, c = 2 ∨ c = 5 → (c != 2 && c != 5) = false := by rintro c (rfl | rfl) <;> rfl
  have bc := hcc c hc1
  clear hcc
  have key : ∀ (b2 b5 : Bool), (c == (2 : Int)) = b2 → (c == (5 : Int)) = b5 → (b2 = true ∨ b2 = false ∧ b5 = true) → True := fun _ _ _ _ _ => trivial
  clear key
  rcases hc1 with rfl | rfl <;> clear bc
  all_goals
    go_enter Try.func30, Try.ntmps30
    go_wp2_with fail
    rw [HW0.out.1, HW0.out.2]
    refine Calls.mono HTh.out ?_
    rintro e w' ⟨rfl, rfl⟩
    go_wp2_with fail
    refine Calls.mono (HC.out _) ?_
    rintro e w1 ⟨rfl, hb1⟩
    have hT1 := Tch.of_below [] hb1
    have hB1 := hT1.blk HX.out (by simp)
    have y0 := (hB1.cell 0).trans (show _ = some (Value.bool s) by rfl)
    have y1 := (hB1.cell 1).trans (show _ = some (Value.int .u64 (ah : Int)) by rfl)
    have y2 := (hB1.cell 2).trans (show _ = some (Value.int .u64 (al : Int)) by rfl)
    have HT1 := Lib.hid (HT0.out.trans_fre hT1 (by simp))
    have HX1 := Lib.hid hB1
    have HD1 := Lib.hid (HD0.out.tch hT1 (by simp))
    clear hB1 hb1 hT1 x0 x1 x2
    go_wp2_with fail
    exact bodyPost_ret (v := .int .i64 133) (by simp [results, Try.results30, go_sem]) rfl ⟨by rw [HE.out], by rw [HE.out], HT1.out⟩
set_option maxRecDepth 100000 in
set_option maxHeartbeats 4000000 in
/-- Too many bits. -/
theorem putD_wide (t : Nat) (S : List Nat) (st : StI) (port : Int) (a : AdI) (ha : N64 a.2.1 ∧ N64 a.2.2) (bits : Int) (hth : thereI st port = true) (hc : clsI a = 2 ∨ clsI a = 5) (hb : 1 ≤ bits) (hb2 : (wd a.1 : Int) < bits) (w : World) (h : IfD w t S st) :
    Calls Try.prog 30 #[.pointer (some ⟨t, 0, none⟩), .int .i64 port, adV a, .int .i64 bits] w fun e w' => e = .returned (.int .i64 (putI st port a bits).2) ∧ (putI st port a bits).1 = st ∧ Tch w w' [] := by
  have HE : Hid (putI st port a bits = (st, 133)) := Lib.hid (by unfold putI; rw [if_neg (by rw [hth]; simp), if_pos (by unfold adOk; simp; omega)])
  have HMi := Lib.hid (fun W h => mineD t S st a W h)
  obtain ⟨s, ah, al⟩ := a
  have ha : N64 ah ∧ N64 al := ha
  obtain ⟨c, hcv⟩ : ∃ c, clsV s (ah : Int) (al : Int) = c := ⟨_, rfl⟩
  have hc1 : c = 2 ∨ c = 5 := by rw [← hcv]; exact hc
  have HC := Lib.hid (fun W => rclass_at s (ah : Int) (al : Int) (by unfold U6; have := ha.1; unfold N64 at this; omega) (by unfold U6; have := ha.2; unfold N64 at this; omega) hcv W)
  have HWd := Lib.hid (fun W => rwidth_at s (ah : Int) (al : Int) (wd s : Int) rfl W)
  obtain ⟨xb, hxb⟩ : ∃ xb, w.heap.size = xb := ⟨_, rfl⟩
  obtain ⟨W0, hW0⟩ : ∃ W, w.alloc (.cells #[.bool s, .int .u64 (ah : Int), .int .u64 (al : Int)] 34) = W := ⟨_, rfl⟩
  have hX : Blk W0 xb 34 #[.bool s, .int .u64 (ah : Int), .int .u64 (al : Int)] := hW0 ▸ hxb ▸ Blk.new _ _ _
  have x0 := (hX.cell 0).trans (show _ = some (Value.bool s) by rfl)
  have x1 := (hX.cell 1).trans (show _ = some (Value.int .u64 (ah : Int)) by rfl)
  have x2 := (hX.cell 2).trans (show _ = some (Value.int .u64 (al : Int)) by rfl)
  have HT0 : Hid (Tch w W0 []) := Lib.hid (hW0 ▸ (Tch.refl w []).alloc _)
  have hD0 := h.tch HT0.out (by simp)
  have HD0 := Lib.hid hD0
  have HTh := Lib.hid (there_any t S st port W0 hD0)
  have HW0 := Lib.hid (And.intro hW0 hxb)
  have HX := Lib.hid hX
  rw [hth] at HTh
  have HTt := Lib.hid hth
  have hb2 : (wd s : Int) < bits := hb2
  clear hW0 hxb h hth hX ha hcv hc hD0
  have hcc : ∀ c : Int, c = 2 ∨ c = 5 → (c != 2 && c != 5) = false := by rintro c (rfl | rfl) <;> rfl
  have bc := hcc c hc1
  clear hcc
  have key : ∀ (b2 b5 : Bool), (c == (2 : Int)) = b2 → (c == (5 : Int)) = b5 → (b2 = true ∨ b2 = false ∧ b5 = true) → True := fun _ _ _ _ _ => trivial
  clear key
  rcases hc1 with rfl | rfl <;> clear bc
  all_goals
    go_enter Try.func30, Try.ntmps30
    go_wp2_with fail
    rw [HW0.out.1, HW0.out.2]
    refine Calls.mono HTh.out ?_
    rintro e w' ⟨rfl, rfl⟩
    go_wp2_with fail
    refine Calls.mono (HC.out _) ?_
    rintro e w1 ⟨rfl, hb1⟩
    have hT1 := Tch.of_below [] hb1
    have hB1 := hT1.blk HX.out (by simp)
    have y0 := (hB1.cell 0).trans (show _ = some (Value.bool s) by rfl)
    have y1 := (hB1.cell 1).trans (show _ = some (Value.int .u64 (ah : Int)) by rfl)
    have y2 := (hB1.cell 2).trans (show _ = some (Value.int .u64 (al : Int)) by rfl)
    have HT1 := Lib.hid (HT0.out.trans_fre hT1 (by simp))
    have HX1 := Lib.hid hB1
    have HD1 := Lib.hid (HD0.out.tch hT1 (by simp))
    clear hB1 hb1 hT1 x0 x1 x2
    go_wp2_with fail
    refine Calls.mono (HWd.out _) ?_
    rintro e w2 ⟨rfl, hb2⟩
    have hT2 := Tch.of_below [] hb2
    have hB2 := hT2.blk HX1.out (by simp)
    have z0 := (hB2.cell 0).trans (show _ = some (Value.bool s) by rfl)
    have z1 := (hB2.cell 1).trans (show _ = some (Value.int .u64 (ah : Int)) by rfl)
    have z2 := (hB2.cell 2).trans (show _ = some (Value.int .u64 (al : Int)) by rfl)
    have HT2 := Lib.hid (HT1.out.trans_fre hT2 (by simp))
    have HX2 := Lib.hid hB2
    have HD2 := Lib.hid (HD1.out.tch hT2 (by simp))
    clear hB2 hb2 hT2 y0 y1 y2
    go_wp2_with fail
    exact bodyPost_ret (v := .int .i64 133) (by simp [results, Try.results30, go_sem]) rfl ⟨by rw [HE.out], by rw [HE.out], HT2.out⟩
set_option maxRecDepth 100000 in
set_option maxHeartbeats 4000000 in
/-- An address that the set has. -/
theorem putD_mine (t : Nat) (S : List Nat) (st : StI) (port : Int) (a : AdI) (ha : N64 a.2.1 ∧ N64 a.2.2) (bits : Int) (hth : thereI st port = true) (hc : clsI a = 2 ∨ clsI a = 5) (hb : 1 ≤ bits) (hb2 : bits ≤ (wd a.1 : Int)) (hmi : mineI st.2 a ≠ 0) (w : World) (h : IfD w t S st) :
    Calls Try.prog 30 #[.pointer (some ⟨t, 0, none⟩), .int .i64 port, adV a, .int .i64 bits] w fun e w' => e = .returned (.int .i64 (putI st port a bits).2) ∧ (putI st port a bits).1 = st ∧ Tch w w' [] := by
  have HE : Hid (putI st port a bits = (st, 133)) := Lib.hid (by unfold putI; rw [if_neg (by rw [hth]; simp), if_pos (by unfold adOk; simp [hmi])])
  have HMi := Lib.hid (fun W h => mineD t S st a W h)
  obtain ⟨s, ah, al⟩ := a
  have ha : N64 ah ∧ N64 al := ha
  obtain ⟨c, hcv⟩ : ∃ c, clsV s (ah : Int) (al : Int) = c := ⟨_, rfl⟩
  have hc1 : c = 2 ∨ c = 5 := by rw [← hcv]; exact hc
  have HC := Lib.hid (fun W => rclass_at s (ah : Int) (al : Int) (by unfold U6; have := ha.1; unfold N64 at this; omega) (by unfold U6; have := ha.2; unfold N64 at this; omega) hcv W)
  have HWd := Lib.hid (fun W => rwidth_at s (ah : Int) (al : Int) (wd s : Int) rfl W)
  obtain ⟨xb, hxb⟩ : ∃ xb, w.heap.size = xb := ⟨_, rfl⟩
  obtain ⟨W0, hW0⟩ : ∃ W, w.alloc (.cells #[.bool s, .int .u64 (ah : Int), .int .u64 (al : Int)] 34) = W := ⟨_, rfl⟩
  have hX : Blk W0 xb 34 #[.bool s, .int .u64 (ah : Int), .int .u64 (al : Int)] := hW0 ▸ hxb ▸ Blk.new _ _ _
  have x0 := (hX.cell 0).trans (show _ = some (Value.bool s) by rfl)
  have x1 := (hX.cell 1).trans (show _ = some (Value.int .u64 (ah : Int)) by rfl)
  have x2 := (hX.cell 2).trans (show _ = some (Value.int .u64 (al : Int)) by rfl)
  have HT0 : Hid (Tch w W0 []) := Lib.hid (hW0 ▸ (Tch.refl w []).alloc _)
  have hD0 := h.tch HT0.out (by simp)
  have HD0 := Lib.hid hD0
  have HTh := Lib.hid (there_any t S st port W0 hD0)
  have HW0 := Lib.hid (And.intro hW0 hxb)
  have HX := Lib.hid hX
  rw [hth] at HTh
  have HTt := Lib.hid hth
  have hb2 : bits ≤ (wd s : Int) := hb2
  have mi : (0 : Int) < (mineI st.2 (s, ah, al) : Int) := by omega
  clear hW0 hxb h hth hX ha hcv hc hD0
  have hcc : ∀ c : Int, c = 2 ∨ c = 5 → (c != 2 && c != 5) = false := by rintro c (rfl | rfl) <;> rfl
  have bc := hcc c hc1
  clear hcc
  have key : ∀ (b2 b5 : Bool), (c == (2 : Int)) = b2 → (c == (5 : Int)) = b5 → (b2 = true ∨ b2 = false ∧ b5 = true) → True := fun _ _ _ _ _ => trivial
  clear key
  rcases hc1 with rfl | rfl <;> clear bc
  all_goals
    go_enter Try.func30, Try.ntmps30
    go_wp2_with fail
    rw [HW0.out.1, HW0.out.2]
    refine Calls.mono HTh.out ?_
    rintro e w' ⟨rfl, rfl⟩
    go_wp2_with fail
    refine Calls.mono (HC.out _) ?_
    rintro e w1 ⟨rfl, hb1⟩
    have hT1 := Tch.of_below [] hb1
    have hB1 := hT1.blk HX.out (by simp)
    have y0 := (hB1.cell 0).trans (show _ = some (Value.bool s) by rfl)
    have y1 := (hB1.cell 1).trans (show _ = some (Value.int .u64 (ah : Int)) by rfl)
    have y2 := (hB1.cell 2).trans (show _ = some (Value.int .u64 (al : Int)) by rfl)
    have HT1 := Lib.hid (HT0.out.trans_fre hT1 (by simp))
    have HX1 := Lib.hid hB1
    have HD1 := Lib.hid (HD0.out.tch hT1 (by simp))
    clear hB1 hb1 hT1 x0 x1 x2
    go_wp2_with fail
    refine Calls.mono (HWd.out _) ?_
    rintro e w2 ⟨rfl, hb2⟩
    have hT2 := Tch.of_below [] hb2
    have hB2 := hT2.blk HX1.out (by simp)
    have z0 := (hB2.cell 0).trans (show _ = some (Value.bool s) by rfl)
    have z1 := (hB2.cell 1).trans (show _ = some (Value.int .u64 (ah : Int)) by rfl)
    have z2 := (hB2.cell 2).trans (show _ = some (Value.int .u64 (al : Int)) by rfl)
    have HT2 := Lib.hid (HT1.out.trans_fre hT2 (by simp))
    have HX2 := Lib.hid hB2
    have HD2 := Lib.hid (HD1.out.tch hT2 (by simp))
    clear hB2 hb2 hT2 y0 y1 y2
    go_wp2_with fail
    refine Calls.mono (HMi.out _ HD2.out) ?_
    rintro e w3 ⟨rfl, hT3⟩
    have hB3 := hT3.blk HX2.out (by simp)
    have v0 := (hB3.cell 0).trans (show _ = some (Value.bool s) by rfl)
    have HT3 := Lib.hid (HT2.out.trans_fre hT3 (by simp))
    obtain ⟨gP, cP, gL, cL, A, c, n, i, r0, r1, r2, r3, r4, r5, r6⟩ := (HD2.out.tch hT3 (by simp)).reads HTt.out
    clear hB3 hT3 z0 z1 z2
    go_wp2_with fail
    exact bodyPost_ret (v := .int .i64 133) (by simp [results, Try.results30, go_sem]) rfl ⟨by rw [HE.out], by rw [HE.out], HT3.out⟩
end Go.Proofs.Ytabbclocgkhnhaa
