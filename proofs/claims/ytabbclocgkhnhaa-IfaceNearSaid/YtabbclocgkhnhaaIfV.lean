/-
  The document's own set of ports (layer 14): Put, its last two refusals.
-/
import Derived.Test.YtabbclocgkhnhaaIfR
namespace Go.Proofs.Ytabbclocgkhnhaa
open Go.RowKit
set_option linter.unusedVariables false

set_option maxRecDepth 100000 in
set_option maxHeartbeats 4000000 in
/-- An IPv6 address on a port whose Mtu is too small. -/
theorem putD_mtu (t : Nat) (S : List Nat) (st : StI) (port : Int) (a : AdI) (ha : N64 a.2.1 ∧ N64 a.2.2) (bits : Int) (hth : thereI st port = true) (hc : clsI a = 2 ∨ clsI a = 5) (hb : 1 ≤ bits) (hb2 : bits ≤ (wd a.1 : Int)) (hmi : mineI st.2 a = 0) (hs : a.1 = true) (hmt : mtuI st port < 1280) (w : World) (h : IfD w t S st) :
    Calls Try.prog 30 #[.pointer (some ⟨t, 0, none⟩), .int .i64 port, adV a, .int .i64 bits] w fun e w' => e = .returned (.int .i64 (putI st port a bits).2) ∧ (putI st port a bits).1 = st ∧ Tch w w' [] := by
  have HE : Hid (putI st port a bits = (st, 133)) := Lib.hid (by unfold putI; rw [if_neg (by rw [hth]; simp), if_pos (by unfold adOk; simp [hs, hmt])])
  have HMi := Lib.hid (fun W h => mineD t S st a W h)
  obtain ⟨s, ah, al⟩ := a
  have ha : N64 ah ∧ N64 al := ha
  obtain ⟨c, hcv⟩ : ∃ c, clsV s (ah : Int) (al : Int) = c := ⟨_, rfl⟩
  have hc1 : c = 2 ∨ c = 5 := by rw [← hcv]; exact hc
  have HC := Lib.hid (fun W => rclass_at s (ah : Int) (al : Int) (by unfold U6; have := ha.1; unfold N64 at this; omega) (by unfold U6; have := ha.2; unfold N64 at this; omega) hcv W)
  have HWd := Lib.hid (fun W => rwidth_at s (ah : Int) (al : Int) (wd s : Int) rfl W)
  obtain ⟨xb, hxb⟩ : ∃ xb, w.heap.size = xb := ⟨_, rfl⟩
  obtain ⟨W0, hW0⟩ : ∃ W, w.alloc (.cells #[.bool s, .int .u64 (ah : Int), .int .u64 (al : Int)] 34) = W := ⟨_, rfl⟩
  have hX : Blk W0 xb 34 #[.bool s, .int .u64 (ah : Int), .int .u64 (al : Int)] := hW0 ▸ hxb ▸ Blk.new _ _ _
  have x0 := (hX.cell 0).trans (show _ = some (Value.bool s) by rfl)
  have x1 := (hX.cell 1).trans (show _ = some (Value.int .u64 (ah : Int)) by rfl)
  have x2 := (hX.cell 2).trans (show _ = some (Value.int .u64 (al : Int)) by rfl)
  have HT0 : Hid (Tch w W0 []) := Lib.hid (hW0 ▸ (Tch.refl w []).alloc _)
  have hD0 := h.tch HT0.out (by simp)
  have HD0 := Lib.hid hD0
  have HTh := Lib.hid (there_any t S st port W0 hD0)
  have HW0 := Lib.hid (And.intro hW0 hxb)
  have HX := Lib.hid hX
  rw [hth] at HTh
  have HTt := Lib.hid hth
  have hb2 : bits ≤ (wd s : Int) := hb2
  rw [show mineI st.2 (s, ah, al) = 0 from hmi] at HMi
  have HSt : Hid (s = true) := Lib.hid hs
  clear hs
  clear hW0 hxb h hth hX ha hcv hc hD0
  have hcc : ∀ c : Int, c = 2 ∨ c = 5 → (c != 2 && c != 5) = false := by rintro c (rfl | rfl) <;> rfl
  have bc := hcc c hc1
  clear hcc
  have key : ∀ (b2 b5 : Bool), (c == (2 : Int)) = b2 → (c == (5 : Int)) = b5 → (b2 = true ∨ b2 = false ∧ b5 = true) → True := fun _ _ _ _ _ => trivial
  clear key
  rcases hc1 with rfl | rfl <;> clear bc
  all_goals
    go_enter Try.func30, Try.ntmps30
    go_wp2_with fail
    rw [HW0.out.1, HW0.out.2]
    refine Calls.mono HTh.out ?_
    rintro e w' ⟨rfl, rfl⟩
    go_wp2_with fail
    refine Calls.mono (HC.out _) ?_
    rintro e w1 ⟨rfl, hb1⟩
    have hT1 := Tch.of_below [] hb1
    have hB1 := hT1.blk HX.out (by simp)
    have y0 := (hB1.cell 0).trans (show _ = some (Value.bool s) by rfl)
    have y1 := (hB1.cell 1).trans (show _ = some (Value.int .u64 (ah : Int)) by rfl)
    have y2 := (hB1.cell 2).trans (show _ = some (Value.int .u64 (al : Int)) by rfl)
    have HT1 := Lib.hid (HT0.out.trans_fre hT1 (by simp))
    have HX1 := Lib.hid hB1
    have HD1 := Lib.hid (HD0.out.tch hT1 (by simp))
    clear hB1 hb1 hT1 x0 x1 x2
    go_wp2_with fail
    refine Calls.mono (HWd.out _) ?_
    rintro e w2 ⟨rfl, hb2⟩
    have hT2 := Tch.of_below [] hb2
    have hB2 := hT2.blk HX1.out (by simp)
    have z0 := (hB2.cell 0).trans (show _ = some (Value.bool s) by rfl)
    have z1 := (hB2.cell 1).trans (show _ = some (Value.int .u64 (ah : Int)) by rfl)
    have z2 := (hB2.cell 2).trans (show _ = some (Value.int .u64 (al : Int)) by rfl)
    have HT2 := Lib.hid (HT1.out.trans_fre hT2 (by simp))
    have HX2 := Lib.hid hB2
    have HD2 := Lib.hid (HD1.out.tch hT2 (by simp))
    clear hB2 hb2 hT2 y0 y1 y2
    go_wp2_with fail
    refine Calls.mono (HMi.out _ HD2.out) ?_
    rintro e w3 ⟨rfl, hT3⟩
    have hB3 := hT3.blk HX2.out (by simp)
    have v0 := (hB3.cell 0).trans (show _ = some (Value.bool s) by rfl)
    have HT3 := Lib.hid (HT2.out.trans_fre hT3 (by simp))
    obtain ⟨gP, cP, gL, cL, A, c, n, i, r0, r1, r2, r3, r4, r5, r6⟩ := (HD2.out.tch hT3 (by simp)).reads HTt.out
    clear hB3 hT3 z0 z1 z2
    have i0 : (0 : Int) ≤ (i : Int) := by omega
    have i1 : (i : Int) < (n : Int) := by omega
    have hs := HSt.out
    clear HSt
    subst hs
    go_wp2_with fail
    exact bodyPost_ret (v := .int .i64 133) (by simp [results, Try.results30, go_sem]) rfl ⟨by rw [HE.out], by rw [HE.out], HT3.out⟩
set_option maxRecDepth 100000 in
set_option maxHeartbeats 4000000 in
/-- A port that has eight. -/
theorem putD_full (t : Nat) (S : List Nat) (st : StI) (port : Int) (a : AdI) (ha : N64 a.2.1 ∧ N64 a.2.2) (bits : Int) (hth : thereI st port = true) (hc : clsI a = 2 ∨ clsI a = 5) (hb : 1 ≤ bits) (hb2 : bits ≤ (wd a.1 : Int)) (hmi : mineI st.2 a = 0) (hs : a.1 = false ∨ 1280 ≤ mtuI st port) (hf : 8 ≤ (locI st port).length) (w : World) (h : IfD w t S st) :
    Calls Try.prog 30 #[.pointer (some ⟨t, 0, none⟩), .int .i64 port, adV a, .int .i64 bits] w fun e w' => e = .returned (.int .i64 (putI st port a bits).2) ∧ (putI st port a bits).1 = st ∧ Tch w w' [] := by
  have HE : Hid (putI st port a bits = (st, 131)) := Lib.hid (by unfold putI; rw [if_neg (by rw [hth]; simp), if_neg (by unfold adOk; have hb3 := hb2; rcases hc with h1 | h1 <;> rcases hs with h2 | h2 <;> first | (rw [h2] at hb3; simp [h1, h2, hb, hb3, hmi]) | simp [h1, h2, hb, hb2, hmi]), if_pos hf])
  have HMi := Lib.hid (fun W h => mineD t S st a W h)
  obtain ⟨s, ah, al⟩ := a
  have ha : N64 ah ∧ N64 al := ha
  obtain ⟨c, hcv⟩ : ∃ c, clsV s (ah : Int) (al : Int) = c := ⟨_, rfl⟩
  have hc1 : c = 2 ∨ c = 5 := by rw [← hcv]; exact hc
  have HC := Lib.hid (fun W => rclass_at s (ah : Int) (al : Int) (by unfold U6; have := ha.1; unfold N64 at this; omega) (by unfold U6; have := ha.2; unfold N64 at this; omega) hcv W)
  have HWd := Lib.hid (fun W => rwidth_at s (ah : Int) (al : Int) (wd s : Int) rfl W)
  obtain ⟨xb, hxb⟩ : ∃ xb, w.heap.size = xb := ⟨_, rfl⟩
  obtain ⟨W0, hW0⟩ : ∃ W, w.alloc (.cells #[.bool s, .int .u64 (ah : Int), .int .u64 (al : Int)] 34) = W := ⟨_, rfl⟩
  have hX : Blk W0 xb 34 #[.bool s, .int .u64 (ah : Int), .int .u64 (al : Int)] := hW0 ▸ hxb ▸ Blk.new _ _ _
  have x0 := (hX.cell 0).trans (show _ = some (Value.bool s) by rfl)
  have x1 := (hX.cell 1).trans (show _ = some (Value.int .u64 (ah : Int)) by rfl)
  have x2 := (hX.cell 2).trans (show _ = some (Value.int .u64 (al : Int)) by rfl)
  have HT0 : Hid (Tch w W0 []) := Lib.hid (hW0 ▸ (Tch.refl w []).alloc _)
  have hD0 := h.tch HT0.out (by simp)
  have HD0 := Lib.hid hD0
  have HTh := Lib.hid (there_any t S st port W0 hD0)
  have HW0 := Lib.hid (And.intro hW0 hxb)
  have HX := Lib.hid hX
  rw [hth] at HTh
  have HTt := Lib.hid hth
  have hb2 : bits ≤ (wd s : Int) := hb2
  rw [show mineI st.2 (s, ah, al) = 0 from hmi] at HMi
  have l8 : (8 : Int) ≤ ((locI st port).length : Int) := by omega
  have hs : s = false ∨ (s = true ∧ 1280 ≤ mtuI st port) := by cases s with | false => exact .inl rfl | true => exact .inr ⟨rfl, by rcases hs with h | h; cases h; exact h⟩
  clear hW0 hxb h hth hX ha hcv hc hD0
  have hcc : ∀ c : Int, c = 2 ∨ c = 5 → (c != 2 && c != 5) = false := by rintro c (rfl | rfl) <;> rfl
  have bc := hcc c hc1
  clear hcc
  have key : ∀ (b2 b5 : Bool), (c == (2 : Int)) = b2 → (c == (5 : Int)) = b5 → (b2 = true ∨ b2 = false ∧ b5 = true) → True := fun _ _ _ _ _ => trivial
  clear key
  rcases hc1 with rfl | rfl <;> clear bc
  all_goals
    go_enter Try.func30, Try.ntmps30
    go_wp2_with fail
    rw [HW0.out.1, HW0.out.2]
    refine Calls.mono HTh.out ?_
    rintro e w' ⟨rfl, rfl⟩
    go_wp2_with fail
    refine Calls.mono (HC.out _) ?_
    rintro e w1 ⟨rfl, hb1⟩
    have hT1 := Tch.of_below [] hb1
    have hB1 := hT1.blk HX.out (by simp)
    have y0 := (hB1.cell 0).trans (show _ = some (Value.bool s) by rfl)
    have y1 := (hB1.cell 1).trans (show _ = some (Value.int .u64 (ah : Int)) by rfl)
    have y2 := (hB1.cell 2).trans (show _ = some (Value.int .u64 (al : Int)) by rfl)
    have HT1 := Lib.hid (HT0.out.trans_fre hT1 (by simp))
    have HX1 := Lib.hid hB1
    have HD1 := Lib.hid (HD0.out.tch hT1 (by simp))
    clear hB1 hb1 hT1 x0 x1 x2
    go_wp2_with fail
    refine Calls.mono (HWd.out _) ?_
    rintro e w2 ⟨rfl, hb2⟩
    have hT2 := Tch.of_below [] hb2
    have hB2 := hT2.blk HX1.out (by simp)
    have z0 := (hB2.cell 0).trans (show _ = some (Value.bool s) by rfl)
    have z1 := (hB2.cell 1).trans (show _ = some (Value.int .u64 (ah : Int)) by rfl)
    have z2 := (hB2.cell 2).trans (show _ = some (Value.int .u64 (al : Int)) by rfl)
    have HT2 := Lib.hid (HT1.out.trans_fre hT2 (by simp))
    have HX2 := Lib.hid hB2
    have HD2 := Lib.hid (HD1.out.tch hT2 (by simp))
    clear hB2 hb2 hT2 y0 y1 y2
    go_wp2_with fail
    refine Calls.mono (HMi.out _ HD2.out) ?_
    rintro e w3 ⟨rfl, hT3⟩
    have hB3 := hT3.blk HX2.out (by simp)
    have v0 := (hB3.cell 0).trans (show _ = some (Value.bool s) by rfl)
    have HT3 := Lib.hid (HT2.out.trans_fre hT3 (by simp))
    obtain ⟨gP, cP, gL, cL, A, c, n, i, r0, r1, r2, r3, r4, r5, r6⟩ := (HD2.out.tch hT3 (by simp)).reads HTt.out
    clear hB3 hT3 z0 z1 z2
    have i0 : (0 : Int) ≤ (i : Int) := by omega
    have i1 : (i : Int) < (n : Int) := by omega
    rcases hs with rfl | ⟨rfl, m1⟩
    all_goals go_wp2_with fail
    all_goals exact bodyPost_ret (v := .int .i64 131) (by simp [results, Try.results30, go_sem]) rfl ⟨by rw [HE.out], by rw [HE.out], HT3.out⟩
/-- Put, all that it refuses. -/
theorem putD_bad (t : Nat) (S : List Nat) (st : StI) (port : Int) (a : AdI) (ha : N64 a.2.1 ∧ N64 a.2.2) (bits : Int) (hb : thereI st port = false ∨ adOk st port a bits = false ∨ 8 ≤ (locI st port).length) (w : World) (h : IfD w t S st) :
    Calls Try.prog 30 #[.pointer (some ⟨t, 0, none⟩), .int .i64 port, adV a, .int .i64 bits] w fun e w' => e = .returned (.int .i64 (putI st port a bits).2) ∧ (putI st port a bits).1 = st ∧ Tch w w' [] := by
  cases hth : thereI st port with
  | false => exact putD_none t S st port a bits hth w h
  | true =>
    by_cases hc : clsI a = 2 ∨ clsI a = 5
    · by_cases h1 : bits < 1
      · exact putD_low t S st port a ha bits hth hc h1 w h
      · by_cases h2 : (wd a.1 : Int) < bits
        · exact putD_wide t S st port a ha bits hth hc (by omega) h2 w h
        · by_cases h3 : mineI st.2 a = 0
          · by_cases h4 : a.1 = true ∧ mtuI st port < 1280
            · exact putD_mtu t S st port a ha bits hth hc (by omega) (by omega) h3 h4.1 h4.2 w h
            · have h5 : a.1 = false ∨ 1280 ≤ mtuI st port := by
                cases h6 : a.1 with
                | false => exact .inl rfl
                | true => exact .inr (by have : ¬ mtuI st port < 1280 := fun x => h4 ⟨h6, x⟩; omega)
              refine putD_full t S st port a ha bits hth hc (by omega) (by omega) h3 h5 ?_ w h
              rcases hb with x | x | x
              · rw [hth] at x; cases x
              · exfalso
                unfold adOk at x
                rw [decide_eq_true (show mineI st.2 a = 0 from h3), decide_eq_true (show 1 ≤ bits ∧ bits ≤ (wd a.1 : Int) by omega)] at x
                rcases hc with y | y <;> rcases h5 with z | z <;> simp [y, z] at x <;> omega
              · exact x
          · exact putD_mine t S st port a ha bits hth hc (by omega) (by omega) h3 w h
    · exact putD_cls t S st port a ha bits hth ⟨fun x => hc (.inl x), fun x => hc (.inr x)⟩ w h
end Go.Proofs.Ytabbclocgkhnhaa
