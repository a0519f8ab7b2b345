/-
  Several texts in one: IfV, IfU, IfX, IfY, Adq.
-/
import Derived.Test.YtgfkmgbcajdcdaaGreatDoorYay
import Derived.Laws.AppendOwnNone
import Derived.Deep.RegionLaw
import Derived.Test.YtgfkmgbcajdcdaaGreatDoorYad
import Derived.Test.YtgfkmgbcajdcdaaGreatDoorYaa
set_option linter.unusedVariables false
set_option maxRecDepth 100000
set_option maxHeartbeats 16000000
namespace Go.Proofs.YtgfkmgbcajdcdaaGreatDoor.Ifs
open Go.RowKit

theorem putD_mtu (t : Nat) (S : List Nat) (st : StI) (port : Int) (a : AdI) (ha : N64 a.2.1 ∧ N64 a.2.2) (bits : Int) (hth : thereI st port = true) (hc : clsI a = 2 ∨ clsI a = 5) (hb : 1 ≤ bits) (hb2 : bits ≤ (wd a.1 : Int)) (hmi : mineI st.2 a = 0) (hs : a.1 = true) (hmt : mtuI st port < 1280) (w : World) (h : IfD w t S st) :
  Calls Tryz.prog 92 #[.pointer (some ⟨t, 0, none⟩), .int .i64 port, adV a, .int .i64 bits] w fun e w' => e = .returned (.int .i64 (putI st port a bits).2) ∧ (putI st port a bits).1 = st ∧ Tch w w' [] := by
 have HE : Hid (putI st port a bits = (st, 133)) := lH (by unfold putI; rw [if_neg (by rw [hth]; simp), if_pos (by unfold adOk; simp [hs, hmt])])
 have HMi := lH (fun W h => mineD t S st a W h)
 obtain ⟨s, ah, al⟩ := a
 have ha : N64 ah ∧ N64 al := ha
 obtain ⟨c, hcv⟩ : ∃ c, clsV s (ah : Int) (al : Int) = c := ⟨_, rfl⟩
 have hc1 : c = 2 ∨ c = 5 := by rw [← hcv]; exact hc
 have HC := lH (fun W => rclass_at s (ah : Int) (al : Int) (by unfold U6; have := ha.1; unfold N64 at this; omega) (by unfold U6; have := ha.2; unfold N64 at this; omega) hcv W)
 have HWd := lH (fun W => rwidth_at s (ah : Int) (al : Int) (wd s : Int) rfl W)
 obtain ⟨xb, hxb⟩ : ∃ xb, w.heap.size = xb := ⟨_, rfl⟩
 obtain ⟨W0, hW0⟩ : ∃ W, w.alloc (.cells #[.bool s, .int .u64 (ah : Int), .int .u64 (al : Int)] 28) = W := ⟨_, rfl⟩
 have hX : Blk W0 xb 28 #[.bool s, .int .u64 (ah : Int), .int .u64 (al : Int)] := hW0 ▸ hxb ▸ Blk.new _ _ _
 have x0 := (hX.cell 0).trans (show _ = some (Value.bool s) by rfl)
 have x1 := (hX.cell 1).trans (show _ = some (Value.int .u64 (ah : Int)) by rfl)
 have x2 := (hX.cell 2).trans (show _ = some (Value.int .u64 (al : Int)) by rfl)
 have HT0 : Hid (Tch w W0 []) := lH (hW0 ▸ (Tch.refl w []).alloc _)
 have hD0 := h.tch HT0.out (by simp)
 have HD0 := lH hD0
 have HTh := lH (there_any t S st port W0 hD0)
 have HW0 := lH (And.intro hW0 hxb)
 have HX := lH hX
 rw [hth] at HTh
 have HTt := lH hth
 have hb2 : bits ≤ (wd s : Int) := hb2
 rw [show mineI st.2 (s, ah, al) = 0 from hmi] at HMi
 have HSt : Hid (s = true) := lH hs
 clear hs
 clear hW0 hxb h hth hX ha hcv hc hD0
 have hcc : ∀ c : Int, c = 2 ∨ c = 5 → (c != 2 && c != 5) = false := by rintro c (rfl | rfl) <;> rfl
 have bc := hcc c hc1
 clear hcc
 have key : ∀ (b2 b5 : Bool), (c == (2 : Int)) = b2 → (c == (5 : Int)) = b5 → (b2 = true ∨ b2 = false ∧ b5 = true) → True := fun _ _ _ _ _ => trivial
 clear key
 rcases hc1 with rfl | rfl <;> clear bc
 all_goals
  go_enter Tryz.func92, Tryz.ntmps92
  go_wp2_with fail
  rw [HW0.out.1, HW0.out.2]
  refine cZm HTh.out ?_
  rintro e w' ⟨rfl, rfl⟩
  go_wp2_with fail
  refine cZm (HC.out _) ?_
  rintro e w1 ⟨rfl, hb1⟩
  have hT1 := Tch.of_below [] hb1
  have hB1 := hT1.blk HX.out (by simp)
  have y0 := (hB1.cell 0).trans (show _ = some (Value.bool s) by rfl)
  have y1 := (hB1.cell 1).trans (show _ = some (Value.int .u64 (ah : Int)) by rfl)
  have y2 := (hB1.cell 2).trans (show _ = some (Value.int .u64 (al : Int)) by rfl)
  have HT1 := lH (HT0.out.trans_fre hT1 (by simp))
  have HX1 := lH hB1
  have HD1 := lH (HD0.out.tch hT1 (by simp))
  clear hB1 hb1 hT1 x0 x1 x2
  go_wp2_with fail
  refine cZm (HWd.out _) ?_
  rintro e w2 ⟨rfl, hb2⟩
  have hT2 := Tch.of_below [] hb2
  have hB2 := hT2.blk HX1.out (by simp)
  have z0 := (hB2.cell 0).trans (show _ = some (Value.bool s) by rfl)
  have z1 := (hB2.cell 1).trans (show _ = some (Value.int .u64 (ah : Int)) by rfl)
  have z2 := (hB2.cell 2).trans (show _ = some (Value.int .u64 (al : Int)) by rfl)
  have HT2 := lH (HT1.out.trans_fre hT2 (by simp))
  have HX2 := lH hB2
  have HD2 := lH (HD1.out.tch hT2 (by simp))
  clear hB2 hb2 hT2 y0 y1 y2
  go_wp2_with fail
  refine cZm (HMi.out _ HD2.out) ?_
  rintro e w3 ⟨rfl, hT3⟩
  have hB3 := hT3.blk HX2.out (by simp)
  have v0 := (hB3.cell 0).trans (show _ = some (Value.bool s) by rfl)
  have HT3 := lH (HT2.out.trans_fre hT3 (by simp))
  obtain ⟨gP, cP, gL, cL, A, c, n, i, r0, r1, r2, r3, r4, r5, r6⟩ := (HD2.out.tch hT3 (by simp)).reads HTt.out
  clear hB3 hT3 z0 z1 z2
  have i0 : (0 : Int) ≤ (i : Int) := by omega
  have i1 : (i : Int) < (n : Int) := by omega
  have hs := HSt.out
  clear HSt
  subst hs
  go_wp2_with fail
  exact bodyPost_ret (v := .int .i64 133) (by simp [results, Tryz.results92, go_sem]) rfl ⟨by rw [HE.out], by rw [HE.out], HT3.out⟩
theorem putD_full (t : Nat) (S : List Nat) (st : StI) (port : Int) (a : AdI) (ha : N64 a.2.1 ∧ N64 a.2.2) (bits : Int) (hth : thereI st port = true) (hc : clsI a = 2 ∨ clsI a = 5) (hb : 1 ≤ bits) (hb2 : bits ≤ (wd a.1 : Int)) (hmi : mineI st.2 a = 0) (hs : a.1 = false ∨ 1280 ≤ mtuI st port) (hf : 8 ≤ (locI st port).length) (w : World) (h : IfD w t S st) :
  Calls Tryz.prog 92 #[.pointer (some ⟨t, 0, none⟩), .int .i64 port, adV a, .int .i64 bits] w fun e w' => e = .returned (.int .i64 (putI st port a bits).2) ∧ (putI st port a bits).1 = st ∧ Tch w w' [] := by
 have HE : Hid (putI st port a bits = (st, 131)) := lH (by unfold putI; rw [if_neg (by rw [hth]; simp), if_neg (by unfold adOk; have hb3 := hb2; rcases hc with h1 | h1 <;> rcases hs with h2 | h2 <;> first | (rw [h2] at hb3; simp [h1, h2, hb, hb3, hmi]) | simp [h1, h2, hb, hb2, hmi]), if_pos hf])
 have HMi := lH (fun W h => mineD t S st a W h)
 obtain ⟨s, ah, al⟩ := a
 have ha : N64 ah ∧ N64 al := ha
 obtain ⟨c, hcv⟩ : ∃ c, clsV s (ah : Int) (al : Int) = c := ⟨_, rfl⟩
 have hc1 : c = 2 ∨ c = 5 := by rw [← hcv]; exact hc
 have HC := lH (fun W => rclass_at s (ah : Int) (al : Int) (by unfold U6; have := ha.1; unfold N64 at this; omega) (by unfold U6; have := ha.2; unfold N64 at this; omega) hcv W)
 have HWd := lH (fun W => rwidth_at s (ah : Int) (al : Int) (wd s : Int) rfl W)
 obtain ⟨xb, hxb⟩ : ∃ xb, w.heap.size = xb := ⟨_, rfl⟩
 obtain ⟨W0, hW0⟩ : ∃ W, w.alloc (.cells #[.bool s, .int .u64 (ah : Int), .int .u64 (al : Int)] 28) = W := ⟨_, rfl⟩
 have hX : Blk W0 xb 28 #[.bool s, .int .u64 (ah : Int), .int .u64 (al : Int)] := hW0 ▸ hxb ▸ Blk.new _ _ _
 have x0 := (hX.cell 0).trans (show _ = some (Value.bool s) by rfl)
 have x1 := (hX.cell 1).trans (show _ = some (Value.int .u64 (ah : Int)) by rfl)
 have x2 := (hX.cell 2).trans (show _ = some (Value.int .u64 (al : Int)) by rfl)
 have HT0 : Hid (Tch w W0 []) := lH (hW0 ▸ (Tch.refl w []).alloc _)
 have hD0 := h.tch HT0.out (by simp)
 have HD0 := lH hD0
 have HTh := lH (there_any t S st port W0 hD0)
 have HW0 := lH (And.intro hW0 hxb)
 have HX := lH hX
 rw [hth] at HTh
 have HTt := lH hth
 have hb2 : bits ≤ (wd s : Int) := hb2
 rw [show mineI st.2 (s, ah, al) = 0 from hmi] at HMi
 have l8 : (8 : Int) ≤ ((locI st port).length : Int) := by omega
 have hs : s = false ∨ (s = true ∧ 1280 ≤ mtuI st port) := by cases s with | false => exact .inl rfl | true => exact .inr ⟨rfl, by rcases hs with h | h; cases h; exact h⟩
 clear hW0 hxb h hth hX ha hcv hc hD0
 have hcc : ∀ c : Int, c = 2 ∨ c = 5 → (c != 2 && c != 5) = false := by rintro c (rfl | rfl) <;> rfl
 have bc := hcc c hc1
 clear hcc
 have key : ∀ (b2 b5 : Bool), (c == (2 : Int)) = b2 → (c == (5 : Int)) = b5 → (b2 = true ∨ b2 = false ∧ b5 = true) → True := fun _ _ _ _ _ => trivial
 clear key
 rcases hc1 with rfl | rfl <;> clear bc
 all_goals
  go_enter Tryz.func92, Tryz.ntmps92
  go_wp2_with fail
  rw [HW0.out.1, HW0.out.2]
  refine cZm HTh.out ?_
  rintro e w' ⟨rfl, rfl⟩
  go_wp2_with fail
  refine cZm (HC.out _) ?_
  rintro e w1 ⟨rfl, hb1⟩
  have hT1 := Tch.of_below [] hb1
  have hB1 := hT1.blk HX.out (by simp)
  have y0 := (hB1.cell 0).trans (show _ = some (Value.bool s) by rfl)
  have y1 := (hB1.cell 1).trans (show _ = some (Value.int .u64 (ah : Int)) by rfl)
  have y2 := (hB1.cell 2).trans (show _ = some (Value.int .u64 (al : Int)) by rfl)
  have HT1 := lH (HT0.out.trans_fre hT1 (by simp))
  have HX1 := lH hB1
  have HD1 := lH (HD0.out.tch hT1 (by simp))
  clear hB1 hb1 hT1 x0 x1 x2
  go_wp2_with fail
  refine cZm (HWd.out _) ?_
  rintro e w2 ⟨rfl, hb2⟩
  have hT2 := Tch.of_below [] hb2
  have hB2 := hT2.blk HX1.out (by simp)
  have z0 := (hB2.cell 0).trans (show _ = some (Value.bool s) by rfl)
  have z1 := (hB2.cell 1).trans (show _ = some (Value.int .u64 (ah : Int)) by rfl)
  have z2 := (hB2.cell 2).trans (show _ = some (Value.int .u64 (al : Int)) by rfl)
  have HT2 := lH (HT1.out.trans_fre hT2 (by simp))
  have HX2 := lH hB2
  have HD2 := lH (HD1.out.tch hT2 (by simp))
  clear hB2 hb2 hT2 y0 y1 y2
  go_wp2_with fail
  refine cZm (HMi.out _ HD2.out) ?_
  rintro e w3 ⟨rfl, hT3⟩
  have hB3 := hT3.blk HX2.out (by simp)
  have v0 := (hB3.cell 0).trans (show _ = some (Value.bool s) by rfl)
  have HT3 := lH (HT2.out.trans_fre hT3 (by simp))
  obtain ⟨gP, cP, gL, cL, A, c, n, i, r0, r1, r2, r3, r4, r5, r6⟩ := (HD2.out.tch hT3 (by simp)).reads HTt.out
  clear hB3 hT3 z0 z1 z2
  have i0 : (0 : Int) ≤ (i : Int) := by omega
  have i1 : (i : Int) < (n : Int) := by omega
  rcases hs with rfl | ⟨rfl, m1⟩
  all_goals go_wp2_with fail
  all_goals exact bodyPost_ret (v := .int .i64 131) (by simp [results, Tryz.results92, go_sem]) rfl ⟨by rw [HE.out], by rw [HE.out], HT3.out⟩
theorem putD_bad (t : Nat) (S : List Nat) (st : StI) (port : Int) (a : AdI) (ha : N64 a.2.1 ∧ N64 a.2.2) (bits : Int) (hb : thereI st port = false ∨ adOk st port a bits = false ∨ 8 ≤ (locI st port).length) (w : World) (h : IfD w t S st) :
  Calls Tryz.prog 92 #[.pointer (some ⟨t, 0, none⟩), .int .i64 port, adV a, .int .i64 bits] w fun e w' => e = .returned (.int .i64 (putI st port a bits).2) ∧ (putI st port a bits).1 = st ∧ Tch w w' [] := by
 cases hth : thereI st port with
 | false => exact putD_none t S st port a bits hth w h
 | true =>
  by_cases hc : clsI a = 2 ∨ clsI a = 5
  ·by_cases h1 : bits < 1
   ·exact putD_low t S st port a ha bits hth hc h1 w h
   ·by_cases h2 : (wd a.1 : Int) < bits
    ·exact putD_wide t S st port a ha bits hth hc (by omega) h2 w h
    ·by_cases h3 : mineI st.2 a = 0
     ·by_cases h4 : a.1 = true ∧ mtuI st port < 1280
      ·exact putD_mtu t S st port a ha bits hth hc (by omega) (by omega) h3 h4.1 h4.2 w h
      ·have h5 : a.1 = false ∨ 1280 ≤ mtuI st port := by
        cases h6 : a.1 with
        | false => exact .inl rfl
        | true => exact .inr (by have : ¬ mtuI st port < 1280 := fun x => h4 ⟨h6, x⟩; omega)
       refine putD_full t S st port a ha bits hth hc (by omega) (by omega) h3 h5 ?_ w h
       rcases hb with x | x | x
       ·rw [hth] at x; cases x
       ·exfalso
        unfold adOk at x
        rw [decide_eq_true (show mineI st.2 a = 0 from h3), decide_eq_true (show 1 ≤ bits ∧ bits ≤ (wd a.1 : Int) by omega)] at x
        rcases hc with y | y <;> rcases h5 with z | z <;> simp [y, z] at x <;> omega
       ·exact x
     ·exact putD_mine t S st port a ha bits hth hc (by omega) (by omega) h3 w h
  ·exact putD_cls t S st port a ha bits hth ⟨fun x => hc (.inl x), fun x => hc (.inr x)⟩ w h
end Go.Proofs.YtgfkmgbcajdcdaaGreatDoor.Ifs

namespace Go.Proofs.YtgfkmgbcajdcdaaGreatDoor.Ifs
open Go.RowKit

end Go.Proofs.YtgfkmgbcajdcdaaGreatDoor.Ifs

namespace Go.Proofs.YtgfkmgbcajdcdaaGreatDoor.Ifs
open Go.RowKit

theorem flat_set {lv : List Value} {v : Value} {B i : Nat} (h : (lv.flatMap obI).Nodup) (hlt : ∀ s ∈ lv.flatMap obI, s < B) (hv : ∀ s ∈ obI v, B ≤ s) : ((lv.set i v).flatMap obI).Nodup ∧ ∀ s ∈ (lv.set i v).flatMap obI, s ∈ lv.flatMap obI ∨ s ∈ obI v := by
 induction lv generalizing i with
 | nil => simp
 | cons y r ih =>
  rw [List.flatMap_cons, List.nodup_append] at h
  rw [List.flatMap_cons] at hlt
  obtain ⟨h1, h2, h3⟩ := h
  cases i with
  | zero =>
   rw [List.set_cons_zero, List.flatMap_cons, List.flatMap_cons, List.nodup_append]
   refine ⟨⟨obI_nodup v, h2, fun a ha b hb e => ?_⟩, fun s hs => ?_⟩
   ·have := hv a ha
    have := hlt b (List.mem_append_right _ hb)
    omega
   ·rcases List.mem_append.1 hs with h4 | h4
    ·exact .inr h4
    ·exact .inl (List.mem_append_right _ h4)
  | succ i =>
   obtain ⟨k1, k2⟩ := ih (i := i) h2 (fun s hs => hlt s (List.mem_append_right _ hs))
   rw [List.set_cons_succ, List.flatMap_cons, List.flatMap_cons, List.nodup_append]
   refine ⟨⟨h1, k1, fun a ha b hb e => ?_⟩, fun s hs => ?_⟩
   ·rcases k2 b hb with h4 | h4
    ·exact h3 a ha b h4 e
    ·have := hv b h4
     have := hlt a (List.mem_append_left _ ha)
     omega
   ·rcases List.mem_append.1 hs with h4 | h4
    ·exact .inl (List.mem_append_left _ h4)
    ·rcases k2 s h4 with h5 | h5
     ·exact .inl (List.mem_append_right _ h5)
     ·exact .inr h5
theorem IfD.inner {w W : World} {t i : Nat} {S : List Nat} {st : StI} {A' : Option Addr} {c' : Nat} {l' : List Loc} (h : IfD w t S st) (hi : i < st.1.length) (hT : Tch w W []) (hown : W.ownsRow w.heap.size 202 4 (.slice A' l'.length c') l'.length (l'.flatMap lcC)) (hinv : InvI (st.1, st.2.set i l')) :
  ∃ (gL cL : Nat) (S' : List Nat), W.cell? ⟨t, 1, none⟩ = some (.slice (some ⟨gL, 0, none⟩) st.1.length cL) ∧ W.frozen? ⟨gL, i, none⟩ = false ∧ (∃ u, W.cell? ⟨gL, i, none⟩ = some u) ∧
   IfD (W.setCell ⟨gL, i, none⟩ (.slice A' l'.length c')) t S' (st.1, st.2.set i l') ∧ Goes w (W.setCell ⟨gL, i, none⟩ (.slice A' l'.length c')) S S' := by
 have hlt := h.lt
 obtain ⟨AP, AL, cP, cL, lv, rfl, h2, h3, h4, h5, h6, h7, h8⟩ := h
 obtain ⟨gL, rfl⟩ := slice_some h5 (by omega)
 have eL : obI (.slice (some ⟨gL, 0, none⟩) st.1.length cL) = [gL] := obI_some rfl
 rw [eL] at h2 hlt ⊢
 have hv : ∀ s ∈ obI (.slice A' l'.length c'), w.heap.size ≤ s := by
  intro s hs
  unfold obI at hs
  cases hb : (Value.slice A' l'.length c').ownBlock with
  | none => rw [hb] at hs; cases hs
  | some k => rw [hb] at hs; rw [List.mem_singleton.1 hs]; exact own_basek hown k hb
 rw [List.nodup_cons, List.nodup_append, List.nodup_append] at h2
 obtain ⟨n1, n2, ⟨n3, n5, n6⟩, n4⟩ := h2
 have hltI : ∀ s ∈ lv.flatMap obI, s < w.heap.size := fun s hs => hlt s (List.mem_cons_of_mem _ (List.mem_append_right _ (List.mem_append_right _ hs)))
 obtain ⟨f1, f2⟩ := flat_set (i := i) (v := .slice A' l'.length c') n5 hltI hv
 have hgl : gL < w.heap.size := hlt gL (by simp)
 have tP : ∀ s ∈ obI (.slice AP st.1.length cP), s ∉ [gL] := fun s hs hm => n4 s hs gL (by simp) (List.mem_singleton.1 hm)
 have tt : t ∉ [gL] := fun hm => n1 (by rw [List.mem_singleton.1 hm]; simp)
 have tI : ∀ s ∈ lv.flatMap obI, s ∉ [gL] := fun s hs hm => n6 gL (by simp) s hs (List.mem_singleton.1 hm).symm
 have hTs : Tch W (W.setCell ⟨gL, i, none⟩ (.slice A' l'.length c')) [gL] := (Tch.refl W [gL]).set_ (p := ⟨gL, i, none⟩) (by simp) _
 have r5 := own_tch h5 hT (fun s _ => by simp)
 have hfr := own_frozen r5 i
 have hce := own_cell r5 (List.getElem?_eq_getElem (l := lv) (i := i) (by omega))
 have hlen := h8.len
 refine ⟨gL, cL, t :: (obI (.slice AP st.1.length cP) ++ ([gL] ++ (lv.set i (.slice A' l'.length c')).flatMap obI)), ((hT.blk h3 (by simp)).cell 1).trans rfl, hfr, ⟨_, hce⟩, ⟨AP, some ⟨gL, 0, none⟩, cP, cL, lv.set i (.slice A' l'.length c'), by rw [eL], ?_, hTs.blk (hT.blk h3 (by simp)) tt, own_tch (own_tch h4 hT (fun s _ => by simp)) hTs tP, own_set1 r5 hi _, by simp [h6], fun j l hl => ?_, hinv⟩, ⟨?_, fun s hs => ?_⟩⟩
 ·rw [List.nodup_cons, List.nodup_append, List.nodup_append]
  refine ⟨fun hm => ?_, n2, ⟨n3, f1, fun a ha b hb e => ?_⟩, fun a ha b hb e => ?_⟩
  ·rcases List.mem_append.1 hm with k | k
   ·exact n1 (List.mem_append_left _ k)
   rcases List.mem_append.1 k with k | k
   ·exact n1 (List.mem_append_right _ (List.mem_append_left _ k))
   ·rcases f2 t k with k | k
    ·exact n1 (List.mem_append_right _ (List.mem_append_right _ k))
    ·have := hv t k; have := h3.lt; omega
  ·rcases f2 b hb with k | k
   ·exact n6 a ha b k e
   ·have := hv b k; have := List.mem_singleton.1 ha; omega
  ·rcases List.mem_append.1 hb with k | k
   ·exact n4 a ha b (List.mem_append_left _ k) e
   ·rcases f2 b k with k | k
    ·exact n4 a ha b (List.mem_append_right _ k) e
    ·have := hv b k
     have := hlt a (List.mem_cons_of_mem _ (List.mem_append_left _ ha))
     omega
 ·by_cases hj : j = i
  ·subst hj
   have hl : (st.2.set j l')[j]? = some l := hl
   rw [List.getElem?_set_self (by omega)] at hl
   injection hl with hl
   subst hl
   exact ⟨A', c', by rw [List.getElem?_set_self (by omega)], own_mono (own_tch hown hTs (fun s hs hm => by have := hv s hs; have := List.mem_singleton.1 hm; omega)) (Nat.zero_le _)⟩
  ·have hl : (st.2.set i l')[j]? = some l := hl
   rw [List.getElem?_set_ne (fun e => hj e.symm)] at hl
   obtain ⟨A, c, e, ho⟩ := h7 j l hl
   exact ⟨A, c, by rw [List.getElem?_set_ne (fun e => hj e.symm)]; exact e, own_tch (own_tch ho hT (fun s _ => by simp)) hTs (fun s hs => tI s (List.mem_flatMap.2 ⟨_, List.mem_of_getElem? e, hs⟩))⟩
 ·exact (hT.mono (by simp)).set_ (p := ⟨gL, i, none⟩) (by simp) _
 ·rcases List.mem_cons.1 hs with k | k
  ·exact .inl (by rw [k]; simp)
  rcases List.mem_append.1 k with k | k
  ·exact .inl (List.mem_cons_of_mem _ (List.mem_append_left _ k))
  rcases List.mem_append.1 k with k | k
  ·exact .inl (List.mem_cons_of_mem _ (List.mem_append_right _ (List.mem_append_left _ k)))
  ·rcases f2 s k with k | k
   ·exact .inl (List.mem_cons_of_mem _ (List.mem_append_right _ (List.mem_append_right _ k)))
   ·exact .inr (hv s k)
end Go.Proofs.YtgfkmgbcajdcdaaGreatDoor.Ifs

namespace Go.Proofs.YtgfkmgbcajdcdaaGreatDoor.Ifs
open Go.RowKit

theorem IfD.row {W : World} {t : Nat} {S : List Nat} {st : StI} {port : Int} (h : IfD W t S st) (ht : thereI st port = true) : ∃ (gL cL : Nat) (A : Option Addr) (c n i : Nat) (l : List Loc), W.cell? ⟨t, 1, none⟩ = some (.slice (some ⟨gL, 0, none⟩) n cL) ∧ W.cell? ⟨gL, i, none⟩ = some (.slice A l.length c) ∧
  W.ownsRow 0 202 4 (.slice A l.length c) l.length (l.flatMap lcC) ∧ IntKind.i64.wrap (port - 1) = (i : Int) ∧ i < n ∧ n ≤ 8 ∧ locI st port = l ∧ st.2[i]? = some l ∧ idxI port = i ∧ n = st.1.length ∧ t < W.heap.size ∧ gL < W.heap.size ∧ W.frozen? ⟨gL, i, none⟩ = false := by
 have hlts := h.lt
 obtain ⟨p, l, hp, hl, hle, hmt, hlt, hpe⟩ := locI_at h.inv ht
 have hf := h.few
 obtain ⟨AP, AL, cP, cL, lv, rfl, h2, h3, h4, h5, h6, h7, h8⟩ := h
 obtain ⟨gL, rfl⟩ := slice_some h5 (by omega)
 obtain ⟨A, c, e, ho⟩ := h7 _ l hl
 refine ⟨gL, cL, A, c, st.1.length, idxI port, l, (h3.cell 1).trans rfl, own_cellN h5 e, ho, ?_, hlt, hf, hle, hl, rfl, rfl, h3.lt, own_lt h5 rfl, own_frozen h5 _⟩
 rw [IntKind.wrap_i64]; omega
theorem modify_set {α : Type} {l : List α} {i : Nat} {x : α} (h : l[i]? = some x) (f : α → α) : l.modify i f = l.set i (f x) := by
 apply List.ext_getElem?
 intro j
 rw [List.getElem?_modify, List.getElem?_set]
 by_cases hj : i = j
 ·subst hj
  rw [h]
  have := (List.getElem?_eq_some_iff.1 h).1
  simp [this]
 ·rw [if_neg hj]
  cases l[j]? <;> simp [hj]
theorem inner_end {w w7 : World} {t i gL cL n k : Nat} {S : List Nat} {st : StI} {l' : List Loc} {v7 : Value} (hD : IfD w t S st) (hT : Tch w w7 []) (hi : i < st.1.length) (hinv : InvI (st.1, st.2.set i l'))
  (hg : w7.cell? ⟨t, 1, none⟩ = some (.slice (some ⟨gL, 0, none⟩) n cL)) (hk : l'.length = k) (hown : w7.ownsRow w.heap.size 202 4 v7 k (l'.flatMap lcC)) :
  ∃ A7 c7 S', v7 = .slice A7 k c7 ∧ w7.frozen? ⟨gL, i, none⟩ = false ∧ (∃ u, w7.cell? ⟨gL, i, none⟩ = some u) ∧ IfD (w7.setCell ⟨gL, i, none⟩ (.slice A7 k c7)) t S' (st.1, st.2.set i l') ∧ Goes w (w7.setCell ⟨gL, i, none⟩ (.slice A7 k c7)) S S' := by
 subst hk
 obtain ⟨A7, c7, rfl, -, -⟩ := own_sl hown
 obtain ⟨gL', cL', S', h1, h2, h3, h4, h5⟩ := hD.inner hi hT hown hinv
 rw [hg] at h1
 injection h1 with h1
 injection h1 with h1 h1b h1c
 injection h1 with h1
 injection h1 with h1
 subst h1
 exact ⟨A7, c7, S', rfl, h2, h3, h4, h5⟩
theorem putD_ok (t : Nat) (S : List Nat) (st : StI) (port : Int) (a : AdI) (ha : N64 a.2.1 ∧ N64 a.2.2) (bits : Int) (hth : thereI st port = true) (hok : adOk st port a bits = true) (hf : ¬ 8 ≤ (locI st port).length) (w : World) (h : IfD w t S st) :
  Calls Tryz.prog 92 #[.pointer (some ⟨t, 0, none⟩), .int .i64 port, adV a, .int .i64 bits] w fun e w' => e = .returned (.int .i64 (putI st port a bits).2) ∧ ∃ S', IfD w' t S' (putI st port a bits).1 ∧ Goes w w' S S' := by
 have hE : putI st port a bits = ((st.1, st.2.modify (idxI port) fun l => l ++ [(a, bits)]), 0) := by unfold putI; rw [if_neg (by rw [hth]; simp), if_neg (by rw [hok]; simp), if_neg hf]
 have hinv := h.inv.put port a bits ha
 obtain ⟨p0, l0, -, hl0, -, -, hlt0, -⟩ := locI_at h.inv hth
 rw [hE, modify_set hl0] at hinv ⊢
 have HIx := lH (And.intro hl0 hlt0)
 clear hl0 hlt0
 unfold adOk at hok
 simp only [Bool.and_eq_true, Bool.or_eq_true, decide_eq_true_eq, Bool.not_eq_true', Bool.and_eq_false_iff, decide_eq_false_iff_not] at hok
 obtain ⟨⟨⟨hc, ⟨hb, hb2⟩⟩, hmi⟩, hsx⟩ := hok
 have HInv := lH hinv
 have HS0 := lH h
 have HMi := lH (fun W h => mineD t S st a W h)
 obtain ⟨s, ah, al⟩ := a
 have ha : N64 ah ∧ N64 al := ha
 obtain ⟨c, hcv⟩ : ∃ c, clsV s (ah : Int) (al : Int) = c := ⟨_, rfl⟩
 have hc1 : c = 2 ∨ c = 5 := by rw [← hcv]; exact hc
 have HC := lH (fun W => rclass_at s (ah : Int) (al : Int) (by unfold U6; have := ha.1; unfold N64 at this; omega) (by unfold U6; have := ha.2; unfold N64 at this; omega) hcv W)
 have HWd := lH (fun W => rwidth_at s (ah : Int) (al : Int) (wd s : Int) rfl W)
 obtain ⟨xb, hxb⟩ : ∃ xb, w.heap.size = xb := ⟨_, rfl⟩
 obtain ⟨W0, hW0⟩ : ∃ W, w.alloc (.cells #[.bool s, .int .u64 (ah : Int), .int .u64 (al : Int)] 28) = W := ⟨_, rfl⟩
 have hX : Blk W0 xb 28 #[.bool s, .int .u64 (ah : Int), .int .u64 (al : Int)] := hW0 ▸ hxb ▸ Blk.new _ _ _
 have x0 := (hX.cell 0).trans (show _ = some (Value.bool s) by rfl)
 have x1 := (hX.cell 1).trans (show _ = some (Value.int .u64 (ah : Int)) by rfl)
 have x2 := (hX.cell 2).trans (show _ = some (Value.int .u64 (al : Int)) by rfl)
 have HT0 : Hid (Tch w W0 []) := lH (hW0 ▸ (Tch.refl w []).alloc _)
 have hD0 := h.tch HT0.out (by simp)
 have HD0 := lH hD0
 have HTh := lH (there_any t S st port W0 hD0)
 have HW0 := lH (And.intro hW0 hxb)
 have HX := lH hX
 rw [hth] at HTh
 have HTt := lH hth
 have hb2 : bits ≤ (wd s : Int) := hb2
 rw [show mineI st.2 (s, ah, al) = 0 from hmi] at HMi
 have l8 : ¬ (8 : Int) ≤ ((locI st port).length : Int) := by omega
 have hs : s = false ∨ (s = true ∧ 1280 ≤ mtuI st port) := by cases s with | false => exact .inl rfl | true => exact .inr ⟨rfl, by rcases hsx with h | h; cases h; omega⟩
 have HXb : Hid (w.heap.size ≤ xb) := lH (by omega)
 clear hW0 hxb h hth hX ha hcv hc hD0 hf hsx hmi hinv hE
 have hcc : ∀ c : Int, c = 2 ∨ c = 5 → (c != 2 && c != 5) = false := by rintro c (rfl | rfl) <;> rfl
 have bc := hcc c hc1
 clear hcc
 rcases hc1 with rfl | rfl <;> clear bc
 all_goals
  go_enter Tryz.func92, Tryz.ntmps92
  go_wp2_with fail
  rw [HW0.out.1, HW0.out.2]
  refine cZm HTh.out ?_
  rintro e w' ⟨rfl, rfl⟩
  go_wp2_with fail
  refine cZm (HC.out _) ?_
  rintro e w1 ⟨rfl, hb1⟩
  have hT1 := Tch.of_below [] hb1
  have hB1 := hT1.blk HX.out (by simp)
  have y0 := (hB1.cell 0).trans (show _ = some (Value.bool s) by rfl)
  have y1 := (hB1.cell 1).trans (show _ = some (Value.int .u64 (ah : Int)) by rfl)
  have y2 := (hB1.cell 2).trans (show _ = some (Value.int .u64 (al : Int)) by rfl)
  have HT1 := lH (HT0.out.trans_fre hT1 (by simp))
  have HX1 := lH hB1
  have HD1 := lH (HD0.out.tch hT1 (by simp))
  clear hB1 hb1 hT1 x0 x1 x2
  go_wp2_with fail
  refine cZm (HWd.out _) ?_
  rintro e w2 ⟨rfl, hb2⟩
  have hT2 := Tch.of_below [] hb2
  have hB2 := hT2.blk HX1.out (by simp)
  have z0 := (hB2.cell 0).trans (show _ = some (Value.bool s) by rfl)
  have z1 := (hB2.cell 1).trans (show _ = some (Value.int .u64 (ah : Int)) by rfl)
  have z2 := (hB2.cell 2).trans (show _ = some (Value.int .u64 (al : Int)) by rfl)
  have HT2 := lH (HT1.out.trans_fre hT2 (by simp))
  have HX2 := lH hB2
  have HD2 := lH (HD1.out.tch hT2 (by simp))
  clear hB2 hb2 hT2 y0 y1 y2
  go_wp2_with fail
  refine cZm (HMi.out _ HD2.out) ?_
  rintro e w3 ⟨rfl, hT3⟩
  have hB3 := hT3.blk HX2.out (by simp)
  have v0 := (hB3.cell 0).trans (show _ = some (Value.bool s) by rfl)
  have v1 := (hB3.cell 1).trans (show _ = some (Value.int .u64 (ah : Int)) by rfl)
  have v2 := (hB3.cell 2).trans (show _ = some (Value.int .u64 (al : Int)) by rfl)
  have HX3 := lH hB3
  have HT3 := lH (HT2.out.trans_fre hT3 (by simp))
  have HD3 := lH (HD2.out.tch hT3 (by simp))
  obtain ⟨gP, cP, gL, cL, A, c, n, i, r0, r1, r2, r3, r4, r5, r6⟩ := HD3.out.reads HTt.out
  obtain ⟨gL', cL', A', c', n', i', l, q1, q2, q3, q4, q5, q6, q7, q8, q9, q10, q11, q12, q13⟩ := HD3.out.row HTt.out
  rw [r2] at q1
  injection q1 with q1
  injection q1 with q1a q1b q1c
  injection q1a with q1a
  injection q1a with q1a
  subst q1a q1b q1c
  rw [r4] at q4
  obtain rfl : i = i' := by omega
  rw [r3] at q2
  injection q2 with q2
  injection q2 with q2a q2b q2c
  subst q2a q2c
  clear hB3 hT3 z0 z1 z2 q4
  have i0 : (0 : Int) ≤ (i : Int) := by omega
  have i1 : (i : Int) < (n : Int) := by omega
  rw [q7] at l8 r3
  obtain rfl : l0 = l := by have := HIx.out.1; rw [q9, q8] at this; injection this with this; exact this.symm
  have HIdx := lH q9
  have HIx2 : Hid (i < st.1.length ∧ InvI (st.1, st.2.set i (l0 ++ [((s, ah, al), bits)]))) := lH (by have h1 := HInv.out; rw [q9] at h1; exact ⟨by omega, h1⟩)
  have HLt := lH (And.intro q11 q12)
  obtain ⟨m, hm⟩ : ∃ m, l0.length = m := ⟨_, rfl⟩
  have HM := lH hm
  rw [hm] at l8 r3 q3
  have HO3 := lH q3
  have HFz := lH q13
  clear q3 q5 q6 q7 q8 q9 q10 q11 q12 q13 hm q2b
  have HNil : Hid (w3.ownsRow w3.heap.size 202 4 (.slice none 0 0) 0 []) := lH ⟨rfl, .inl ⟨rfl, rfl⟩⟩
  have HSz : Hid (0 + m ≤ 1000000) := lH (by omega)
  rcases hs with rfl | ⟨rfl, m1⟩
  ·skip
   go_wp2_with (at_builtin; (refine wpList_apm 132 202 (.agg #[.bool false, .int .u64 0, .int .u64 0, .int .i64 0]) 4 32 Tryz.underlying132 infoLc rfl (by decide) (by decide) w3 rfl (.tmp 65) (.tmp 73) rfl w3.heap.size (.slice none 0 0) 0 [] rfl HNil.out 0 (.slice A m c) m (l0.flatMap lcC) rfl HO3.out (lcC_one l0) HSz.out (Nat.le_refl _) ?_; intro v9 w5 hown hg hv; have hT5 : Tch w3 w5 [] := Tch.of_grown' hg (fun g e => by cases e); have hX5 := hT5.blk HX3.out (by simp); have e0 := (hX5.cell 0).trans (show _ = some (Value.bool false) by rfl); have e1 := (hX5.cell 1).trans (show _ = some (Value.int .u64 (ah : Int)) by rfl); have e2 := (hX5.cell 2).trans (show _ = some (Value.int .u64 (al : Int)) by rfl); have e3 := (hT5.cell (p := ⟨t, 1, none⟩) HLt.out.1 (by simp)).trans r2; have HT5 := lH hT5; have HO5 := lH hown; have HX5 := lH hX5; clear hown hg hv hX5 hT5))
   have HO6 : Hid ((w5.drew.alloc (.cells #[.bool false, .int .u64 (ah : Int), .int .u64 (al : Int), .int .i64 bits] 202)).ownsRow w3.heap.size 202 4 v9 (0 + m) ([] ++ l0.flatMap lcC)) := lH (HO5.out.drew.alloc _)
   have e4 : (w5.alloc (.cells #[.bool false, .int .u64 (ah : Int), .int .u64 (al : Int), .int .i64 bits] 202)).cell? ⟨t, 1, none⟩ = some (.slice (some ⟨gL, 0, none⟩) n cL) := Lib.cell?_alloc_some _ e3
   have HSr := lH (src_new w5.drew 202 [.bool false, .int .u64 (ah : Int), .int .u64 (al : Int), .int .i64 bits])
   have HSz5 : Hid (w3.heap.size ≤ (w5.drew.alloc (.cells #[.bool false, .int .u64 (ah : Int), .int .u64 (al : Int), .int .i64 bits] 202)).heap.size) := lH (by have := HT5.out.size; simp; omega)
   go_region_law (refine step_apc 132 202 (.agg #[.bool false, .int .u64 0, .int .u64 0, .int .i64 0]) 4 32 Tryz.underlying132 infoLc rfl (by decide) (by decide) rfl (.tmp 81) (.tmp 85) rfl w3.heap.size v9 (0 + m) ([] ++ l0.flatMap lcC) (by simp [Act.eval]) HO6.out ⟨w5.heap.size, 0, none⟩ 1 [.bool false, .int .u64 (ah : Int), .int .u64 (al : Int), .int .i64 bits] (by simp [Act.eval]) rfl (fun j u hj => HSr.out j u hj) (by simp [Value.oneCell']) HSz.out HSz5.out ?_; intro v7 w7 hown hg hv; have hT37 : Tch w3 w7 [] := HT5.out.drew.trans_ownN (tch_appN hg HO6.out); have g1 := (hT37.cell (p := ⟨t, 1, none⟩) HLt.out.1 (by simp)).trans r2; have hTT := HT3.out.trans_fre hT37 (by simp); have hrw : (l0 ++ [((false, ah, al), bits)]).flatMap lcC = [] ++ l0.flatMap lcC ++ [.bool false, .int .u64 (ah : Int), .int .u64 (al : Int), .int .i64 bits] := (by simp [lcC]); obtain ⟨A7, c7, S', hv7, f7, ⟨u7, k7⟩, hI7, hG7⟩ := inner_end (l' := l0 ++ [((false, ah, al), bits)]) (k := 0 + m + 1) HS0.out hTT HIx2.out.1 HIx2.out.2 g1 (by simp [HM.out]) (by rw [hrw]; exact own_mono hown HT3.out.size); subst hv7; rw [Nat.zero_add] at hI7 hG7; have HI7 := lH hI7; have HG7 := lH hG7; clear hTT hT37 hrw hI7 hG7 hown hg hv)
   all_goals
    go_wp2
    exact bodyPost_ret (v := .int .i64 0) (by simp [results, Tryz.results92, go_sem]) rfl ⟨rfl, S', by rw [HIdx.out]; exact HI7.out, HG7.out⟩
  ·skip
   go_wp2_with (at_builtin; (refine wpList_apm 132 202 (.agg #[.bool false, .int .u64 0, .int .u64 0, .int .i64 0]) 4 32 Tryz.underlying132 infoLc rfl (by decide) (by decide) w3 rfl (.tmp 65) (.tmp 73) rfl w3.heap.size (.slice none 0 0) 0 [] rfl HNil.out 0 (.slice A m c) m (l0.flatMap lcC) rfl HO3.out (lcC_one l0) HSz.out (Nat.le_refl _) ?_; intro v9 w5 hown hg hv; have hT5 : Tch w3 w5 [] := Tch.of_grown' hg (fun g e => by cases e); have hX5 := hT5.blk HX3.out (by simp); have e0 := (hX5.cell 0).trans (show _ = some (Value.bool true) by rfl); have e1 := (hX5.cell 1).trans (show _ = some (Value.int .u64 (ah : Int)) by rfl); have e2 := (hX5.cell 2).trans (show _ = some (Value.int .u64 (al : Int)) by rfl); have e3 := (hT5.cell (p := ⟨t, 1, none⟩) HLt.out.1 (by simp)).trans r2; have HT5 := lH hT5; have HO5 := lH hown; have HX5 := lH hX5; clear hown hg hv hX5 hT5))
   have HO6 : Hid ((w5.drew.alloc (.cells #[.bool true, .int .u64 (ah : Int), .int .u64 (al : Int), .int .i64 bits] 202)).ownsRow w3.heap.size 202 4 v9 (0 + m) ([] ++ l0.flatMap lcC)) := lH (HO5.out.drew.alloc _)
   have e4 : (w5.alloc (.cells #[.bool true, .int .u64 (ah : Int), .int .u64 (al : Int), .int .i64 bits] 202)).cell? ⟨t, 1, none⟩ = some (.slice (some ⟨gL, 0, none⟩) n cL) := Lib.cell?_alloc_some _ e3
   have HSr := lH (src_new w5.drew 202 [.bool true, .int .u64 (ah : Int), .int .u64 (al : Int), .int .i64 bits])
   have HSz5 : Hid (w3.heap.size ≤ (w5.drew.alloc (.cells #[.bool true, .int .u64 (ah : Int), .int .u64 (al : Int), .int .i64 bits] 202)).heap.size) := lH (by have := HT5.out.size; simp; omega)
   go_region_law (refine step_apc 132 202 (.agg #[.bool false, .int .u64 0, .int .u64 0, .int .i64 0]) 4 32 Tryz.underlying132 infoLc rfl (by decide) (by decide) rfl (.tmp 81) (.tmp 85) rfl w3.heap.size v9 (0 + m) ([] ++ l0.flatMap lcC) (by simp [Act.eval]) HO6.out ⟨w5.heap.size, 0, none⟩ 1 [.bool true, .int .u64 (ah : Int), .int .u64 (al : Int), .int .i64 bits] (by simp [Act.eval]) rfl (fun j u hj => HSr.out j u hj) (by simp [Value.oneCell']) HSz.out HSz5.out ?_; intro v7 w7 hown hg hv; have hT37 : Tch w3 w7 [] := HT5.out.drew.trans_ownN (tch_appN hg HO6.out); have g1 := (hT37.cell (p := ⟨t, 1, none⟩) HLt.out.1 (by simp)).trans r2; have hTT := HT3.out.trans_fre hT37 (by simp); have hrw : (l0 ++ [((true, ah, al), bits)]).flatMap lcC = [] ++ l0.flatMap lcC ++ [.bool true, .int .u64 (ah : Int), .int .u64 (al : Int), .int .i64 bits] := (by simp [lcC]); obtain ⟨A7, c7, S', hv7, f7, ⟨u7, k7⟩, hI7, hG7⟩ := inner_end (l' := l0 ++ [((true, ah, al), bits)]) (k := 0 + m + 1) HS0.out hTT HIx2.out.1 HIx2.out.2 g1 (by simp [HM.out]) (by rw [hrw]; exact own_mono hown HT3.out.size); subst hv7; rw [Nat.zero_add] at hI7 hG7; have HI7 := lH hI7; have HG7 := lH hG7; clear hTT hT37 hrw hI7 hG7 hown hg hv)
   all_goals
    go_wp2
    exact bodyPost_ret (v := .int .i64 0) (by simp [results, Tryz.results92, go_sem]) rfl ⟨rfl, S', by rw [HIdx.out]; exact HI7.out, HG7.out⟩
theorem putD (t : Nat) (S : List Nat) (st : StI) (port : Int) (a : AdI) (ha : N64 a.2.1 ∧ N64 a.2.2) (bits : Int) (w : World) (h : IfD w t S st) :
  Calls Tryz.prog 92 #[.pointer (some ⟨t, 0, none⟩), .int .i64 port, adV a, .int .i64 bits] w fun e w' => e = .returned (.int .i64 (putI st port a bits).2) ∧ ∃ S', IfD w' t S' (putI st port a bits).1 ∧ Goes w w' S S' := by
 by_cases hb : thereI st port = false ∨ adOk st port a bits = false ∨ 8 ≤ (locI st port).length
 ·refine cZm (putD_bad t S st port a ha bits hb w h) ?_
  rintro e w' ⟨rfl, h1, h2⟩
  exact ⟨rfl, S, by rw [h1]; exact h.tch h2 (by simp), Goes.of_tch (h2.mono (by simp))⟩
 ·exact putD_ok t S st port a ha bits (by cases e : thereI st port with | true => rfl | false => exact absurd (.inl e) hb) (by cases e : adOk st port a bits with | true => rfl | false => exact absurd (.inr (.inl e)) hb) (fun x => hb (.inr (.inr x))) w h
end Go.Proofs.YtgfkmgbcajdcdaaGreatDoor.Ifs

namespace Go.Proofs.YtgfkmgbcajdcdaaGreatDoor.Ifs
open Go.RowKit

theorem eq_ad (s s' : Bool) (h l h' l' : Int) (W : World) : (Op.equalIn 10000 28 (.agg #[.bool s, .int .u64 h, .int .u64 l]) (.agg #[.bool s', .int .u64 h', .int .u64 l'])).run Tryz.prog W = .ok (decide (s = s' ∧ h = h' ∧ l = l')) W := by
 by_cases h1 : s = s'
 ·subst h1
  by_cases h2 : h = h'
  ·subst h2
   by_cases h3 : l = l'
   ·subst h3
    go_simp
   ·have h4 : (l == l') = false := by simpa using h3
    rw [show decide (s = s ∧ h = h ∧ l = l') = false by simp [h3]]
    go_simp
  ·have h4 : (h == h') = false := by simpa using h2
   rw [show decide (s = s ∧ h = h' ∧ l = l') = false by simp [h2]]
   go_simp
 ·have h4 : (s == s') = false := by simpa using h1
  rw [show decide (s = s' ∧ h = h' ∧ l = l') = false by simp [h1]]
  go_simp
theorem eq_adI (x y : AdI) {b : Bool} (hb : decide (x = y) = b) (W : World) : (Op.equalIn 10000 28 (.agg #[.bool x.1, .int .u64 (x.2.1 : Int), .int .u64 (x.2.2 : Int)]) (.agg #[.bool y.1, .int .u64 (y.2.1 : Int), .int .u64 (y.2.2 : Int)])).run Tryz.prog W = .ok b W := by
 rw [eq_ad, ← hb]
 obtain ⟨s, h, l⟩ := x
 obtain ⟨s', h', l'⟩ := y
 congr 2
 simp [Prod.ext_iff]
 intro _
 constructor <;> (rintro ⟨h1, h2⟩; constructor <;> omega)
end Go.Proofs.YtgfkmgbcajdcdaaGreatDoor.Ifs
