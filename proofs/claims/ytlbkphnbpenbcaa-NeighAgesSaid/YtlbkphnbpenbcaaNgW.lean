/-
  The laws of layer 19: awake.
-/
import Derived.Test.YtlbkphnbpenbcaaNgV
namespace Go.Proofs.Ytlbkphnbpenbcaa
open Go.RowKit
set_option linter.unusedVariables false

/-- A row of another type shares no block with the cache. -/
theorem NgP.apart {w : World} {t : Nat} {S : List Nat} {L : TbI} (h : NgP w t S L) {b n c sz : Nat} {ty : TypeId} {A : Option Addr} {xs : List Value} (ho : w.ownsRow b ty sz (.slice A n c) n xs) (h1 : ty ≠ 63) (h2 : ty ≠ 9) : ∀ s ∈ obI (.slice A n c), s ∉ S := by
  intro s hs hc
  obtain ⟨m, M, hm⟩ := h
  rcases ho.2 with ⟨e, -⟩ | ⟨g, cap, cur, e, -, hb, -⟩
  · rw [e] at hs; simp [obI, Value.ownBlock] at hs
  · rw [e] at hs
    have hsg : s = g := by simpa [obI, Value.ownBlock] using hs
    subst hsg
    rw [hm.eS] at hc
    rcases List.mem_cons.1 hc with e1 | e1
    · have := hm.bt
      unfold Blk at this
      rw [← e1, hb] at this
      injection this with this
      injection this with _ this _
      exact h1 this
    rcases List.mem_cons.1 e1 with e1 | e1
    · obtain ⟨es, clock, h3, -⟩ := hm.mp
      rw [← e1, hb] at h3
      cases h3
    obtain ⟨v, hv, hsv⟩ := List.mem_flatMap.1 e1
    obtain ⟨x, hx, rfl⟩ := List.mem_map.1 hv
    obtain ⟨en, -, A', c', he, ho'⟩ := hm.row x hx
    rw [he] at hsv
    rcases ho'.2 with ⟨e2, -⟩ | ⟨g', cap', cur', e2, -, hb', -⟩
    · have : wtB (enV en A' en.wts.length c') = [] := by rw [wtB_en, e2]; rfl
      rw [this] at hsv; cases hsv
    · rw [wtB_en, e2] at hsv
      have hsg' : s = g' := by simpa [obI, Value.ownBlock] using hsv
      subst hsg'
      rw [hb] at hb'
      injection hb' with hb'
      injection hb' with _ hb' _
      exact h2 hb'
theorem NgP.acts {w : World} {t : Nat} {S : List Nat} {L : TbI} (h : NgP w t S L) {b n c sz : Nat} {A : Option Addr} {xs : List Value} (ho : w.ownsRow b 41 sz (.slice A n c) n xs) : ∀ s ∈ obI (.slice A n c), s ∉ S := h.apart ho (by decide) (by decide)
abbrev twoV : Value := .agg #[.bool false, .int .u64 0, .int .u64 167772162]
abbrev twoA : AdR := (false, 0, 167772162)
theorem twoN (p : Int) : KyN (p, twoA) := (⟨by decide, by decide⟩ : (0 : Nat) < 18446744073709551616 ∧ (167772162 : Nat) < 18446744073709551616)
set_option maxRecDepth 100000 in
theorem two_any (w : World) : Calls Try.prog 23 #[] w fun e w' => e = .returned twoV ∧ Tch w w' [] := by
  obtain ⟨W1, hW1⟩ : ∃ W, w.alloc (.cells #[.bool false, .int .u64 0, .int .u64 0] 30) = W := ⟨_, rfl⟩
  obtain ⟨ab, hab⟩ : ∃ ab, w.heap.size = ab := ⟨_, rfl⟩
  have hA : Blk W1 ab 30 #[.bool false, .int .u64 0, .int .u64 0] := hW1 ▸ hab ▸ Blk.new w _ _
  have HT : Hid (Tch w W1 []) := Lib.hid (hW1 ▸ (Tch.refl w []).alloc _)
  have HW := Lib.hid (And.intro hW1 hab)
  have HA := Lib.hid hA
  have HL : Hid (w.heap.size ≤ ab) := Lib.hid (by omega)
  clear hW1 hab hA
  go_enter Try.func23, Try.ntmps23
  go_wp2_with (first | (rw [HW.out.1, HW.out.2]) | (refine wpList_sta rfl 30 (.tmp 0) (.tmp 1) rfl ab 0 _ rfl rfl 30 _ HA.out 3 (by kernel_rfl) rfl (by decide) (by intro v hv; simp at hv; rcases hv with rfl | rfl | rfl <;> rfl) ?_; intro w2 hS2))
  have HT2 : Hid (Tch w w2 []) := Lib.hid (HT.out.trans_fre hS2.tch (by have := HL.out; simp; omega))
  obtain ⟨z0, z1, z2⟩ := (sta_whole hS2 rfl).c3
  clear hS2
  exact bodyPost_ret (v := twoV) (by simp [results, Try.results23, go_sem, z0, z1, z2]) rfl ⟨rfl, HT2.out⟩
abbrev bA : ByteArray := ⟨#[97]⟩
abbrev bB : ByteArray := ⟨#[98]⟩
abbrev bC : ByteArray := ⟨#[99]⟩
abbrev bD : ByteArray := ⟨#[100]⟩
abbrev bX : ByteArray := ⟨#[120]⟩
abbrev k1 : KyI := (1, false, 0, 167772162)
abbrev k2 : KyI := (2, false, 0, 167772162)
theorem rg1 : rgtK k1 = true := by kernel_rfl
theorem e1 : sendT [] k1 bA = ([acI k1 2 0 nilS8], 0, [(k1, ⟨1, 0, 0, 1, [bA]⟩)]) := by kernel_rfl
theorem e2 : sendT [(k1, ⟨1, 0, 0, 1, [bA]⟩)] k1 bB = ([], 0, [(k1, ⟨1, 0, 0, 1, [bA, bB]⟩)]) := by kernel_rfl
theorem e3 : sendT [(k1, ⟨1, 0, 0, 1, [bA, bB]⟩)] k1 bC = ([], 0, [(k1, ⟨1, 0, 0, 1, [bA, bB, bC]⟩)]) := by kernel_rfl
theorem e4 : sendT [(k1, ⟨1, 0, 0, 1, [bA, bB, bC]⟩)] k1 bD = ([acI k1 4 0 bA], 0, [(k1, ⟨1, 0, 0, 1, [bB, bC, bD]⟩)]) := by kernel_rfl
theorem e5 : telT [(k1, ⟨1, 0, 0, 1, [bB, bC, bD]⟩)] k1 5 true true = ([acI k1 1 5 bB, acI k1 1 5 bC, acI k1 1 5 bD], 0, [(k1, ⟨2, 5, 30, 0, []⟩)]) := by kernel_rfl
theorem e6 : staT [(k1, ⟨2, 5, 30, 0, []⟩)] k1 = (2, 5) := by kernel_rfl
theorem e7 : lrnT [(k1, ⟨2, 5, 30, 0, []⟩)] (9, twoA) 5 = ([], 1, [(k1, ⟨2, 5, 30, 0, []⟩)]) := by kernel_rfl
theorem e8 : sendT [(k1, ⟨2, 5, 30, 0, []⟩)] k2 bX = ([acI k2 2 0 nilS8], 0, [(k1, ⟨2, 5, 30, 0, []⟩), (k2, ⟨1, 0, 0, 1, [bX]⟩)]) := by kernel_rfl
theorem e9 : tikL [(k1, ⟨2, 5, 30, 0, []⟩), (k2, ⟨1, 0, 0, 1, [bX]⟩)] = [(k1, ⟨2, 5, 29, 0, []⟩), (k2, ⟨1, 0, 0, 2, [bX]⟩)] := by kernel_rfl
theorem e10 : tikL [(k1, ⟨2, 5, 29, 0, []⟩), (k2, ⟨1, 0, 0, 2, [bX]⟩)] = [(k1, ⟨2, 5, 28, 0, []⟩), (k2, ⟨1, 0, 0, 3, [bX]⟩)] := by kernel_rfl
theorem e11 : tikL [(k1, ⟨2, 5, 28, 0, []⟩), (k2, ⟨1, 0, 0, 3, [bX]⟩)] = [(k1, ⟨2, 5, 27, 0, []⟩)] := by kernel_rfl
theorem e11a : tikA [(k1, ⟨2, 5, 28, 0, []⟩), (k2, ⟨1, 0, 0, 3, [bX]⟩)] = [acI k2 3 0 bX] := by kernel_rfl
theorem e12 : drpL [(k1, ⟨2, 5, 27, 0, []⟩)] 1 = [] := by kernel_rfl
theorem e12a : drpA [(k1, ⟨2, 5, 27, 0, []⟩)] 1 = [] := by kernel_rfl
theorem sendTw {w : World} {t : Nat} {S : List Nat} {L : TbI} (h : NgP w t S L) (p : Int) (q : ByteArray) {r : List AcI × Int × TbI} (hr : sendT L (p, twoA) q = r) : Calls Try.prog 18 #[.pointer (some ⟨t, 0, none⟩), .int .i64 p, twoV, .string q] w fun e w' => ActR w w' t S r e := hr ▸ sendN h (p, twoA) (twoN p) q
set_option maxRecDepth 100000 in
set_option maxHeartbeats 4000000 in
theorem awake_yes (w : World) : Calls Try.prog 7 #[] w fun e w' => e = .returned (.bool true) ∧ Tch w w' [] := by
  have HNew := Lib.hid (newN w)
  have hlw : IntKind.i64.wrap 1 = 1 := by decide
  go_enter Try.func7, Try.ntmps7
  go_wp2_with fail
  refine Calls.mono HNew.out ?_
  rintro e W1 ⟨t, S1, rfl, hP, hT, hF⟩
  have HP1 := Lib.hid hP
  have HG1 : Hid (Tch w W1 [] ∧ ∀ s ∈ S1, w.heap.size ≤ s) := Lib.hid ⟨hT, hF⟩
  clear hP hT hF
  go_wp2_with fail
  refine Calls.mono (two_any W1) ?_
  rintro e V1 ⟨rfl, hT⟩
  have HQ1 := Lib.hid (HP1.out.tch hT (by simp))
  have HV1 : Hid (Tch w V1 [] ∧ ∀ s ∈ S1, w.heap.size ≤ s) := Lib.hid ⟨HG1.out.1.trans hT, HG1.out.2⟩
  clear hT
  go_wp2_with fail
  refine Calls.mono (sendTw HQ1.out 1 bA e1) ?_
  rintro e W2 ⟨A1, c1, S2, rfl, hO, hP, hG⟩
  have HP2 : Hid (NgP W2 t S2 ([(k1, ⟨1, 0, 0, 1, [bA]⟩)])) := Lib.hid hP
  have HG2 : Hid (Tch w W2 [] ∧ ∀ s ∈ S2, w.heap.size ≤ s) := Lib.hid ⟨HV1.out.1.trans_fre hG.tch (fun s hs => .inr (HV1.out.2 s hs)), fun s hs => by
    rcases hG.fre s hs with h | h
    · exact HV1.out.2 s h
    · have := HV1.out.1.size; omega⟩
  have HRa : Hid (W2.ownsRow V1.heap.size 41 7 (.slice A1 1 c1) 1 (([acI k1 2 0 nilS8] : List AcI).flatMap acC)) := Lib.hid hO
  clear hO hP hG
  go_wp2_with fail
  refine Calls.mono (two_any W2) ?_
  rintro e V2 ⟨rfl, hT⟩
  have HQ2 := Lib.hid (HP2.out.tch hT (by simp))
  have HV2 : Hid (Tch w V2 [] ∧ ∀ s ∈ S2, w.heap.size ≤ s) := Lib.hid ⟨HG2.out.1.trans hT, HG2.out.2⟩
  have HRav2 := Lib.hid (own_tch HRa.out hT (by simp))
  clear hT
  go_wp2_with fail
  refine Calls.mono (sendTw HQ2.out 1 bB e2) ?_
  rintro e W3 ⟨A2, c2, S3, rfl, hO, hP, hG⟩
  have HP3 : Hid (NgP W3 t S3 ([(k1, ⟨1, 0, 0, 1, [bA, bB]⟩)])) := Lib.hid hP
  have HG3 : Hid (Tch w W3 [] ∧ ∀ s ∈ S3, w.heap.size ≤ s) := Lib.hid ⟨HV2.out.1.trans_fre hG.tch (fun s hs => .inr (HV2.out.2 s hs)), fun s hs => by
    rcases hG.fre s hs with h | h
    · exact HV2.out.2 s h
    · have := HV2.out.1.size; omega⟩
  have HRaw3 := Lib.hid (own_tch HRav2.out hG.tch (HQ2.out.acts HRav2.out))
  clear hO hP hG
  go_wp2_with fail
  refine Calls.mono (two_any W3) ?_
  rintro e V3 ⟨rfl, hT⟩
  have HQ3 := Lib.hid (HP3.out.tch hT (by simp))
  have HV3 : Hid (Tch w V3 [] ∧ ∀ s ∈ S3, w.heap.size ≤ s) := Lib.hid ⟨HG3.out.1.trans hT, HG3.out.2⟩
  have HRav3 := Lib.hid (own_tch HRaw3.out hT (by simp))
  clear hT
  go_wp2_with fail
  refine Calls.mono (sendTw HQ3.out 1 bC e3) ?_
  rintro e W4 ⟨A3, c3, S4, rfl, hO, hP, hG⟩
  have HP4 : Hid (NgP W4 t S4 ([(k1, ⟨1, 0, 0, 1, [bA, bB, bC]⟩)])) := Lib.hid hP
  have HG4 : Hid (Tch w W4 [] ∧ ∀ s ∈ S4, w.heap.size ≤ s) := Lib.hid ⟨HV3.out.1.trans_fre hG.tch (fun s hs => .inr (HV3.out.2 s hs)), fun s hs => by
    rcases hG.fre s hs with h | h
    · exact HV3.out.2 s h
    · have := HV3.out.1.size; omega⟩
  have HRaw4 := Lib.hid (own_tch HRav3.out hG.tch (HQ3.out.acts HRav3.out))
  clear hO hP hG
  go_wp2_with fail
  refine Calls.mono (two_any W4) ?_
  rintro e V4 ⟨rfl, hT⟩
  have HQ4 := Lib.hid (HP4.out.tch hT (by simp))
  have HV4 : Hid (Tch w V4 [] ∧ ∀ s ∈ S4, w.heap.size ≤ s) := Lib.hid ⟨HG4.out.1.trans hT, HG4.out.2⟩
  have HRav4 := Lib.hid (own_tch HRaw4.out hT (by simp))
  clear hT
  go_wp2_with fail
  refine Calls.mono (sendTw HQ4.out 1 bD e4) ?_
  rintro e W5 ⟨A4, c4, S5, rfl, hO, hP, hG⟩
  have HP5 : Hid (NgP W5 t S5 ([(k1, ⟨1, 0, 0, 1, [bB, bC, bD]⟩)])) := Lib.hid hP
  have HG5 : Hid (Tch w W5 [] ∧ ∀ s ∈ S5, w.heap.size ≤ s) := Lib.hid ⟨HV4.out.1.trans_fre hG.tch (fun s hs => .inr (HV4.out.2 s hs)), fun s hs => by
    rcases hG.fre s hs with h | h
    · exact HV4.out.2 s h
    · have := HV4.out.1.size; omega⟩
  have HRaw5 := Lib.hid (own_tch HRav4.out hG.tch (HQ4.out.acts HRav4.out))
  have HRb : Hid (W5.ownsRow V4.heap.size 41 7 (.slice A4 1 c4) 1 (([acI k1 4 0 bA] : List AcI).flatMap acC)) := Lib.hid hO
  clear hO hP hG
  go_wp2_with fail
  refine Calls.mono (two_any W5) ?_
  rintro e V5 ⟨rfl, hT⟩
  have HQ5 := Lib.hid (HP5.out.tch hT (by simp))
  have HV5 : Hid (Tch w V5 [] ∧ ∀ s ∈ S5, w.heap.size ≤ s) := Lib.hid ⟨HG5.out.1.trans hT, HG5.out.2⟩
  have HRav5 := Lib.hid (own_tch HRaw5.out hT (by simp))
  have HRbv5 := Lib.hid (own_tch HRb.out hT (by simp))
  clear hT
  go_wp2_with fail
  refine Calls.mono ((show Calls _ _ _ _ _ from e5 ▸ tellN HQ5.out k1 (twoN 1) 5 true true)) ?_
  rintro e W6 ⟨A5, c5, S6, rfl, hO, hP, hG⟩
  have HP6 : Hid (NgP W6 t S6 ([(k1, ⟨2, 5, 30, 0, []⟩)])) := Lib.hid hP
  have HG6 : Hid (Tch w W6 [] ∧ ∀ s ∈ S6, w.heap.size ≤ s) := Lib.hid ⟨HV5.out.1.trans_fre hG.tch (fun s hs => .inr (HV5.out.2 s hs)), fun s hs => by
    rcases hG.fre s hs with h | h
    · exact HV5.out.2 s h
    · have := HV5.out.1.size; omega⟩
  have HRaw6 := Lib.hid (own_tch HRav5.out hG.tch (HQ5.out.acts HRav5.out))
  have HRbw6 := Lib.hid (own_tch HRbv5.out hG.tch (HQ5.out.acts HRbv5.out))
  clear hO hP hG
  go_wp2_with fail
  refine Calls.mono (two_any W6) ?_
  rintro e V6 ⟨rfl, hT⟩
  have HQ6 := Lib.hid (HP6.out.tch hT (by simp))
  have HV6 : Hid (Tch w V6 [] ∧ ∀ s ∈ S6, w.heap.size ≤ s) := Lib.hid ⟨HG6.out.1.trans hT, HG6.out.2⟩
  have HRav6 := Lib.hid (own_tch HRaw6.out hT (by simp))
  have HRbv6 := Lib.hid (own_tch HRbw6.out hT (by simp))
  clear hT
  go_wp2_with fail
  refine Calls.mono (show Calls _ _ _ _ _ from e6 ▸ stateN HQ6.out k1) ?_
  rintro e W7 ⟨rfl, hT⟩
  have HP7 := Lib.hid (HQ6.out.tch hT (by simp))
  have HG7 : Hid (Tch w W7 [] ∧ ∀ s ∈ S6, w.heap.size ≤ s) := Lib.hid ⟨HV6.out.1.trans hT, HV6.out.2⟩
  have HRaw7 := Lib.hid (own_tch HRav6.out hT (by simp))
  have HRbw7 := Lib.hid (own_tch HRbv6.out hT (by simp))
  clear hT
  obtain ⟨S7, hS7⟩ : ∃ S, S6 = S := ⟨_, rfl⟩
  rw [hS7] at HP7 HG7
  clear hS7
  go_wp2_with fail
  refine Calls.mono (two_any W7) ?_
  rintro e V7 ⟨rfl, hT⟩
  have HQ7 := Lib.hid (HP7.out.tch hT (by simp))
  have HV7 : Hid (Tch w V7 [] ∧ ∀ s ∈ S7, w.heap.size ≤ s) := Lib.hid ⟨HG7.out.1.trans hT, HG7.out.2⟩
  have HRav7 := Lib.hid (own_tch HRaw7.out hT (by simp))
  have HRbv7 := Lib.hid (own_tch HRbw7.out hT (by simp))
  clear hT
  go_wp2_with fail
  refine Calls.mono ((show Calls _ _ _ _ _ from e7 ▸ learnN HQ7.out (9, twoA) (twoN 9) 5)) ?_
  rintro e W8 ⟨A7, c7, S8, rfl, hO, hP, hG⟩
  have HP8 : Hid (NgP W8 t S8 ([(k1, ⟨2, 5, 30, 0, []⟩)])) := Lib.hid hP
  have HG8 : Hid (Tch w W8 [] ∧ ∀ s ∈ S8, w.heap.size ≤ s) := Lib.hid ⟨HV7.out.1.trans_fre hG.tch (fun s hs => .inr (HV7.out.2 s hs)), fun s hs => by
    rcases hG.fre s hs with h | h
    · exact HV7.out.2 s h
    · have := HV7.out.1.size; omega⟩
  have HRaw8 := Lib.hid (own_tch HRav7.out hG.tch (HQ7.out.acts HRav7.out))
  have HRbw8 := Lib.hid (own_tch HRbv7.out hG.tch (HQ7.out.acts HRbv7.out))
  clear hO hP hG
  go_wp2_with fail
  refine Calls.mono (two_any W8) ?_
  rintro e V8 ⟨rfl, hT⟩
  have HQ8 := Lib.hid (HP8.out.tch hT (by simp))
  have HV8 : Hid (Tch w V8 [] ∧ ∀ s ∈ S8, w.heap.size ≤ s) := Lib.hid ⟨HG8.out.1.trans hT, HG8.out.2⟩
  have HRav8 := Lib.hid (own_tch HRaw8.out hT (by simp))
  have HRbv8 := Lib.hid (own_tch HRbw8.out hT (by simp))
  clear hT
  go_wp2_with fail
  refine Calls.mono (sendTw HQ8.out 2 bX e8) ?_
  rintro e W9 ⟨A8, c8, S9, rfl, hO, hP, hG⟩
  have HP9 : Hid (NgP W9 t S9 ([(k1, ⟨2, 5, 30, 0, []⟩), (k2, ⟨1, 0, 0, 1, [bX]⟩)])) := Lib.hid hP
  have HG9 : Hid (Tch w W9 [] ∧ ∀ s ∈ S9, w.heap.size ≤ s) := Lib.hid ⟨HV8.out.1.trans_fre hG.tch (fun s hs => .inr (HV8.out.2 s hs)), fun s hs => by
    rcases hG.fre s hs with h | h
    · exact HV8.out.2 s h
    · have := HV8.out.1.size; omega⟩
  have HRaw9 := Lib.hid (own_tch HRav8.out hG.tch (HQ8.out.acts HRav8.out))
  have HRbw9 := Lib.hid (own_tch HRbv8.out hG.tch (HQ8.out.acts HRbv8.out))
  clear hO hP hG
  go_wp2_with fail
  refine Calls.mono ((show Calls _ _ _ _ _ from tickN HP9.out)) ?_
  rintro e W10 ⟨A9, c9, S10, rfl, hO, hP, hG⟩
  have HP10 : Hid (NgP W10 t S10 ([(k1, ⟨2, 5, 29, 0, []⟩), (k2, ⟨1, 0, 0, 2, [bX]⟩)])) := Lib.hid (e9 ▸ hP)
  have HG10 : Hid (Tch w W10 [] ∧ ∀ s ∈ S10, w.heap.size ≤ s) := Lib.hid ⟨HG9.out.1.trans_fre hG.tch (fun s hs => .inr (HG9.out.2 s hs)), fun s hs => by
    rcases hG.fre s hs with h | h
    · exact HG9.out.2 s h
    · have := HG9.out.1.size; omega⟩
  have HRaw10 := Lib.hid (own_tch HRaw9.out hG.tch (HP9.out.acts HRaw9.out))
  have HRbw10 := Lib.hid (own_tch HRbw9.out hG.tch (HP9.out.acts HRbw9.out))
  clear hO hP hG
  go_wp2_with fail
  refine Calls.mono ((show Calls _ _ _ _ _ from tickN HP10.out)) ?_
  rintro e W11 ⟨A10, c10, S11, rfl, hO, hP, hG⟩
  have HP11 : Hid (NgP W11 t S11 ([(k1, ⟨2, 5, 28, 0, []⟩), (k2, ⟨1, 0, 0, 3, [bX]⟩)])) := Lib.hid (e10 ▸ hP)
  have HG11 : Hid (Tch w W11 [] ∧ ∀ s ∈ S11, w.heap.size ≤ s) := Lib.hid ⟨HG10.out.1.trans_fre hG.tch (fun s hs => .inr (HG10.out.2 s hs)), fun s hs => by
    rcases hG.fre s hs with h | h
    · exact HG10.out.2 s h
    · have := HG10.out.1.size; omega⟩
  have HRaw11 := Lib.hid (own_tch HRaw10.out hG.tch (HP10.out.acts HRaw10.out))
  have HRbw11 := Lib.hid (own_tch HRbw10.out hG.tch (HP10.out.acts HRbw10.out))
  clear hO hP hG
  go_wp2_with fail
  refine Calls.mono ((show Calls _ _ _ _ _ from e11a ▸ tickN HP11.out)) ?_
  rintro e W12 ⟨A11, c11, S12, rfl, hO, hP, hG⟩
  have HP12 : Hid (NgP W12 t S12 ([(k1, ⟨2, 5, 27, 0, []⟩)])) := Lib.hid (e11 ▸ hP)
  have HG12 : Hid (Tch w W12 [] ∧ ∀ s ∈ S12, w.heap.size ≤ s) := Lib.hid ⟨HG11.out.1.trans_fre hG.tch (fun s hs => .inr (HG11.out.2 s hs)), fun s hs => by
    rcases hG.fre s hs with h | h
    · exact HG11.out.2 s h
    · have := HG11.out.1.size; omega⟩
  have HRaw12 := Lib.hid (own_tch HRaw11.out hG.tch (HP11.out.acts HRaw11.out))
  have HRbw12 := Lib.hid (own_tch HRbw11.out hG.tch (HP11.out.acts HRbw11.out))
  have HRy : Hid (W12.ownsRow W11.heap.size 41 7 (.slice A11 1 c11) 1 (([acI k2 3 0 bX] : List AcI).flatMap acC)) := Lib.hid hO
  clear hO hP hG
  go_wp2_with fail
  refine Calls.mono ((show Calls _ _ _ _ _ from e12a ▸ dropN HP12.out 1)) ?_
  rintro e W13 ⟨A12, c12, S13, rfl, hO, hP, hG⟩
  have HP13 : Hid (NgP W13 t S13 ([])) := Lib.hid (e12 ▸ hP)
  have HG13 : Hid (Tch w W13 [] ∧ ∀ s ∈ S13, w.heap.size ≤ s) := Lib.hid ⟨HG12.out.1.trans_fre hG.tch (fun s hs => .inr (HG12.out.2 s hs)), fun s hs => by
    rcases hG.fre s hs with h | h
    · exact HG12.out.2 s h
    · have := HG12.out.1.size; omega⟩
  have HRaw13 := Lib.hid (own_tch HRaw12.out hG.tch (HP12.out.acts HRaw12.out))
  have HRbw13 := Lib.hid (own_tch HRbw12.out hG.tch (HP12.out.acts HRbw12.out))
  have HRyw13 := Lib.hid (own_tch HRy.out hG.tch (HP12.out.acts HRy.out))
  clear hO hP hG
  go_wp2_with fail
  refine Calls.mono (two_any W13) ?_
  rintro e Y1 ⟨rfl, hT⟩
  have HY1 : Hid (Tch w Y1 []) := Lib.hid (HG13.out.1.trans hT)
  have HPY1 := Lib.hid (HP13.out.tch hT (by simp))
  have HRay1 := Lib.hid (own_tch HRaw13.out hT (by simp))
  have HRby1 := Lib.hid (own_tch HRbw13.out hT (by simp))
  have HRyy1 := Lib.hid (own_tch HRyw13.out hT (by simp))
  clear hT
  go_wp2_with fail
  refine Calls.mono (sameA ([acI k1 2 0 nilS8]) (by decide) _ (HRay1.out.alloc _) (own_one (w := Y1) (base := 0) (cs := #[.int .i64 2, .int .i64 1, .bool false, .int .u64 0, .int .u64 167772162, .int .u64 0, .string ⟨#[]⟩]) rfl (Nat.zero_le _))) ?_
  rintro e X1 ⟨rfl, hT⟩
  have hT := ((Tch.refl Y1 []).alloc _).trans hT
  have HX1 : Hid (Tch w X1 []) := Lib.hid (HY1.out.trans hT)
  have HPX1 := Lib.hid (HPY1.out.tch hT (by simp))
  have HRax1 := Lib.hid (own_tch HRay1.out hT (by simp))
  have HRbx1 := Lib.hid (own_tch HRby1.out hT (by simp))
  have HRyx1 := Lib.hid (own_tch HRyy1.out hT (by simp))
  clear hT
  go_wp2_with fail
  refine Calls.mono (two_any X1) ?_
  rintro e Y2 ⟨rfl, hT⟩
  have HY2 : Hid (Tch w Y2 []) := Lib.hid (HX1.out.trans hT)
  have HPY2 := Lib.hid (HPX1.out.tch hT (by simp))
  have HRay2 := Lib.hid (own_tch HRax1.out hT (by simp))
  have HRby2 := Lib.hid (own_tch HRbx1.out hT (by simp))
  have HRyy2 := Lib.hid (own_tch HRyx1.out hT (by simp))
  clear hT
  go_wp2_with fail
  refine Calls.mono (sameA ([acI k1 4 0 bA]) (by decide) _ (HRby2.out.alloc _) (own_one (w := Y2) (base := 0) (cs := #[.int .i64 4, .int .i64 1, .bool false, .int .u64 0, .int .u64 167772162, .int .u64 0, .string ⟨#[97]⟩]) rfl (Nat.zero_le _))) ?_
  rintro e X2 ⟨rfl, hT⟩
  have hT := ((Tch.refl Y2 []).alloc _).trans hT
  have HX2 : Hid (Tch w X2 []) := Lib.hid (HY2.out.trans hT)
  have HPX2 := Lib.hid (HPY2.out.tch hT (by simp))
  have HRax2 := Lib.hid (own_tch HRay2.out hT (by simp))
  have HRbx2 := Lib.hid (own_tch HRby2.out hT (by simp))
  have HRyx2 := Lib.hid (own_tch HRyy2.out hT (by simp))
  clear hT
  go_wp2_with fail
  refine Calls.mono (two_any X2) ?_
  rintro e Y3 ⟨rfl, hT⟩
  have HY3 : Hid (Tch w Y3 []) := Lib.hid (HX2.out.trans hT)
  have HPY3 := Lib.hid (HPX2.out.tch hT (by simp))
  have HRay3 := Lib.hid (own_tch HRax2.out hT (by simp))
  have HRby3 := Lib.hid (own_tch HRbx2.out hT (by simp))
  have HRyy3 := Lib.hid (own_tch HRyx2.out hT (by simp))
  clear hT
  go_wp2_with fail
  refine Calls.mono (sameA ([acI k2 3 0 bX]) (by decide) _ (HRyy3.out.alloc _) (own_one (w := Y3) (base := 0) (cs := #[.int .i64 3, .int .i64 2, .bool false, .int .u64 0, .int .u64 167772162, .int .u64 0, .string ⟨#[120]⟩]) rfl (Nat.zero_le _))) ?_
  rintro e X3 ⟨rfl, hT⟩
  have hT := ((Tch.refl Y3 []).alloc _).trans hT
  have HX3 : Hid (Tch w X3 []) := Lib.hid (HY3.out.trans hT)
  have HPX3 := Lib.hid (HPY3.out.tch hT (by simp))
  have HRax3 := Lib.hid (own_tch HRay3.out hT (by simp))
  have HRbx3 := Lib.hid (own_tch HRby3.out hT (by simp))
  have HRyx3 := Lib.hid (own_tch HRyy3.out hT (by simp))
  clear hT
  go_wp2_with fail
  refine Calls.mono (knownN HPX3.out) ?_
  rintro e X4 ⟨A13, c13, rfl, hO, hT⟩
  have HX4 : Hid (Tch w X4 []) := Lib.hid (HX3.out.trans hT)
  clear hO hT
  go_wp2
  go_ret
  exact ⟨rfl, HX4.out⟩
end Go.Proofs.Ytlbkphnbpenbcaa
