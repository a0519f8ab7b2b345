/-
  crosswaylaw19.NeighAges returns true for every input, and leaves its arguments alone.
  Conditions: none of our own.
-/
import Derived.Test.YtlbkphnbpenbcaaNgX
import Derived.Test.YtlbkphnbpenbcaaNgW
import Derived.Deep.DeepCutAuto
namespace Go.Proofs.Ytlbkphnbpenbcaa
open Go.ChangeShapes Go.WideShapes Go.ChangeAt Go.RowKit
set_option linter.unusedVariables false
namespace NAge
theorem fnd_sgl (k : KyI) (e : EnI) : fnd [(k, e)] k = some e := by simp [fnd]
theorem put_sgl (k : KyI) (e0 e : EnI) : putT [(k, e0)] k e = [(k, e)] := by simp [putT, fnd, updT]
theorem put_nil (k : KyI) (e : EnI) : putT [] k e = [(k, e)] := by simp [putT, fnd, insT]
theorem send_nil {k : KyI} (hk : rgtK k = true) (p : ByteArray) : sendT [] k p = ([acI k 2 0 nilS8], 0, [(k, ⟨1, 0, 0, 1, [p]⟩)]) := by
  unfold sendT
  rw [if_pos hk]
  simp [fnd, put_nil]
theorem send_sgl {k : KyI} (hk : rgtK k = true) (e : EnI) (p : ByteArray) : sendT [(k, e)] k p = ((sendE k e p).1, 0, [(k, (sendE k e p).2)]) := by
  unfold sendT
  rw [if_pos hk, fnd_sgl]
  simp only
  rw [put_sgl]
theorem tell_new {k : KyI} (hk : rgtK k = true) {m : Int} (hm : macV m = true) (p : ByteArray) : telT [(k, ⟨1, 0, 0, 1, [p]⟩)] k m true true = ([acI k 1 m p], 0, [(k, rchE m)]) := by
  unfold telT
  rw [hk, hm, fnd_sgl]
  simp [setT, flsE, sendE, rchE, put_sgl]
theorem tell_same {k : KyI} (hk : rgtK k = true) {m : Int} (hm : macV m = true) (e : EnI) (he : e.mac = m) (hw : e.wts = []) : telT [(k, e)] k m true false = ([], 0, [(k, rchE m)]) := by
  unfold telT
  rw [hk, hm, fnd_sgl]
  simp [he, hw, setT, flsE, put_sgl]
theorem tik_sgl (k : KyI) (e : EnI) : tikA [(k, e)] = (tikE k e).1 ∧ tikL [(k, e)] = match (tikE k e).2 with | some f => [(k, f)] | none => [] := by
  refine ⟨by simp [tikA], ?_⟩
  unfold tikL
  cases h : (tikE k e).2 <;> simp [h]
/-- Sure for thirty ticks. -/
def agA (k : KyI) (m : Int) (t : Nat) : TbI := if t ≤ 30 then [(k, ⟨2, m, 31 - (t : Int), 0, []⟩)] else [(k, stlE m)]
theorem agA_tik (k : KyI) (m : Int) {t : Nat} (h1 : 1 ≤ t) (h2 : t ≤ 30) : tikA (agA k m t) = [] ∧ tikL (agA k m t) = agA k m (t + 1) ∧ staT (agA k m t) k = (2, m) := by
  unfold agA
  rw [if_pos h2, (tik_sgl _ _).1, (tik_sgl _ _).2]
  refine ⟨by simp [tikE], ?_, by simp [staT, fnd]⟩
  by_cases h : t = 30
  · subst h
    simp [tikE]
  · rw [if_pos (by omega)]
    have : ¬ (31 - (t : Int) - 1 = 0) := by omega
    simp [tikE, this]
    omega
theorem agB_tik (k : KyI) (m : Int) : tikA [(k, stlE m)] = [] ∧ tikL [(k, stlE m)] = [(k, stlE m)] ∧ staT [(k, stlE m)] k = (3, m) := by
  rw [(tik_sgl _ _).1, (tik_sgl _ _).2]
  refine ⟨by simp [tikE, stlE], by simp [tikE, stlE], by simp [staT, fnd, stlE]⟩
/-- Asked behind five ticks, three times, then gone. -/
def agC (k : KyI) (m : Int) (t : Nat) : TbI := if t ≤ 5 then [(k, ⟨4, m, 6 - (t : Int), 0, []⟩)] else if t ≤ 8 then [(k, ⟨5, m, 0, (t : Int) - 5, []⟩)] else []
def agS (t : Nat) : Int := if t < 5 then 4 else if t < 8 then 5 else 0
def agQ (k : KyI) (m : Int) (t : Nat) : List AcI := if t < 5 then [] else if t < 8 then [acI k 2 m nilS8] else []
theorem agC_tik (k : KyI) (m : Int) {t : Nat} (h1 : 1 ≤ t) (h2 : t ≤ 8) : tikA (agC k m t) = agQ k m t ∧ tikL (agC k m t) = agC k m (t + 1) ∧ (staT (agC k m (t + 1)) k).1 = agS t := by
  have h : t = 1 ∨ t = 2 ∨ t = 3 ∨ t = 4 ∨ t = 5 ∨ t = 6 ∨ t = 7 ∨ t = 8 := by omega
  rcases h with rfl | rfl | rfl | rfl | rfl | rfl | rfl | rfl <;> simp [agC, agQ, agS, tik_sgl, tikE, askE, staT, fnd]
theorem agC_tell {k : KyI} (hk : rgtK k = true) {m : Int} (hm : macV m = true) {t : Nat} (h1 : 1 ≤ t) (h2 : t < 8) : telT (agC k m (t + 1)) k m true false = ([], 0, [(k, rchE m)]) := by
  unfold agC
  split
  · exact tell_same hk hm _ rfl rfl
  · rw [if_pos (by omega)]
    exact tell_same hk hm _ rfl rfl
theorem tell_bad {k : KyI} {m : Int} (h : (rgtK k && macV m) = false) : telT [] k m true true = ([], 1, []) := by
  unfold telT
  rw [h]
  rfl
theorem sta_rch (k : KyI) (m : Int) : staT [(k, rchE m)] k = (2, m) := by simp [staT, fnd, rchE]
set_option maxRecDepth 100000 in
set_option maxHeartbeats 8000000 in
theorem walk (w : World) (a0_0 : Int) (w0_0 : (Lit.int .i64 a0_0).wf = true) (a0_1 : Int) (w0_1 : (Lit.int .i64 a0_1).wf = true) (a0_2 : Bool) (a0_3 : Int) (w0_3 : (Lit.int .u64 a0_3).wf = true) (a0_4 : Int) (w0_4 : (Lit.int .u64 a0_4).wf = true) (a0_5 : Int) (w0_5 : (Lit.int .u64 a0_5).wf = true) (a0_6 : ByteArray) (w0_6 : a0_6.size ≤ maxLen) (a0_7 : Bool) (a0_8 : Bool) (a1 : Int) (w1 : (Lit.int .i64 a1).wf = true) (a2 : Int) (w2 : (Lit.int .i64 a2).wf = true) :
    Calls Try.prog 6 #[.agg #[.int .i64 a0_0, .int .i64 a0_1, .bool a0_2, .int .u64 a0_3, .int .u64 a0_4, .int .u64 a0_5, .string a0_6, .bool a0_7, .bool a0_8], .int .i64 a1, .int .i64 a2] w fun e w' => e = .returned (.bool true) ∧ Below w.heap.size w w' := by
  obtain ⟨h0, rfl, hh0⟩ := u64_nat w0_3
  obtain ⟨l0, rfl, hl0⟩ := u64_nat w0_4
  obtain ⟨hm0, hm1⟩ := u64_bdI w0_5
  have HN : Hid (KyN (a0_1, a0_2, h0, l0)) := Lib.hid ⟨hh0, hl0⟩
  have hb1 : -9223372036854775808 ≤ a1 ∧ a1 ≤ 9223372036854775807 := by simpa [Lit.wf, IntKind.min, IntKind.max, IntKind.bits, IntKind.signed] using w1
  have hb2 : -9223372036854775808 ≤ a2 ∧ a2 ≤ 9223372036854775807 := by simpa [Lit.wf, IntKind.min, IntKind.max, IntKind.bits, IntKind.signed] using w2
  obtain ⟨y1, hy1⟩ : ∃ y : Int, (if a1 < 0 then -(a1 + 1) else a1) = y := ⟨_, rfl⟩
  obtain ⟨y2, hy2⟩ : ∃ y : Int, (if a2 < 0 then -(a2 + 1) else a2) = y := ⟨_, rfl⟩
  have hc1 : (a1 < 0 ∧ IntKind.i64.wrap (a1 + 1) = a1 + 1 ∧ wrap64 (-(a1 + 1)) = y1 ∧ IntKind.i64.wrap (-(a1 + 1)) = y1) ∨ (¬ a1 < 0 ∧ a1 = y1 ∧ True ∧ True) := by
    split at hy1
    · left; refine ⟨by assumption, ?_, ?_, ?_⟩
      · rw [IntKind.wrap_i64]; omega
      · unfold wrap64; omega
      · rw [IntKind.wrap_i64]; omega
    · right; exact ⟨by assumption, hy1, trivial, trivial⟩
  have hc2 : (a2 < 0 ∧ IntKind.i64.wrap (a2 + 1) = a2 + 1 ∧ wrap64 (-(a2 + 1)) = y2 ∧ IntKind.i64.wrap (-(a2 + 1)) = y2) ∨ (¬ a2 < 0 ∧ a2 = y2 ∧ True ∧ True) := by
    split at hy2
    · left; refine ⟨by assumption, ?_, ?_, ?_⟩
      · rw [IntKind.wrap_i64]; omega
      · unfold wrap64; omega
      · rw [IntKind.wrap_i64]; omega
    · right; exact ⟨by assumption, hy2, trivial, trivial⟩
  have hy10 : 0 ≤ y1 := by split at hy1 <;> omega
  have hy20 : 0 ≤ y2 := by split at hy2 <;> omega
  obtain ⟨me, hme⟩ : ∃ m : Nat, Int.tmod y1 50 = (m : Int) := ⟨(y1 % 50).toNat, by rw [Int.tmod_eq_emod_of_nonneg hy10]; omega⟩
  obtain ⟨mo, hmo⟩ : ∃ m : Nat, Int.tmod y2 10 = (m : Int) := ⟨(y2 % 10).toNat, by rw [Int.tmod_eq_emod_of_nonneg hy20]; omega⟩
  have hme1 : me < 50 := by rw [Int.tmod_eq_emod_of_nonneg hy10] at hme; omega
  have HC := Lib.hid (And.intro hc1 hc2)
  have HMm := Lib.hid (And.intro (And.intro hme hme1) hmo)
  have HMb := Lib.hid (And.intro hm0 hm1)
  clear hc1 hc2 hy1 hy2 hy10 hy20 hme hmo hme1 hb1 hb2 w1 w2 w0_0 w0_1 w0_3 w0_4 w0_5 w0_6 hh0 hl0
  obtain ⟨k, hkk⟩ : ∃ k : KyI, (a0_1, a0_2, h0, l0) = k := ⟨_, rfl⟩
  obtain ⟨b, hb⟩ : ∃ b, rgtK (a0_1, a0_2, h0, l0) = b := ⟨_, rfl⟩
  have HR := Lib.hid hb
  have HRg := Lib.hid (fun W => rightN (a0_1, a0_2, h0, l0) HN.out W)
  rw [hb] at HRg
  obtain ⟨xb, hxb⟩ : ∃ xb, w.heap.size = xb := ⟨_, rfl⟩
  obtain ⟨W0, hW0⟩ : ∃ W, w.alloc (.cells #[.int .i64 a0_0, .int .i64 a0_1, .bool a0_2, .int .u64 (h0 : Int), .int .u64 (l0 : Int), .int .u64 a0_5, .string a0_6, .bool a0_7, .bool a0_8] 33) = W := ⟨_, rfl⟩
  have HX0 : Hid (Blk W0 xb 33 #[.int .i64 a0_0, .int .i64 a0_1, .bool a0_2, .int .u64 (h0 : Int), .int .u64 (l0 : Int), .int .u64 a0_5, .string a0_6, .bool a0_7, .bool a0_8]) := Lib.hid (hW0 ▸ hxb ▸ Blk.new w _ _)
  have HT0 : Hid (Tch w W0 []) := Lib.hid (hW0 ▸ (Tch.refl w []).alloc _)
  have HWs := Lib.hid (And.intro hW0 hxb)
  have HCx : Hid (∀ W, Tch W0 W [] → W.cell? ⟨xb, 1, none⟩ = some (.int .i64 a0_1) ∧ W.cell? ⟨xb, 2, none⟩ = some (.bool a0_2) ∧ W.cell? ⟨xb, 3, none⟩ = some (.int .u64 (h0 : Int)) ∧ W.cell? ⟨xb, 4, none⟩ = some (.int .u64 (l0 : Int)) ∧ W.cell? ⟨xb, 5, none⟩ = some (.int .u64 a0_5)) := Lib.hid (fun W hT => by
    have h := hT.blk HX0.out (by simp)
    exact ⟨(h.cell 1).trans rfl, (h.cell 2).trans rfl, (h.cell 3).trans rfl, (h.cell 4).trans rfl, (h.cell 5).trans rfl⟩)
  clear hW0 hxb hb hkk k
  go_enter Try.func6, Try.ntmps6
  go_wp2_with (first | (rw [HWs.out.1, HWs.out.2]))
  refine Calls.mono (awake_yes W0) ?_
  rintro e X1 ⟨rfl, hT1⟩
  have HT1 := Lib.hid hT1
  clear hT1
  go_wp2_with fail
  refine Calls.mono (newN X1) ?_
  rintro e X2 ⟨t, S2, rfl, hP2, hT2, hF2⟩
  have HP2 := Lib.hid hP2
  have HT2 : Hid (Tch W0 X2 []) := Lib.hid (HT1.out.trans hT2)
  have HF2 : Hid (∀ s ∈ S2, W0.heap.size ≤ s) := Lib.hid (fun s hs => Nat.le_trans HT1.out.size (hF2 s hs))
  clear hP2 hT2 hF2
  obtain ⟨q1, q2, q3, q4, q5⟩ := HCx.out X2 HT2.out
  go_wp2_with fail
  refine Calls.mono (HRg.out X2) ?_
  rintro e X3 ⟨rfl, hT3⟩
  have HP3 := Lib.hid (HP2.out.tch hT3 (by simp))
  have HT3 : Hid (Tch W0 X3 []) := Lib.hid (HT2.out.trans hT3)
  clear hT3 q1 q2 q3 q4 q5 HP2
  obtain ⟨q1, q2, q3, q4, q5⟩ := HCx.out X3 HT3.out
  obtain ⟨bm, hbm⟩ : ∃ bm, macV a0_5 = bm := ⟨_, rfl⟩
  have HRm := Lib.hid hbm
  clear hbm
  go_upto_region 6 with fail
  go_cut [49] (fun c wx => c = .bool (!(b && bm)) ∧ wx = X3)
  case first =>
    have hbm := HRm.out
    cases b with
    | false =>
      go_wp2_with fail
      go_meet
      exact ⟨rfl, rfl⟩
    | true =>
      cases bm with
      | true =>
        have n1 : decide (a0_5 < 1) = false := by unfold macV at hbm; simp at hbm ⊢; omega
        have n2 : decide (281474976710656 ≤ a0_5) = false := by unfold macV at hbm; simp at hbm ⊢; omega
        clear hbm
        go_wp2_with fail
        go_meet
        exact ⟨rfl, rfl⟩
      | false =>
        have hmm : a0_5 < 1 ∨ (1 ≤ a0_5 ∧ 281474976710656 ≤ a0_5) := by unfold macV at hbm; simp at hbm; omega
        clear hbm
        rcases hmm with hmm | ⟨hm1, hm2⟩
        · have n1 : decide (a0_5 < 1) = true := by simpa using hmm
          go_wp2_with fail
          go_meet
          exact ⟨rfl, rfl⟩
        · have n1 : decide (a0_5 < 1) = false := by simp; omega
          have n2 : decide (281474976710656 ≤ a0_5) = true := by simpa using hm2
          go_wp2_with fail
          go_meet
          exact ⟨rfl, rfl⟩
  case rest =>
  obtain ⟨rfl, rfl⟩ := hcut
  clear q1 q2 q3 q4 q5
  obtain ⟨q1, q2, q3, q4, q5⟩ := HCx.out wc HT3.out
  obtain ⟨X3, hX3⟩ : ∃ X, wc = X := ⟨_, rfl⟩
  rw [hX3] at HP3 HT3 q1 q2 q3 q4 q5 ⊢
  clear hX3
  obtain ⟨gd, hgd⟩ : ∃ gd, (b && bm) = gd := ⟨_, rfl⟩
  rw [hgd]
  cases gd with
  | true =>
    as_aux_lemma =>
      rw [Bool.and_eq_true] at hgd
      obtain ⟨rfl, rfl⟩ := hgd
      have HF3 := HF2
      go_wp2_with fail
      refine Calls.mono (sendN HP3.out (a0_1, a0_2, h0, l0) HN.out ⟨#[97]⟩) ?_
      rintro e X4 h4
      rw [send_nil HR.out] at h4
      obtain ⟨A4, c4, S4, rfl, hO4, hP4, hG4⟩ := h4
      have HP4 : Hid (NgP X4 t S4 ([((a0_1, a0_2, h0, l0), ⟨1, 0, 0, 1, [⟨#[97]⟩]⟩)])) := Lib.hid hP4
      have HT4 : Hid (Tch W0 X4 []) := Lib.hid (HT3.out.trans_fre hG4.tch (fun s hs => .inr (HF3.out s hs)))
      have HF4 : Hid (∀ s ∈ S4, W0.heap.size ≤ s) := Lib.hid (fun s hs => by
        rcases hG4.fre s hs with h | h
        · exact HF3.out s h
        · have := HT3.out.size; omega)
      clear hO4 hP4 hG4
      clear q1 q2 q3 q4 q5
      obtain ⟨q1, q2, q3, q4, q5⟩ := HCx.out X4 HT4.out
      go_wp2_with fail
      refine Calls.mono (tellN HP4.out (a0_1, a0_2, h0, l0) HN.out a0_5 true true) ?_
      rintro e X5 h4
      rw [tell_new HR.out HRm.out] at h4
      obtain ⟨A5, c5, S5, rfl, hO4, hP4, hG4⟩ := h4
      have HP5 : Hid (NgP X5 t S5 (agA (a0_1, a0_2, h0, l0) a0_5 1)) := Lib.hid hP4
      have HT5 : Hid (Tch W0 X5 []) := Lib.hid (HT4.out.trans_fre hG4.tch (fun s hs => .inr (HF4.out s hs)))
      have HF5 : Hid (∀ s ∈ S5, W0.heap.size ≤ s) := Lib.hid (fun s hs => by
        rcases hG4.fre s hs with h | h
        · exact HF4.out s h
        · have := HT4.out.size; omega)
      clear hO4 hP4 hG4
      clear q1 q2 q3 q4 q5
      go_wp2_with fail
      go_loopw [12] (fun tv wr => ∃ (i : Nat) (S : List Nat), tv = .int .i64 (i : Int) ∧ 1 ≤ i ∧ i ≤ 31 ∧ Hid (NgP wr t S (agA (a0_1, a0_2, h0, l0) a0_5 i)) ∧ Hid (Tch W0 wr []) ∧ Hid (∀ s ∈ S, W0.heap.size ≤ s)) (fun tv _ => 31 - (intOf tv).toNat)
      case atStart => exact ⟨1, S5, rfl, by decide, by decide, HP5, HT5, HF5⟩
      case round =>
        obtain ⟨i, S, rfl, hi1, hi2, hP, hT, hF⟩ := hrel
        by_cases hin : i ≤ 30
        · as_aux_lemma =>
            have iI : decide ((i : Int) ≤ 30) = true := by simp; omega
            have i1 : IntKind.i64.wrap ((i : Int) + 1) = (i : Int) + 1 := by rw [IntKind.wrap_i64]; omega
            have HTk := Lib.hid (agA_tik (a0_1, a0_2, h0, l0) a0_5 hi1 hin)
            have HI := Lib.hid (And.intro i1 (And.intro hi1 hin))
            obtain ⟨q1, q2, q3, q4, q5⟩ := HCx.out wr hT.out
            clear hi1 hi2
            go_wp2_with fail
            refine Calls.mono (stateN hP.out (a0_1, a0_2, h0, l0)) ?_
            rintro e Y1 ⟨rfl, hT1⟩
            rw [HTk.out.2.2]
            have HPa := Lib.hid (hP.out.tch hT1 (by simp))
            have HTa : Hid (Tch W0 Y1 []) := Lib.hid (hT.out.trans hT1)
            clear hT1 q1 q2 q3 q4 q5
            go_wp2_with fail
            refine Calls.mono (tickN HPa.out) ?_
            rintro e Y2 h4
            rw [HTk.out.1, HTk.out.2.1] at h4
            obtain ⟨A4, c4, S4, rfl, hO4, hP4, hG4⟩ := h4
            have HP4' : Hid (NgP Y2 t S4 (agA (a0_1, a0_2, h0, l0) a0_5 (i + 1))) := Lib.hid hP4
            have HT4' : Hid (Tch W0 Y2 []) := Lib.hid (HTa.out.trans_fre hG4.tch (fun s hs => .inr (hF.out s hs)))
            have HF4' : Hid (∀ s ∈ S4, W0.heap.size ≤ s) := Lib.hid (fun s hs => by
              rcases hG4.fre s hs with h | h
              · exact hF.out s h
              · have := HTa.out.size; omega)
            clear hO4 hP4 hG4
            go_wp2
            go_roundw
            case rel => exact ⟨i + 1, S4, by go_num, by have := HI.out.2.1; omega, by have := HI.out.2.2; omega, HP4', HT4', HF4'⟩
            case measure => have := HI.out.2.2; simp [intOf]; omega
        · as_aux_lemma =>
            have iI : decide ((i : Int) ≤ 30) = false := by simp; omega
            have iK : ¬ (i : Int) ≤ 30 := by omega
            have HP6 : Hid (NgP wr t S [((a0_1, a0_2, h0, l0), stlE a0_5)]) := Lib.hid (by have h := hP.out; rw [show i = 31 by omega] at h; exact h)
            have HT6 := hT
            have HF6 := hF
            clear hi1 hi2 hin
            go_upto_if 105 with fail
            go_cut [1] (fun s1 wx => s1 = .int .i64 y1 ∧ wx = wr)
            case first =>
              rcases HC.out.1 with ⟨b1, b2, b3, b4⟩ | ⟨b1, rfl, b3, b4⟩
              all_goals
                go_wp2_with fail
                go_meet
                exact ⟨rfl, rfl⟩
            case rest =>
              obtain ⟨rfl, rfl⟩ := hcut
              have r1 : Int.tmod y1 50 = (me : Int) := HMm.out.1.1
              go_wp2_with fail
              go_loopw [15] (fun tv wr => ∃ (i : Nat) (S : List Nat), tv = .int .i64 (i : Int) ∧ i ≤ me ∧ Hid (NgP wr t S [((a0_1, a0_2, h0, l0), stlE a0_5)]) ∧ Hid (Tch W0 wr []) ∧ Hid (∀ s ∈ S, W0.heap.size ≤ s)) (fun tv _ => me - (intOf tv).toNat)
              case atStart => exact ⟨0, S, rfl, Nat.zero_le _, HP6, HT6, HF6⟩
              case round =>
                obtain ⟨i, S6, rfl, hi1, hP, hT, hF⟩ := hrel
                by_cases hin : i < me
                · as_aux_lemma =>
                    have iI : decide ((i : Int) < (me : Int)) = true := by simp; omega
                    have iJ : (i : Int) < (me : Int) := by omega
                    have hme : me < 50 := HMm.out.1.2
                    have i1 : IntKind.i64.wrap ((i : Int) + 1) = (i : Int) + 1 := by rw [IntKind.wrap_i64]; omega
                    have HTk := Lib.hid (agB_tik (a0_1, a0_2, h0, l0) a0_5)
                    have HI := Lib.hid (And.intro i1 hin)
                    obtain ⟨q1, q2, q3, q4, q5⟩ := HCx.out wr hT.out
                    clear hi1 hme
                    go_wp2_with fail
                    refine Calls.mono (stateN hP.out (a0_1, a0_2, h0, l0)) ?_
                    rintro e Y1 ⟨rfl, hT1⟩
                    rw [HTk.out.2.2]
                    have HPa := Lib.hid (hP.out.tch hT1 (by simp))
                    have HTa : Hid (Tch W0 Y1 []) := Lib.hid (hT.out.trans hT1)
                    clear hT1 q1 q2 q3 q4 q5
                    go_wp2_with fail
                    refine Calls.mono (tickN HPa.out) ?_
                    rintro e Y2 h4
                    rw [HTk.out.1, HTk.out.2.1] at h4
                    obtain ⟨A4, c4, S4, rfl, hO4, hP4, hG4⟩ := h4
                    have HP4' : Hid (NgP Y2 t S4 [((a0_1, a0_2, h0, l0), stlE a0_5)]) := Lib.hid hP4
                    have HT4' : Hid (Tch W0 Y2 []) := Lib.hid (HTa.out.trans_fre hG4.tch (fun s hs => .inr (hF.out s hs)))
                    have HF4' : Hid (∀ s ∈ S4, W0.heap.size ≤ s) := Lib.hid (fun s hs => by
                      rcases hG4.fre s hs with h | h
                      · exact hF.out s h
                      · have := HTa.out.size; omega)
                    clear hO4 hP4 hG4
                    go_wp2
                    go_roundw
                    case rel => exact ⟨i + 1, S4, by go_num, HI.out.2, HP4', HT4', HF4'⟩
                    case measure => have := HI.out.2; simp [intOf]; omega
                · as_aux_lemma =>
                    have iI : decide ((i : Int) < (me : Int)) = false := by simp; omega
                    have iJ : ¬ (i : Int) < (me : Int) := by omega
                    have HP7 := hP
                    have HT7 := hT
                    have HF7 := hF
                    have hS6 : ∃ S7, S6 = S7 := ⟨_, rfl⟩
                    obtain ⟨S7, hS7⟩ := hS6
                    rw [hS7] at HP7 HF7
                    obtain ⟨q1, q2, q3, q4, q5⟩ := HCx.out wr hT.out
                    clear hi1 hin hS7
                    go_wp2_with fail
                    refine Calls.mono (sendN HP7.out (a0_1, a0_2, h0, l0) HN.out ⟨#[98]⟩) ?_
                    rintro e X8 h4
                    rw [send_sgl HR.out] at h4
                    obtain ⟨A8, c8, S8, rfl, hO4, hP4, hG4⟩ := h4
                    have HP8 : Hid (NgP X8 t S8 (agC (a0_1, a0_2, h0, l0) a0_5 1)) := Lib.hid hP4
                    have HT8 : Hid (Tch W0 X8 []) := Lib.hid (HT7.out.trans_fre hG4.tch (fun s hs => .inr (HF7.out s hs)))
                    have HF8 : Hid (∀ s ∈ S8, W0.heap.size ≤ s) := Lib.hid (fun s hs => by
                      rcases hG4.fre s hs with h | h
                      · exact HF7.out s h
                      · have := HT7.out.size; omega)
                    clear hO4 hP4 hG4
                    clear q1 q2 q3 q4 q5
                    go_upto_if 139 with fail
                    go_cut [2] (fun s2 wx => s2 = .int .i64 y2 ∧ wx = X8)
                    case first =>
                      rcases HC.out.2 with ⟨b5, b6, b7, b8⟩ | ⟨b5, rfl, b7, b8⟩
                      all_goals
                        go_wp2_with fail
                        go_meet
                        exact ⟨rfl, rfl⟩
                    case rest =>
                      obtain ⟨rfl, rfl⟩ := hcut
                      as_aux_lemma =>
                        have r2 : Int.tmod y2 10 = (mo : Int) := HMm.out.2
                        go_wp2_with fail
                        go_loopw [18] (fun tv wr => ∃ (i : Nat) (S : List Nat), tv = .int .i64 (i : Int) ∧ 1 ≤ i ∧ i ≤ 9 ∧ Hid (NgP wr t S (agC (a0_1, a0_2, h0, l0) a0_5 i)) ∧ Hid (Tch W0 wr []) ∧ Hid (∀ s ∈ S, W0.heap.size ≤ s)) (fun tv _ => 9 - (intOf tv).toNat)
                        case atStart => exact ⟨1, S8, rfl, by decide, by decide, HP8, HT8, HF8⟩
                        case round =>
                          obtain ⟨i, S9, rfl, hi1, hi2, hP, hT, hF⟩ := hrel
                          by_cases hin : i ≤ 8
                          · as_aux_lemma =>
                              have iI : decide ((i : Int) ≤ 8) = true := by simp; omega
                              have i1 : IntKind.i64.wrap ((i : Int) + 1) = (i : Int) + 1 := by rw [IntKind.wrap_i64]; omega
                              have HTk := Lib.hid (agC_tik (a0_1, a0_2, h0, l0) a0_5 hi1 hin)
                              have HI := Lib.hid (And.intro i1 (And.intro hi1 hin))
                              clear hi1 hi2 hin
                              go_wp2_with fail
                              refine Calls.mono (tickN hP.out) ?_
                              rintro e Y1 h4
                              rw [HTk.out.1, HTk.out.2.1] at h4
                              obtain ⟨A4, n4, c4, S4, rfl, hn4, hO4, hP4, hG4⟩ := h4.open
                              obtain ⟨ab, hab⟩ : ∃ ab, decide (n4 = 1) = ab := ⟨_, rfl⟩
                              obtain ⟨sv, hsv⟩ : ∃ sv, agS i = sv := ⟨_, rfl⟩
                              have HGr : Hid ((i < 5 ∧ n4 = 0 ∧ ab = false ∧ sv = 4) ∨ ((5 ≤ i ∧ i < 8) ∧ n4 = 1 ∧ ab = true ∧ sv = 5) ∨ (i = 8 ∧ n4 = 0 ∧ ab = false ∧ sv = 0)) := Lib.hid (by
                                rw [← hab, ← hsv, ← hn4]
                                have := HI.out.2.2
                                unfold agQ agS
                                by_cases h5 : i < 5
                                · left; simp [h5]
                                · right
                                  by_cases h8 : i < 8
                                  · left; simp [h5, h8]; omega
                                  · right; simp [h5, h8]; omega)
                              have HRo : Hid (n4 = 1 → Y1.ownsRow wr.heap.size 41 7 (.slice A4 1 c4) 1 ([acI (a0_1, a0_2, h0, l0) 2 a0_5 nilS8].flatMap acC)) := Lib.hid (fun h1 => by
                                have hq : agQ (a0_1, a0_2, h0, l0) a0_5 i = [acI (a0_1, a0_2, h0, l0) 2 a0_5 nilS8] := by
                                  rw [h1] at hn4
                                  unfold agQ at hn4 ⊢
                                  simp only at hn4 ⊢
                                  split at hn4
                                  · simp at hn4
                                  · split at hn4
                                    · rename_i h5 h8; rw [if_neg h5, if_pos h8]
                                    · simp at hn4
                                rw [h1] at hO4
                                simp only [hq] at hO4
                                exact hO4)
                              have HPb : Hid (NgP Y1 t S4 (agC (a0_1, a0_2, h0, l0) a0_5 (i + 1))) := Lib.hid hP4
                              have HTb : Hid (Tch W0 Y1 []) := Lib.hid (hT.out.trans_fre hG4.tch (fun s hs => .inr (hF.out s hs)))
                              have HFb : Hid (∀ s ∈ S4, W0.heap.size ≤ s) := Lib.hid (fun s hs => by
                                rcases hG4.fre s hs with h | h
                                · exact hF.out s h
                                · have := hT.out.size; omega)
                              have HSi : Hid ((staT (agC (a0_1, a0_2, h0, l0) a0_5 (i + 1)) (a0_1, a0_2, h0, l0)).1 = sv) := Lib.hid (hsv ▸ HTk.out.2.2)
                              clear hO4 hP4 hG4 hn4 hsv hab
                              obtain ⟨q1, q2, q3, q4, q5⟩ := HCx.out Y1 HTb.out
                              go_wp2_with fail
                              refine Calls.mono (stateN HPb.out (a0_1, a0_2, h0, l0)) ?_
                              rintro e Y2 ⟨rfl, hT2⟩
                              rw [HSi.out]
                              obtain ⟨mz, hmz⟩ : ∃ mz, (staT (agC (a0_1, a0_2, h0, l0) a0_5 (i + 1)) (a0_1, a0_2, h0, l0)).2 = mz := ⟨_, rfl⟩
                              rw [hmz]
                              have HPc := Lib.hid (HPb.out.tch hT2 (by simp))
                              have HTc : Hid (Tch W0 Y2 []) := Lib.hid (HTb.out.trans hT2)
                              have HRo2 : Hid (n4 = 1 → Y2.ownsRow wr.heap.size 41 7 (.slice A4 1 c4) 1 ([acI (a0_1, a0_2, h0, l0) 2 a0_5 nilS8].flatMap acC)) := Lib.hid (fun h1 => own_tch (HRo.out h1) hT2 (by simp))
                              clear hT2 hmz q1 q2 q3 q4 q5
                              go_upto_region 34 with fail
                              go_cut [22] from 145 to 241 (fun c wx => c = .bool ab ∧ Hid (Tch Y2 wx []))
                              case first =>
                                as_aux_lemma =>
                                  obtain ⟨q1, q2, q3, q4, q5⟩ := HCx.out Y2 HTc.out
                                  rcases HGr.out with ⟨h1, rfl, rfl, rfl⟩ | ⟨h1, rfl, rfl, rfl⟩ | ⟨h1, rfl, rfl, rfl⟩
                                  · clear h1
                                    go_quiet (fail)
                                    go_wp2
                                    go_meet
                                    exact ⟨rfl, Lib.hid ((Tch.refl Y2 []).drewN nq)⟩
                                  · have hRo := HRo2.out rfl
                                    obtain ⟨g, rfl⟩ := slice_some hRo (by decide)
                                    have p0 := own_cellN hRo (j := 0) rfl
                                    have p1 := own_cellN hRo (j := 1) rfl
                                    have p2 := own_cellN hRo (j := 2) rfl
                                    have p3 := own_cellN hRo (j := 3) rfl
                                    have p4 := own_cellN hRo (j := 4) rfl
                                    have p5 := own_cellN hRo (j := 5) rfl
                                    have p6 := own_cellN hRo (j := 6) rfl
                                    have hq : ∀ W, (binOp .eql 41 (.agg #[.int .i64 2, .int .i64 a0_1, .bool a0_2, .int .u64 (h0 : Int), .int .u64 (l0 : Int), .int .u64 a0_5, .string ⟨#[]⟩]) (.agg #[.int .i64 2, .int .i64 a0_1, .bool a0_2, .int .u64 (h0 : Int), .int .u64 (l0 : Int), .int .u64 a0_5, .string ⟨#[]⟩])).run Try.prog W = .ok (.bool true) W := fun W => eqA_eql 41 _ _ (fun W => eqAc (acI (a0_1, a0_2, h0, l0) 2 a0_5 nilS8) W) W
                                    simp only [acI, nilS8] at p0 p1 p2 p3 p4 p5 p6
                                    clear hRo h1
                                    go_quiet (fail)
                                    go_wp2
                                    go_meet
                                    exact ⟨rfl, Lib.hid ((Tch.refl Y2 []).drewN nq)⟩
                                  · clear h1
                                    go_quiet (fail)
                                    go_wp2
                                    go_meet
                                    exact ⟨rfl, Lib.hid ((Tch.refl Y2 []).drewN nq)⟩
                              case rest =>
                              obtain ⟨rfl, hTx⟩ := hcut
                              as_aux_lemma =>
                                have HPd := Lib.hid (HPc.out.tch hTx.out (by simp))
                                have HTd : Hid (Tch W0 wc []) := Lib.hid (HTc.out.trans hTx.out)
                                obtain ⟨Y3, hY3⟩ : ∃ Y, wc = Y := ⟨_, rfl⟩
                                rw [hY3] at HPd HTd ⊢
                                clear hTx hY3
                                go_upto_region 35 with fail
                                go_cut [215] from 176 to 241 (fun c wx => c = .bool false ∧ wx = Y3)
                                case first =>
                                  as_aux_lemma =>
                                    rcases HGr.out with ⟨h1, rfl, rfl, rfl⟩ | ⟨h1, rfl, rfl, rfl⟩ | ⟨h1, rfl, rfl, rfl⟩
                                    · have P5 : (i : Int) < 5 := by omega
                                      have d5 : decide ((i : Int) < 5) = true := by simp; omega
                                      have P8 : (i : Int) < 8 := by omega
                                      have d8 : decide ((i : Int) < 8) = true := by simp; omega
                                      have e8 : ((i : Int) == 8) = false := by simp; omega
                                      have g5 : decide ((5 : Int) ≤ (i : Int)) = false := by simp; omega
                                      clear h1
                                      go_wp2_with fail
                                      go_meet
                                      exact ⟨rfl, rfl⟩
                                    · have P5 : ¬ (i : Int) < 5 := by omega
                                      have d5 : decide ((i : Int) < 5) = false := by simp; omega
                                      have P8 : (i : Int) < 8 := by omega
                                      have d8 : decide ((i : Int) < 8) = true := by simp; omega
                                      have e8 : ((i : Int) == 8) = false := by simp; omega
                                      have g5 : decide ((5 : Int) ≤ (i : Int)) = true := by simp; omega
                                      clear h1
                                      go_wp2_with fail
                                      go_meet
                                      exact ⟨rfl, rfl⟩
                                    · have P5 : ¬ (i : Int) < 5 := by omega
                                      have d5 : decide ((i : Int) < 5) = false := by simp; omega
                                      have P8 : ¬ (i : Int) < 8 := by omega
                                      have d8 : decide ((i : Int) < 8) = false := by simp; omega
                                      have e8 : ((i : Int) == 8) = true := by simp; omega
                                      have g5 : decide ((5 : Int) ≤ (i : Int)) = true := by simp; omega
                                      clear h1
                                      go_wp2_with fail
                                      go_meet
                                      exact ⟨rfl, rfl⟩
                                case rest =>
                                obtain ⟨rfl, rfl⟩ := hcut
                                as_aux_lemma =>
                                  by_cases hmo : i = mo ∧ i < 8
                                  · have em : ((i : Int) == (mo : Int)) = true := by simp; omega
                                    have P8 : (i : Int) < 8 := by omega
                                    have d8 : decide ((i : Int) < 8) = true := by simp; omega
                                    have HI8 := Lib.hid hmo.2
                                    obtain ⟨q1, q2, q3, q4, q5⟩ := HCx.out wc HTd.out
                                    clear hmo
                                    go_wp2_with fail
                                    refine Calls.mono (tellN HPd.out (a0_1, a0_2, h0, l0) HN.out a0_5 true false) ?_
                                    rintro e Y4 h4
                                    rw [agC_tell HR.out HRm.out HI.out.2.1 HI8.out] at h4
                                    obtain ⟨A6, c6, S6, rfl, hO4, hP4, hG4⟩ := h4
                                    have HPe : Hid (NgP Y4 t S6 [((a0_1, a0_2, h0, l0), rchE a0_5)]) := Lib.hid hP4
                                    have HTe : Hid (Tch W0 Y4 []) := Lib.hid (HTd.out.trans_fre hG4.tch (fun s hs => .inr (HFb.out s hs)))
                                    clear hO4 hP4 hG4 q1 q2 q3 q4 q5
                                    obtain ⟨q1, q2, q3, q4, q5⟩ := HCx.out Y4 HTe.out
                                    go_wp2_with fail
                                    refine Calls.mono (stateN HPe.out (a0_1, a0_2, h0, l0)) ?_
                                    rintro e Y5 ⟨rfl, hT5⟩
                                    rw [sta_rch]
                                    have HTf : Hid (Tch W0 Y5 []) := Lib.hid (HTe.out.trans hT5)
                                    clear hT5 q1 q2 q3 q4 q5
                                    go_wp2
                                    go_ret
                                    exact ⟨rfl, (HT0.out.trans HTf.out).below (Nat.le_refl _) (by simp)⟩
                                  · have hem : ((i : Int) == (mo : Int)) = false ∨ (((i : Int) == (mo : Int)) = true ∧ ¬ (i : Int) < 8 ∧ decide ((i : Int) < 8) = false) := by
                                      by_cases h : i = mo
                                      · right; refine ⟨by simp; omega, by omega, by simp; omega⟩
                                      · left; simp; omega
                                    clear hmo
                                    rcases hem with em | ⟨em, P8, d8⟩
                                    all_goals
                                      go_wp2
                                      go_roundw
                                      case rel => exact ⟨i + 1, S4, by go_num, by have := HI.out.2.1; omega, by have := HI.out.2.2; omega, HPd, HTd, HFb⟩
                                      case measure => have := HI.out.2.2; simp [intOf]; omega
                          · as_aux_lemma =>
                              have iI : decide ((i : Int) ≤ 8) = false := by simp; omega
                              have iK : ¬ (i : Int) ≤ 8 := by omega
                              have HPz : Hid (NgP wr t S9 []) := Lib.hid (by have h := hP.out; rw [show i = 9 by omega] at h; exact h)
                              clear hi1 hi2 hin
                              go_wp2_with fail
                              refine Calls.mono (knownN HPz.out) ?_
                              rintro e Y6 ⟨A6, c6, rfl, hO6, hT6⟩
                              have HTz : Hid (Tch W0 Y6 []) := Lib.hid (hT.out.trans hT6)
                              clear hO6 hT6
                              go_wp2
                              go_ret
                              exact ⟨rfl, (HT0.out.trans HTz.out).below (Nat.le_refl _) (by simp)⟩
  | false =>
    as_aux_lemma =>
      have HBd : Hid (telT [] (a0_1, a0_2, h0, l0) a0_5 true true = ([], 1, [])) := Lib.hid (tell_bad (by rw [HR.out, HRm.out]; exact hgd))
      clear hgd
      go_wp2_with fail
      refine Calls.mono (tellN HP3.out (a0_1, a0_2, h0, l0) HN.out a0_5 true true) ?_
      rintro e X4 h4
      rw [HBd.out] at h4
      obtain ⟨A4, c4, S4, rfl, hO4, hP4, hG4⟩ := h4
      have HP4 : Hid (NgP X4 t S4 []) := Lib.hid hP4
      have HT4 : Hid (Tch W0 X4 []) := Lib.hid (HT3.out.trans_fre hG4.tch (fun s hs => .inr (HF2.out s hs)))
      clear hO4 hP4 hG4 q1 q2 q3 q4 q5
      go_wp2_with fail
      refine Calls.mono (knownN HP4.out) ?_
      rintro e X5 ⟨A5, c5, rfl, hO5, hT5⟩
      have HT5 : Hid (Tch W0 X5 []) := Lib.hid (HT4.out.trans hT5)
      clear hO5 hT5
      go_wp2
      go_ret
      exact ⟨rfl, (HT0.out.trans HT5.out).below (Nat.le_refl _) (by simp)⟩
set_option maxRecDepth 100000 in
theorem contract (H : Type) (enc : TypeId × Value → H) (W : World) (base : Nat) (args : Array Value) (ds gs : List (DataW H)) (before : List MemPlace)
    (hval0 : ∀ (j : Nat) t v, Try.f6.params[j]? = some t → args[j]? = some v → Value.okWide Try.prog W .any base t v)
    (hW : DataW.Whole enc Try.prog Try.f6.params.toList Rows.neighAgesSpec.vars false W args.toList ds gs before)
    (hsz0 : (DataW.weightsEach Try.prog (Try.f6.params.toList ++ Rows.neighAgesSpec.plain.varTypes Try.prog) (ds ++ gs)).all (· ≤ reachBytes) = true) :
    Calls Try.prog 6 args W fun e W' => ∃ v, e = .returned v ∧ Rows.neighAgesSpec.post enc Try.prog Try.f6 false true false false W args v W' := by
  have hsz := hsz0
  clear hsz0
  have hval := hval0
  clear hval0
  have hW' := hW
  obtain ⟨p, q, hA0, hV, rfl, hfz, hnd⟩ := hW
  have hA : DataW.TrodAll enc Try.prog W 0 (fun _ => true) true Try.f6.params.toList args.toList ds p := hA0
  rw [Try.params6] at hA hval hsz
  obtain ⟨v0, vs0, d0, ds0, p0, q0, hargs, rfl, rfl, h0, r0⟩ := trodAll_cons hA
  obtain ⟨v1, vs1, d1, ds1, p1, q1, rfl, rfl, rfl, h1, r1⟩ := trodAll_cons r0
  obtain ⟨v2, vs2, d2, ds2, p2, q2, rfl, rfl, rfl, h2, r2⟩ := trodAll_cons r1
  obtain ⟨rfl, rfl, rfl⟩ := trodAll_nil r2
  obtain rfl : args = #[v0, v1, v2] := by cases args; simp_all
  obtain ⟨rfl, rfl⟩ := trodVars_none hV
  have k0 := h0
  have lt0 : ∀ x ∈ p0, x.block < W.heap.size := by obtain ⟨m, hm⟩ := k0; exact DataW.trod_lt m _ _ _ hm
  obtain ⟨a0_0, a0_1, a0_2, a0_3, a0_4, a0_5, a0_6, a0_7, a0_8, rfl, w0_0, w0_1, w0_3, w0_4, w0_5, w0_6, ep0⟩ := open_stp (hval 0 33 v0 rfl rfl) h0
  obtain ⟨a1, rfl, rfl, rfl, w1⟩ := open_int Try.underlying3 (hval 1 3 v1 rfl rfl) h1
  obtain ⟨a2, rfl, rfl, rfl, w2⟩ := open_int Try.underlying3 (hval 2 3 v2 rfl rfl) h2
  clear hA0
  refine (walk W a0_0 w0_0 a0_1 w0_1 a0_2 a0_3 w0_3 a0_4 w0_4 a0_5 w0_5 a0_6 w0_6 a0_7 a0_8 a1 w1 a2 w2).mono fun e W' ⟨he, bel⟩ => ?_
  subst he
  exact ⟨_, rfl, _, _, _, [], _, [], hW', trodAll_mk1 (shut_bool Try.underlying4 _), (trodAll_cons_mk (Below.trod laidOut (by kernel_rfl) (of_decide_eq_true (by kernel_rfl)) k0 bel lt0) (trodAll_cons_mk (shut_int Try.underlying3 w1) (trodAll_cons_mk (shut_int Try.underlying3 w2) trodAll_mk0))), rfl, bel.frame _, fun h => by cases h⟩

set_option maxRecDepth 100000 in
theorem lifted (os : Os) (started : os.Started) (H : Type) (enc : TypeId × Value → H) :
    ReturnsInHanded {} Try.checked os 6 .any (Rows.neighAgesSpec.pre6 enc Try.prog Try.f6 Rows.neighAgesRow.domain false) (Rows.neighAgesSpec.post enc Try.prog Try.f6 false true false false) := by
  refine returnsInHanded_of_change_sized (C := Try.checked) own started (by kernel_rfl) Try.func6
    (ChangeSpec.witness6 (enc := enc) (C := Try.checked) false ⟨#[], #[.agg #[.int .i64 0, .int .i64 0, .bool false, .int .u64 0, .int .u64 0, .int .u64 0, .string ByteArray.empty, .bool false, .bool false], .int .i64 0, .int .i64 0], []⟩ 8 (by kernel_rfl) (by kernel_rfl) (by kernel_rfl) (by kernel_rfl)) ?_
  intro W base args ds gs before hval hW _ hsz _
  exact contract H enc W base args ds gs before hval hW hsz

theorem over : Rows.neighAgesRow.holds Try.pinned (OpenSpec.ofChange Rows.neighAgesSpec) :=
  OpenClaim.holds_of_wide 6 Try.f6 rfl rfl rfl rfl rfl rfl rfl ⟨rfl, rfl, rfl, rfl, rfl⟩ rfl rfl rfl rfl rfl (by kernel_rfl) Try.func6 (by kernel_rfl)
    (of_decide_eq_true (by kernel_rfl)) (by unfold Func.isWrapper; first | (rw [if_pos (by decide +kernel)]; kernel_rfl) | (rw [if_neg (by decide +kernel)]; exact ⟨rfl, rfl⟩))
    (fun os started H enc _ => lifted os started H enc)

theorem proved : Rows.NeighAgesSaid := over
#print axioms proved
end NAge
end Go.Proofs.Ytlbkphnbpenbcaa
