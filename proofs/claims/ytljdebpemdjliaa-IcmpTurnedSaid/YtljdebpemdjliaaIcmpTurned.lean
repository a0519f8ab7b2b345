/-
  H4: a message of which one byte is changed for another one is told by its sum, and so is one with a byte behind it that is not 0: for every message, any two ends, any place and any byte.
-/
import Derived.Test.YtljdebpemdjliaaIT1
import Derived.Test.YtljdebpemdjliaaIT2
import Derived.Test.YtljdebpemdjliaaIT3
import Derived.Test.YtljdebpemdjliaaIT4
namespace Go.Proofs.Ytljdebpemdjliaa.Turned
open Go.ChangeShapes Go.WideShapes Go.ChangeAt Go.RowKit
set_option linter.unusedVariables false

theorem walkU (m : Ms) (a b : Ad) (ha : WfA a) (hb : WfA b) (at_ by_ : Int) (hlo : -9223372036854775808 ≤ at_) (w : World) :
    Calls Try.prog 7 #[m.val, .agg (ecs a b), .int .i64 at_, .int .i64 by_] w fun e w' => e = .returned (.bool true) ∧ Below w.heap.size w w' := by
  have HL := Lib.hid (fun W => ilay_any m a b ha hb W)
  unfold lyIV at HL
  by_cases hok : OkI m a b
  rotate_left
  · rw [lyI_bad hok] at HL
    exact refused m a b at_ by_ HL w
  rw [lyI_good hok] at HL
  have hsz0 := bytI_size m a b
  have hdl := (rgI_iff.1 hok.1).d
  have hsz : (bytI m a b).size ≤ 65008 := by omega
  have hs8 : 8 ≤ (bytI m a b).size := by omega
  obtain ⟨d0, d1⟩ := and127 by_
  have hD1 : 1 ≤ 1 + bits .and .i64 by_ 127 ∧ 1 + bits .and .i64 by_ 127 ≤ 128 := by omega
  clear hsz0 hdl d0 d1
  by_cases hn : at_ < 0
  · skip
    have hC0 : 0 ≤ wrap64 (-(at_ + 1)) := by unfold wrap64; omega
    have hm0 : 0 ≤ wrap64 (-(at_ + 1)) % ((bytI m a b).size : Int) := Int.emod_nonneg _ (by omega)
    have hm1 : wrap64 (-(at_ + 1)) % ((bytI m a b).size : Int) < (bytI m a b).size := Int.emod_lt_of_pos _ (by omega)
    obtain ⟨K, hK⟩ : ∃ K : Nat, wrap64 (-(at_ + 1)) % ((bytI m a b).size : Int) = K := ⟨(wrap64 (-(at_ + 1)) % ((bytI m a b).size : Int)).toNat, by omega⟩
    have hKe := hK
    have hlt : K < (byt (bytI m a b)).length := by rw [byt_len]; omega
    obtain ⟨x, hx⟩ : ∃ x, (byt (bytI m a b))[K]? = some x := ⟨_, List.getElem?_eq_getElem hlt⟩
    have hxb : 0 ≤ x ∧ x ≤ 255 := byt_by _ x (List.mem_of_getElem? hx)
    obtain ⟨y0, y1, y2⟩ := xor_off x (1 + bits .and .i64 by_ 127) hxb hD1
    have hY0 := And.intro y0 y1
    have htn := turned_no hok K x _ hx hY0 y2
    have HT := Lib.hid (fun W => itake_any (strOfNums ((byt (bytI m a b)).set K (bits .xor .u8 x (1 + bits .and .i64 by_ 127)))) (by rw [strOfNums_size, List.length_set, byt_len]; omega) m.s a b ha hb W)
    unfold tkIV at HT
    rw [htn] at HT
    clear htn hlt hm0 hm1 hC0 hK
    obtain ⟨s6, k, c, r, d⟩ := m
    cases s6 with
    | true => exact six_n k c r d a b at_ by_ _ _ K x _ _ HL HT rfl hx hY0 hsz hs8 rfl hD1 rfl hxb hn hKe hlo w
    | false =>
      rcases Bool.eq_false_or_eq_true (((bytI ⟨false, k, c, r, d⟩ a b).size : Int) == 65008) with hl | hl
      · exact long_n k c r d a b at_ by_ _ _ K x _ _ HL HT rfl hx hY0 hsz hs8 rfl hD1 rfl hxb hn hKe hlo hl w
      · have hbn := behind_no hok rfl (fun h => by rw [h] at hl; simp at hl) (1 + bits .and .i64 by_ 127) hD1
        have HT2 := Lib.hid (fun W => itake_any (bytI ⟨false, k, c, r, d⟩ a b ++ strOfNums [1 + bits .and .i64 by_ 127]) (by rw [ByteArray.size_append, strOfNums_size]; show (bytI ⟨false, k, c, r, d⟩ a b).size + 1 ≤ _; omega) false a b ha hb W)
        unfold tkIV at HT2
        rw [hbn] at HT2
        exact four_n k c r d a b at_ by_ _ _ K x _ _ HL HT HT2 rfl hx hY0 hsz hs8 rfl hD1 rfl hxb hn hKe hlo hl w
  · skip
    have hC0 : 0 ≤ at_ := by omega
    have hm0 : 0 ≤ at_ % ((bytI m a b).size : Int) := Int.emod_nonneg _ (by omega)
    have hm1 : at_ % ((bytI m a b).size : Int) < (bytI m a b).size := Int.emod_lt_of_pos _ (by omega)
    obtain ⟨K, hK⟩ : ∃ K : Nat, at_ % ((bytI m a b).size : Int) = K := ⟨(at_ % ((bytI m a b).size : Int)).toNat, by omega⟩
    have hKe := hK
    have hlt : K < (byt (bytI m a b)).length := by rw [byt_len]; omega
    obtain ⟨x, hx⟩ : ∃ x, (byt (bytI m a b))[K]? = some x := ⟨_, List.getElem?_eq_getElem hlt⟩
    have hxb : 0 ≤ x ∧ x ≤ 255 := byt_by _ x (List.mem_of_getElem? hx)
    obtain ⟨y0, y1, y2⟩ := xor_off x (1 + bits .and .i64 by_ 127) hxb hD1
    have hY0 := And.intro y0 y1
    have htn := turned_no hok K x _ hx hY0 y2
    have HT := Lib.hid (fun W => itake_any (strOfNums ((byt (bytI m a b)).set K (bits .xor .u8 x (1 + bits .and .i64 by_ 127)))) (by rw [strOfNums_size, List.length_set, byt_len]; omega) m.s a b ha hb W)
    unfold tkIV at HT
    rw [htn] at HT
    clear htn hlt hm0 hm1 hC0 hK
    obtain ⟨s6, k, c, r, d⟩ := m
    cases s6 with
    | true => exact six_p k c r d a b at_ by_ _ _ K x _ _ HL HT rfl hx hY0 hsz hs8 rfl hD1 rfl hxb hn hKe w
    | false =>
      rcases Bool.eq_false_or_eq_true (((bytI ⟨false, k, c, r, d⟩ a b).size : Int) == 65008) with hl | hl
      · exact long_p k c r d a b at_ by_ _ _ K x _ _ HL HT rfl hx hY0 hsz hs8 rfl hD1 rfl hxb hn hKe hl w
      · have hbn := behind_no hok rfl (fun h => by rw [h] at hl; simp at hl) (1 + bits .and .i64 by_ 127) hD1
        have HT2 := Lib.hid (fun W => itake_any (bytI ⟨false, k, c, r, d⟩ a b ++ strOfNums [1 + bits .and .i64 by_ 127]) (by rw [ByteArray.size_append, strOfNums_size]; show (bytI ⟨false, k, c, r, d⟩ a b).size + 1 ≤ _; omega) false a b ha hb W)
        unfold tkIV at HT2
        rw [hbn] at HT2
        exact four_p k c r d a b at_ by_ _ _ K x _ _ HL HT HT2 rfl hx hY0 hsz hs8 rfl hD1 rfl hxb hn hKe hl w
theorem walk (w : World) (a0_0 : Bool) (a0_1 : Int) (w0_1 : (Lit.int .i64 a0_1).wf = true) (a0_2 : Int) (w0_2 : (Lit.int .i64 a0_2).wf = true) (a0_3 : Int) (w0_3 : (Lit.int .i64 a0_3).wf = true) (a0_4 : ByteArray) (w0_4 : a0_4.size ≤ maxLen) (a1_0 : Bool) (a1_1 : Int) (w1_1 : (Lit.int .u64 a1_1).wf = true) (a1_2 : Int) (w1_2 : (Lit.int .u64 a1_2).wf = true) (a1_3 : Bool) (a1_4 : Int) (w1_4 : (Lit.int .u64 a1_4).wf = true) (a1_5 : Int) (w1_5 : (Lit.int .u64 a1_5).wf = true) (a2 : Int) (w2 : (Lit.int .i64 a2).wf = true) (a3 : Int) (w3 : (Lit.int .i64 a3).wf = true) :
    Calls Try.prog 7 #[.agg #[.bool a0_0, .int .i64 a0_1, .int .i64 a0_2, .int .i64 a0_3, .string a0_4], .agg #[.bool a1_0, .int .u64 a1_1, .int .u64 a1_2, .bool a1_3, .int .u64 a1_4, .int .u64 a1_5], .int .i64 a2, .int .i64 a3] w fun e w' => e = .returned (.bool true) ∧ Below w.heap.size w w' := by
  exact walkU ⟨a0_0, a0_1, a0_2, a0_3, a0_4⟩ ⟨a1_0, a1_1, a1_2⟩ ⟨a1_3, a1_4, a1_5⟩ ⟨wf_uI w1_1, wf_uI w1_2⟩ ⟨wf_uI w1_4, wf_uI w1_5⟩ a2 a3 (by simp [Lit.wf, IntKind.min, IntKind.max, IntKind.bits, IntKind.signed] at w2; omega) w
set_option maxRecDepth 100000 in
theorem contract (H : Type) (enc : TypeId × Value → H) (W : World) (base : Nat) (args : Array Value) (ds gs : List (DataW H)) (before : List MemPlace)
    (hval0 : ∀ (j : Nat) t v, Try.f7.params[j]? = some t → args[j]? = some v → Value.okWide Try.prog W .any base t v)
    (hW : DataW.Whole enc Try.prog Try.f7.params.toList Rows.icmpTurnedSpec.vars false W args.toList ds gs before)
    (hsz0 : (DataW.weightsEach Try.prog (Try.f7.params.toList ++ Rows.icmpTurnedSpec.plain.varTypes Try.prog) (ds ++ gs)).all (· ≤ reachBytes) = true) :
    Calls Try.prog 7 args W fun e W' => ∃ v, e = .returned v ∧ Rows.icmpTurnedSpec.post enc Try.prog Try.f7 false true false false W args v W' := by
  have hsz := hsz0
  clear hsz0
  have hval := hval0
  clear hval0
  have hW' := hW
  obtain ⟨p, q, hA0, hV, rfl, hfz, hnd⟩ := hW
  have hA : DataW.TrodAll enc Try.prog W 0 (fun _ => true) true Try.f7.params.toList args.toList ds p := hA0
  rw [Try.params7] at hA hval hsz
  obtain ⟨v0, vs0, d0, ds0, p0, q0, hargs, rfl, rfl, h0, r0⟩ := trodAll_cons hA
  obtain ⟨v1, vs1, d1, ds1, p1, q1, rfl, rfl, rfl, h1, r1⟩ := trodAll_cons r0
  obtain ⟨v2, vs2, d2, ds2, p2, q2, rfl, rfl, rfl, h2, r2⟩ := trodAll_cons r1
  obtain ⟨v3, vs3, d3, ds3, p3, q3, rfl, rfl, rfl, h3, r3⟩ := trodAll_cons r2
  obtain ⟨rfl, rfl, rfl⟩ := trodAll_nil r3
  obtain rfl : args = #[v0, v1, v2, v3] := by cases args; simp_all
  obtain ⟨rfl, rfl⟩ := trodVars_none hV
  have k0 := h0
  have lt0 : ∀ x ∈ p0, x.block < W.heap.size := by obtain ⟨m, hm⟩ := k0; exact DataW.trod_lt m _ _ _ hm
  obtain ⟨a0_0, a0_1, a0_2, a0_3, a0_4, rfl, w0_1, w0_2, w0_3, w0_4, ep0⟩ := open_icmp (hval 0 23 v0 rfl rfl) h0
  have k1 := h1
  have lt1 : ∀ x ∈ p1, x.block < W.heap.size := by obtain ⟨m, hm⟩ := k1; exact DataW.trod_lt m _ _ _ hm
  obtain ⟨a1_0, a1_1, a1_2, a1_3, a1_4, a1_5, rfl, w1_1, w1_2, w1_4, w1_5, ep1⟩ := open_ends (hval 1 28 v1 rfl rfl) h1
  obtain ⟨a2, rfl, rfl, rfl, w2⟩ := open_int Try.underlying3 (hval 2 3 v2 rfl rfl) h2
  obtain ⟨a3, rfl, rfl, rfl, w3⟩ := open_int Try.underlying3 (hval 3 3 v3 rfl rfl) h3
  clear hA0
  refine (walk W a0_0 a0_1 w0_1 a0_2 w0_2 a0_3 w0_3 a0_4 w0_4 a1_0 a1_1 w1_1 a1_2 w1_2 a1_3 a1_4 w1_4 a1_5 w1_5 a2 w2 a3 w3).mono fun e W' ⟨he, bel⟩ => ?_
  subst he
  exact ⟨_, rfl, _, _, _, [], _, [], hW', trodAll_mk1 (shut_bool Try.underlying4 _), (trodAll_cons_mk (Below.trod laidOut (by kernel_rfl) (of_decide_eq_true (by kernel_rfl)) k0 bel lt0) (trodAll_cons_mk (Below.trod laidOut (by kernel_rfl) (of_decide_eq_true (by kernel_rfl)) k1 bel lt1) (trodAll_cons_mk (shut_int Try.underlying3 w2) (trodAll_cons_mk (shut_int Try.underlying3 w3) trodAll_mk0)))), rfl, bel.frame _, fun h => by cases h⟩

set_option maxRecDepth 100000 in
theorem lifted (os : Os) (started : os.Started) (H : Type) (enc : TypeId × Value → H) :
    ReturnsInHanded {} Try.checked os 7 .any (Rows.icmpTurnedSpec.pre6 enc Try.prog Try.f7 Rows.icmpTurnedRow.domain false) (Rows.icmpTurnedSpec.post enc Try.prog Try.f7 false true false false) := by
  refine returnsInHanded_of_change_sized (C := Try.checked) own started (by kernel_rfl) Try.func7
    (ChangeSpec.witness6 (enc := enc) (C := Try.checked) false ⟨#[], #[.agg #[.bool false, .int .i64 0, .int .i64 0, .int .i64 0, .string ByteArray.empty], .agg #[.bool false, .int .u64 0, .int .u64 0, .bool false, .int .u64 0, .int .u64 0], .int .i64 0, .int .i64 0], []⟩ 8 (by kernel_rfl) (by kernel_rfl) (by kernel_rfl) (by kernel_rfl)) ?_
  intro W base args ds gs before hval hW _ hsz _
  exact contract H enc W base args ds gs before hval hW hsz

theorem over : Rows.icmpTurnedRow.holds Try.pinned (OpenSpec.ofChange Rows.icmpTurnedSpec) :=
  OpenClaim.holds_of_wide 7 Try.f7 rfl rfl rfl rfl rfl rfl rfl ⟨rfl, rfl, rfl, rfl, rfl⟩ rfl rfl rfl rfl rfl (by kernel_rfl) Try.func7 (by kernel_rfl)
    (of_decide_eq_true (by kernel_rfl)) (by unfold Func.isWrapper; first | (rw [if_pos (by decide +kernel)]; kernel_rfl) | (rw [if_neg (by decide +kernel)]; exact ⟨rfl, rfl⟩))
    (fun os started H enc _ => lifted os started H enc)

theorem proved : Rows.IcmpTurnedSaid := over
#print axioms proved
end Go.Proofs.Ytljdebpemdjliaa.Turned
