/-
  H4: whatever message is taken up is laid as the same bytes, but where a check of all ones stands for one of noughts or the other way round; what is not taken up is the empty message: for every text, of either family, and any two ends.
-/
import Derived.Test.YtljdebpemdjliaaIG1
import Derived.Test.YtljdebpemdjliaaIG2
import Derived.Test.YtljdebpemdjliaaIG3
import Derived.Test.YtljdebpemdjliaaIG4
namespace Go.Proofs.Ytljdebpemdjliaa.Again
open Go.ChangeShapes Go.WideShapes Go.ChangeAt Go.RowKit
set_option linter.unusedVariables false

theorem walkG (s : ByteArray) (hs : s.size ≤ 140737488351232) (six : Bool) (a b : Ad) (ha : WfA a) (hb : WfA b) (w : World) :
    Calls Try.prog 9 #[.string s, .bool six, .agg (ecs a b)] w fun e w' => e = .returned (.bool true) ∧ Below w.heap.size w w' := by
  by_cases h : (tkIR s six a b).2 = 0
  rotate_left
  · exact fail_ s hs six a b ha hb h w
  obtain ⟨hag, hok, htk⟩ := agn_of h
  have HT := Lib.hid (fun W => itake_any s (by omega) six a b ha hb W)
  unfold tkIV at HT
  rw [htk] at HT
  have HL := Lib.hid (fun W => ilay_any (pkI s six) a b ha hb W)
  unfold lyIV at HL
  rw [lyI_good hok] at HL
  have h8 := hag.h8
  have hz := hag.size
  have h2 : 2 < s.size := by omega
  have h3 : 3 < s.size := by omega
  have t2 : 2 < (bytI (pkI s six) a b).size := by omega
  have t3 : 3 < (bytI (pkI s six) a b).size := by omega
  rcases hag.same with he | ⟨hne, c, d, hc, hd, e1, e2, e3, e4⟩
  · rw [he] at HL
    rcases Bool.eq_false_or_eq_true (((s[2]'h2).toNat : Int) == 0) with p | p
    · rcases Bool.eq_false_or_eq_true (((s[3]'h3).toNat : Int) == 0) with q | q
      · exact s_i s six a b _ HT HL h8 h2 h3 p q w
      · exact s_ii s six a b _ HT HL h8 h2 h3 p q (by have e : ((s[2]'h2).toNat : Int) = 0 := by simpa using p
                                                      rw [e]; rfl) w
    · rcases Bool.eq_false_or_eq_true (((s[2]'h2).toNat : Int) == 255) with q | q
      · rcases Bool.eq_false_or_eq_true (((s[3]'h3).toNat : Int) == 255) with r | r
        · exact s_iii s six a b _ HT HL h8 h2 h3 p q r w
        · exact s_iv s six a b _ HT HL h8 h2 h3 p q r w
      · exact s_v s six a b _ HT HL h8 h2 h3 p q w
  · rw [byt_at _ _ h2] at e1
    rw [byt_at _ _ h3] at e2
    rw [byt_at _ _ t2] at e3
    rw [byt_at _ _ t3] at e4
    injection e1 with e1
    injection e2 with e2
    injection e3 with e3
    injection e4 with e4
    rcases hc with rfl | rfl
    · rcases hd with rfl | rfl
      · exact d_zz s _ six a b _ HT HL h8 h2 h3 hz hag.two hag.four hne t2 t3 (by rw [e1]; rfl) (by rw [e2]; rfl) (by rw [e3]; rfl) (by rw [e4]; rfl) w
      · exact d_zf s _ six a b _ HT HL h8 h2 h3 hz hag.two hag.four hne t2 t3 (by rw [e1]; rfl) (by rw [e2]; rfl) (by rw [e3]; rfl) (by rw [e3]; rfl) (by rw [e4]; rfl) w
    · rcases hd with rfl | rfl
      · exact d_fz s _ six a b _ HT HL h8 h2 h3 hz hag.two hag.four hne t2 t3 (by rw [e1]; rfl) (by rw [e1]; rfl) (by rw [e2]; rfl) (by rw [e3]; rfl) (by rw [e4]; rfl) w
      · exact d_ff s _ six a b _ HT HL h8 h2 h3 hz hag.two hag.four hne t2 t3 (by rw [e1]; rfl) (by rw [e1]; rfl) (by rw [e2]; rfl) (by rw [e3]; rfl) (by rw [e3]; rfl) (by rw [e4]; rfl) w
theorem walk (w : World) (a0 : ByteArray) (w0 : a0.size ≤ maxLen) (s0 : a0.size ≤ 140737488351232) (a1 : Bool) (a2_0 : Bool) (a2_1 : Int) (w2_1 : (Lit.int .u64 a2_1).wf = true) (a2_2 : Int) (w2_2 : (Lit.int .u64 a2_2).wf = true) (a2_3 : Bool) (a2_4 : Int) (w2_4 : (Lit.int .u64 a2_4).wf = true) (a2_5 : Int) (w2_5 : (Lit.int .u64 a2_5).wf = true) :
    Calls Try.prog 9 #[.string a0, .bool a1, .agg #[.bool a2_0, .int .u64 a2_1, .int .u64 a2_2, .bool a2_3, .int .u64 a2_4, .int .u64 a2_5]] w fun e w' => e = .returned (.bool true) ∧ Below w.heap.size w w' := by
  exact walkG a0 s0 a1 ⟨a2_0, a2_1, a2_2⟩ ⟨a2_3, a2_4, a2_5⟩ ⟨wf_uI w2_1, wf_uI w2_2⟩ ⟨wf_uI w2_4, wf_uI w2_5⟩ w
set_option maxRecDepth 100000 in
theorem contract (H : Type) (enc : TypeId × Value → H) (W : World) (base : Nat) (args : Array Value) (ds gs : List (DataW H)) (before : List MemPlace)
    (hval0 : ∀ (j : Nat) t v, Try.f9.params[j]? = some t → args[j]? = some v → Value.okWide Try.prog W .any base t v)
    (hW : DataW.Whole enc Try.prog Try.f9.params.toList Rows.icmpAgainSpec.vars false W args.toList ds gs before)
    (hsz0 : (DataW.weightsEach Try.prog (Try.f9.params.toList ++ Rows.icmpAgainSpec.plain.varTypes Try.prog) (ds ++ gs)).all (· ≤ reachBytes) = true) :
    Calls Try.prog 9 args W fun e W' => ∃ v, e = .returned v ∧ Rows.icmpAgainSpec.post enc Try.prog Try.f9 false true false false W args v W' := by
  have hsz := hsz0
  clear hsz0
  have hval := hval0
  clear hval0
  have hW' := hW
  obtain ⟨p, q, hA0, hV, rfl, hfz, hnd⟩ := hW
  have hA : DataW.TrodAll enc Try.prog W 0 (fun _ => true) true Try.f9.params.toList args.toList ds p := hA0
  rw [Try.params9] at hA hval hsz
  obtain ⟨v0, vs0, d0, ds0, p0, q0, hargs, rfl, rfl, h0, r0⟩ := trodAll_cons hA
  obtain ⟨v1, vs1, d1, ds1, p1, q1, rfl, rfl, rfl, h1, r1⟩ := trodAll_cons r0
  obtain ⟨v2, vs2, d2, ds2, p2, q2, rfl, rfl, rfl, h2, r2⟩ := trodAll_cons r1
  obtain ⟨rfl, rfl, rfl⟩ := trodAll_nil r2
  obtain rfl : args = #[v0, v1, v2] := by cases args; simp_all
  obtain ⟨rfl, rfl⟩ := trodVars_none hV
  obtain ⟨a0, rfl, rfl, rfl, w0⟩ := Go.ChangeMaps.open_string Try.underlying9 (hval 0 9 v0 rfl rfl) h0
  have s0 : a0.size ≤ 140737488351232 := by have h1 := sized_string hsz (j := 0) (t := 9) (bytes := a0.data.toList) rfl rfl; have h2 := Lib.size_eq a0; have h3 : reachBytes = 140737488351232 := (by decide); omega
  obtain ⟨a1, rfl, rfl, rfl⟩ := open_boolv Try.underlying4 (hval 1 4 v1 rfl rfl) h1
  have k2 := h2
  have lt2 : ∀ x ∈ p2, x.block < W.heap.size := by obtain ⟨m, hm⟩ := k2; exact DataW.trod_lt m _ _ _ hm
  obtain ⟨a2_0, a2_1, a2_2, a2_3, a2_4, a2_5, rfl, w2_1, w2_2, w2_4, w2_5, ep2⟩ := open_ends (hval 2 28 v2 rfl rfl) h2
  clear hA0
  refine (walk W a0 w0 s0 a1 a2_0 a2_1 w2_1 a2_2 w2_2 a2_3 a2_4 w2_4 a2_5 w2_5).mono fun e W' ⟨he, bel⟩ => ?_
  subst he
  exact ⟨_, rfl, _, _, _, [], _, [], hW', trodAll_mk1 (shut_bool Try.underlying4 _), (trodAll_cons_mk (Go.ChangeMaps.shut_string Try.underlying9 w0) (trodAll_cons_mk (shut_bool Try.underlying4 _) (trodAll_cons_mk (Below.trod laidOut (by kernel_rfl) (of_decide_eq_true (by kernel_rfl)) k2 bel lt2) trodAll_mk0))), rfl, bel.frame _, fun h => by cases h⟩

set_option maxRecDepth 100000 in
theorem lifted (os : Os) (started : os.Started) (H : Type) (enc : TypeId × Value → H) :
    ReturnsInHanded {} Try.checked os 9 .any (Rows.icmpAgainSpec.pre6 enc Try.prog Try.f9 Rows.icmpAgainRow.domain false) (Rows.icmpAgainSpec.post enc Try.prog Try.f9 false true false false) := by
  refine returnsInHanded_of_change_sized (C := Try.checked) own started (by kernel_rfl) Try.func9
    (ChangeSpec.witness6 (enc := enc) (C := Try.checked) false ⟨#[], #[.string ByteArray.empty, .bool false, .agg #[.bool false, .int .u64 0, .int .u64 0, .bool false, .int .u64 0, .int .u64 0]], []⟩ 8 (by kernel_rfl) (by kernel_rfl) (by kernel_rfl) (by kernel_rfl)) ?_
  intro W base args ds gs before hval hW _ hsz _
  exact contract H enc W base args ds gs before hval hW hsz

theorem over : Rows.icmpAgainRow.holds Try.pinned (OpenSpec.ofChange Rows.icmpAgainSpec) :=
  OpenClaim.holds_of_wide 9 Try.f9 rfl rfl rfl rfl rfl rfl rfl ⟨rfl, rfl, rfl, rfl, rfl⟩ rfl rfl rfl rfl rfl (by kernel_rfl) Try.func9 (by kernel_rfl)
    (of_decide_eq_true (by kernel_rfl)) (by unfold Func.isWrapper; first | (rw [if_pos (by decide +kernel)]; kernel_rfl) | (rw [if_neg (by decide +kernel)]; exact ⟨rfl, rfl⟩))
    (fun os started H enc _ => lifted os started H enc)

theorem proved : Rows.IcmpAgainSaid := over
#print axioms proved
end Go.Proofs.Ytljdebpemdjliaa.Again
