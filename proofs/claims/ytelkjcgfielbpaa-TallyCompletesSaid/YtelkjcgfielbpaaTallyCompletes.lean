/-
  What is proved: of any bytes, at any of their even places: when the two bytes there hold the check of all (as it is while they are 0), all sum up to all ones; the call returns true, and leaves its arguments alone. No condition.
-/
import Derived.Test.YtelkjcgfielbpaaTWords
import Derived.Test.YtelkjcgfielbpaaFrame
namespace Go.Proofs.Ytelkjcgfielbpaa.Comp
open Go.ChangeShapes Go.WideShapes Go.ChangeAt Go.RowKit
open Go.Proofs.Ytelkjcgfielbpaa
set_option linter.unusedVariables false

theorem completes {z : List Int} {k : Nat} (hb : Bys z) (he : k % 2 = 0) (hk : k + 1 < z.length) : fo (tot 0 (lay2 z k (65535 - fo (tot 0 (lay2 z k 0))))) = 65535 := by
  obtain ⟨x, hx⟩ : ∃ x, z[k]? = some x := ⟨_, List.getElem?_eq_getElem (by omega)⟩
  obtain ⟨y, hy⟩ : ∃ y, z[k + 1]? = some y := ⟨_, List.getElem?_eq_getElem hk⟩
  have h0 := lay2_tot hx hy he (w := 0) (Int.le_refl _)
  have hn := tot_nonneg (lay2_by hb k (w := 0) (by decide)) 0
  have hf := fo_bd hn
  have h1 := lay2_tot hx hy he (w := 65535 - fo (tot 0 (lay2 z k 0))) (by omega)
  rw [h1, show tot 0 z - (x * 256 + y) = tot 0 (lay2 z k 0) by omega]
  exact fo_full hn

set_option maxHeartbeats 1000000 in
theorem walk (w : World) (a0 : Option Addr) (l0 c0 : Nat) (z0 : List Int) (w0 : IsRow .u8 w a0 l0 c0 z0) (s0 : c0 * 1 ≤ 140737488351232) (a1 : Int) (w1 : (Lit.int .i64 a1).wf = true) :
    Calls Try.prog 7 #[.slice a0 l0 c0, .int .i64 a1] w fun e w' => e = .returned (.bool true) ∧ Below w.heap.size w w' := by
  obtain ⟨hz, hl, hm⟩ := w0.ri
  have hA : a0 = none → c0 = 0 := by
    intro h
    rcases w0 with ⟨_, _, h, _⟩ | ⟨x, h', _⟩
    · exact h
    · rw [h] at h'; cases h'
  have b1 := i64_bd w1
  obtain ⟨z, hzz⟩ : ∃ z, z = z0.take l0 := ⟨_, rfl⟩
  rw [← hzz] at hz
  have HZ := Lib.hid hz
  have HA := Lib.hid hA
  clear w0 hz hA hzz
  by_cases hlt : l0 < 2
  · go_enter Try.func7, Try.ntmps7
    go_wp2_with fail
    refine (tawake_yes _).mono ?_
    rintro e w1 ⟨rfl, hB1⟩
    go_wp2_with fail
    refine (word_no _ _ _ _ _ hlt).mono ?_
    rintro e w' ⟨rfl, rfl⟩
    go_wp2
    go_ret
    exact ⟨rfl, hB1⟩
  · go_enter Try.func7, Try.ntmps7
    go_wp2_with fail
    refine (tawake_yes _).mono ?_
    rintro e w1 ⟨rfl, hB1⟩
    go_wp2_with fail
    refine (word_yes _ _ _ _ _ (by omega) (by omega) b1.1 b1.2).mono ?_
    rintro e w' ⟨k, hk, hkl, rfl, rfl⟩
    have HE := Lib.hid hk
    clear hk
    go_wp2_with fail
    refine (copied_any w1 w.heap.size a0 l0 c0 k 0 z (HZ.out.below hB1) HA.out hB1.size hkl (by unfold W16; decide) (by omega)).mono ?_
    rintro e w2 ⟨g2, c2, rfl, hg2, hs2, hB2⟩
    have hb2 : Bys (lay2 z k 0) := lay2_by HZ.out.by_.bys k (by decide)
    have hf := fo_bd (tot_nonneg hb2 0)
    have HC := Lib.hid (check_one w2 w2.heap.size (some ⟨g2, 0, none⟩) l0 c2 _ (hs2.ri hs2.lt) (Nat.le_refl _) (by omega))
    have HF := Lib.hid (completes HZ.out.by_.bys HE.out (by rw [HZ.out.1]; exact hkl))
    obtain ⟨C, hC⟩ : ∃ C, C = 65535 - fo (tot 0 (lay2 z k 0)) := ⟨_, rfl⟩
    have hCb : W16 C := by unfold W16; omega
    have HCC := Lib.hid hC
    have hB02 : Below w.heap.size w w2 := hB1.trans (hB2.mono hB1.size)
    clear hs2 hb2 hf hC hB2 hB1
    go_wp2_with fail
    refine Calls.mono HC.out ?_
    rintro e w' ⟨rfl, hw3⟩
    have hB03 : Below w.heap.size w w' := by rw [← hw3]; exact hB02.alloc hB02.size _
    clear hw3 hB02 HC
    rw [← HCC.out]
    have HCo := Lib.hid (copied_any w' w.heap.size a0 l0 c0 k C z (HZ.out.below hB03) HA.out hB03.size hkl hCb (by omega))
    go_wp2_with fail
    refine Calls.mono HCo.out ?_
    rintro e w4 ⟨g4, c4, rfl, hg4, hs4, hB4⟩
    have HSu := sum_one w4 w4.heap.size (some ⟨g4, 0, none⟩) l0 c4 _ (hs4.ri hs4.lt) (Nat.le_refl _) (by omega)
    rw [HCC.out, HF.out] at HSu
    have HSS := Lib.hid HSu
    have hB04 : Below w.heap.size w w4 := hB03.trans (hB4.mono hB03.size)
    clear hs4 HSu hB4 HCo
    go_wp2_with fail
    refine Calls.mono HSS.out ?_
    rintro e w' ⟨rfl, rfl⟩
    go_wp2
    go_ret
    exact ⟨rfl, hB04.alloc hB04.size _⟩

set_option maxRecDepth 100000 in
theorem contract (H : Type) (enc : TypeId × Value → H) (W : World) (base : Nat) (args : Array Value) (ds gs : List (DataW H)) (before : List MemPlace)
    (hval0 : ∀ (j : Nat) t v, Try.f7.params[j]? = some t → args[j]? = some v → Value.okWide Try.prog W .any base t v)
    (hW : DataW.Whole enc Try.prog Try.f7.params.toList Rows.tallyCompletesSpec.vars false W args.toList ds gs before)
    (hsz0 : (DataW.weightsEach Try.prog (Try.f7.params.toList ++ Rows.tallyCompletesSpec.plain.varTypes Try.prog) (ds ++ gs)).all (· ≤ reachBytes) = true) :
    Calls Try.prog 7 args W fun e W' => ∃ v, e = .returned v ∧ Rows.tallyCompletesSpec.post enc Try.prog Try.f7 false true false false W args v W' := by
  have hsz := hsz0
  clear hsz0
  have hval := hval0
  clear hval0
  have hW' := hW
  obtain ⟨p, q, hA0, hV, rfl, hfz, hnd⟩ := hW
  have hA : DataW.TrodAll enc Try.prog W 0 (fun _ => true) true Try.f7.params.toList args.toList ds p := hA0
  rw [Try.params7] at hA hval hsz
  obtain ⟨v0, vs0, d0, ds0, p0, q0, hargs, rfl, rfl, h0, r0⟩ := trodAll_cons hA
  obtain ⟨v1, vs1, d1, ds1, p1, q1, rfl, rfl, rfl, h1, r1⟩ := trodAll_cons r0
  obtain ⟨rfl, rfl, rfl⟩ := trodAll_nil r1
  obtain rfl : args = #[v0, v1] := by cases args; simp_all
  obtain ⟨rfl, rfl⟩ := trodVars_none hV
  obtain ⟨a0, l0, c0, rfl⟩ := okWide_slice Try.underlying24 (hval 0 24 v0 rfl rfl)
  have k0 := h0
  have lt0 : ∀ x ∈ p0, x.block < W.heap.size := by obtain ⟨m, hm⟩ := k0; exact DataW.trod_lt m _ _ _ hm
  obtain ⟨z0, w0, s0⟩ : ∃ zs, IsRow .u8 W a0 l0 c0 zs ∧ c0 * 1 ≤ 140737488351232 := isRow_of Try.underlying24 Try.underlying5 (by kernel_rfl) (by kernel_rfl) h0 (fun hx => sized_slice hsz (j := 0) (t := 24) (e := 5) rfl (by rw [hx]; rfl) Try.underlying24)
  obtain ⟨a1, rfl, rfl, rfl, w1⟩ := open_int Try.underlying3 (hval 1 3 v1 rfl rfl) h1
  clear hA0
  refine (walk W a0 l0 c0 z0 w0 s0 a1 w1).mono fun e W' ⟨he, bel⟩ => ?_
  subst he
  exact ⟨_, rfl, _, _, _, [], _, [], hW', trodAll_mk1 (shut_bool Try.underlying4 _), (trodAll_cons_mk (Below.trod laidOut (by kernel_rfl) (of_decide_eq_true (by kernel_rfl)) k0 bel lt0) (trodAll_cons_mk (shut_int Try.underlying3 w1) trodAll_mk0)), rfl, bel.frame _, fun h => by cases h⟩

set_option maxRecDepth 100000 in
theorem lifted (os : Os) (started : os.Started) (H : Type) (enc : TypeId × Value → H) :
    ReturnsInHanded {} Try.checked os 7 .any (Rows.tallyCompletesSpec.pre6 enc Try.prog Try.f7 Rows.tallyCompletesRow.domain false) (Rows.tallyCompletesSpec.post enc Try.prog Try.f7 false true false false) := by
  refine returnsInHanded_of_change_sized (C := Try.checked) own started (by kernel_rfl) Try.func7
    (ChangeSpec.witness6 (enc := enc) (C := Try.checked) false ⟨#[], #[.slice none 0 0, .int .i64 0], []⟩ 8 (by kernel_rfl) (by kernel_rfl) (by kernel_rfl) (by kernel_rfl)) ?_
  intro W base args ds gs before hval hW _ hsz _
  exact contract H enc W base args ds gs before hval hW hsz

theorem over : Rows.tallyCompletesRow.holds Try.pinned (OpenSpec.ofChange Rows.tallyCompletesSpec) :=
  OpenClaim.holds_of_wide 7 Try.f7 rfl rfl rfl rfl rfl rfl rfl ⟨rfl, rfl, rfl, rfl, rfl⟩ rfl rfl rfl rfl rfl (by kernel_rfl) Try.func7 (by kernel_rfl)
    (of_decide_eq_true (by kernel_rfl)) (by unfold Func.isWrapper; first | (rw [if_pos (by decide +kernel)]; kernel_rfl) | (rw [if_neg (by decide +kernel)]; exact ⟨rfl, rfl⟩))
    (fun os started H enc _ => lifted os started H enc)

theorem proved : Rows.TallyCompletesSaid := over
#print axioms proved
end Go.Proofs.Ytelkjcgfielbpaa.Comp
