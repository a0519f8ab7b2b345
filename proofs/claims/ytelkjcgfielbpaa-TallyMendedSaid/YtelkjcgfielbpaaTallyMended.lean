/-
  What is proved: of any bytes, at any of their even places, with any word laid there instead: the check mended is the check anew, but where nothing but noughts is left; the call returns true, and leaves its arguments alone. No condition.
-/
import Derived.Test.YtelkjcgfielbpaaTWords
import Derived.Test.YtelkjcgfielbpaaFrame
namespace Go.Proofs.Ytelkjcgfielbpaa.Mend
open Go.ChangeShapes Go.WideShapes Go.ChangeAt Go.RowKit
open Go.Proofs.Ytelkjcgfielbpaa
set_option linter.unusedVariables false

theorem mended_check {z : List Int} {k : Nat} {x y v : Int} (hb : Bys z) (he : k % 2 = 0) (hx : z[k]? = some x) (hy : z[k + 1]? = some y) (hv : W16 v) (h0 : 0 < tot 0 (lay2 z k v)) :
    ad v (ad (fo (tot 0 z)) (65535 - (x * 256 + y))) = fo (tot 0 (lay2 z k v)) := by
  have hxb := hb x (List.mem_of_getElem? hx)
  have hyb := hb y (List.mem_of_getElem? hy)
  have h1 := lay2_tot hx hy he (w := v) hv.1
  have h2 := tot_nonneg hb 0
  rw [h1] at h0 ⊢
  exact mended (by omega) hv h2 h0

set_option maxHeartbeats 1000000 in
theorem walk (w : World) (a0 : Option Addr) (l0 c0 : Nat) (z0 : List Int) (w0 : IsRow .u8 w a0 l0 c0 z0) (s0 : c0 * 1 ≤ 140737488351232) (a1 : Int) (w1 : (Lit.int .i64 a1).wf = true) (a2 : Int) (w2 : (Lit.int .u16 a2).wf = true) :
    Calls Try.prog 8 #[.slice a0 l0 c0, .int .i64 a1, .int .u16 a2] w fun e w' => e = .returned (.bool true) ∧ Below w.heap.size w w' := by
  obtain ⟨hz, hl, hm⟩ := w0.ri
  have hA : a0 = none → c0 = 0 := by
    intro h
    rcases w0 with ⟨_, _, h, _⟩ | ⟨x, h', _⟩
    · exact h
    · rw [h] at h'; cases h'
  have b1 := i64_bd w1
  have b2 : W16 a2 := u16_bd w2
  obtain ⟨z, hzz⟩ : ∃ z, z = z0.take l0 := ⟨_, rfl⟩
  rw [← hzz] at hz
  have HZ := Lib.hid hz
  have HA := Lib.hid hA
  clear w0 hz hA hzz w2
  by_cases hlt : l0 < 2
  · go_enter Try.func8, Try.ntmps8
    go_wp2_with fail
    refine (tawake_yes _).mono ?_
    rintro e w1 ⟨rfl, hB1⟩
    go_wp2_with fail
    refine (word_no _ _ _ _ _ hlt).mono ?_
    rintro e w' ⟨rfl, rfl⟩
    go_wp2
    go_ret
    exact ⟨rfl, hB1⟩
  · go_enter Try.func8, Try.ntmps8
    go_wp2_with fail
    refine (tawake_yes _).mono ?_
    rintro e w1 ⟨rfl, hB1⟩
    go_wp2_with fail
    refine (word_yes _ _ _ _ _ (by omega) (by omega) b1.1 b1.2).mono ?_
    rintro e w' ⟨k, hk, hkl, rfl, rfl⟩
    have HE := Lib.hid hk
    clear hk
    have hR1 := HZ.out.below hB1
    obtain ⟨b, o, x, ea, hb, hx, hxw, hcx⟩ := hR1.at_ (j := k) (by omega)
    obtain ⟨b', o', y, ea', hb', hy, hyw, hcy⟩ := hR1.at_ (j := k + 1) hkl
    rw [ea] at ea'
    injection ea' with ea'
    injection ea' with e1 e2
    subst e1 e2
    subst ea
    have hxb := u8_bd hxw
    have hyb := u8_bd hyw
    have hk0 : (k : Int) < l0 := by omega
    have hk1 : (k : Int) + 1 < l0 := by omega
    have hk2 : IntKind.i64.wrap ((k : Int) + 1) = (k : Int) + 1 := IntWalk.i64_in _ (by omega)
    have hk3 : 0 ≤ (k : Int) + 1 := by omega
    have hk4 : ((k : Int) + 1).toNat = k + 1 := by omega
    have HX := Lib.hid hx
    have HY := Lib.hid hy
    have HR1 := Lib.hid hR1
    have hB1d : Below w.heap.size w w1 := hB1
    clear hx hy hR1 hxw hyw hb hb'
    go_wp2_with fail
    go_quiet (fail)
    clear hk2 hk4
    obtain ⟨w2, hw2⟩ : ∃ w2, w2 = w1.drewN nq := ⟨_, rfl⟩
    rw [← hw2]
    have hB2 : Below w.heap.size w w2 := by rw [hw2]; exact below_drewN hB1d nq
    obtain ⟨O, hO⟩ : ∃ O, O = x * 256 + y := ⟨_, rfl⟩
    rw [← hO]
    have hOb : W16 O := by unfold W16; omega
    have HCo := Lib.hid (copied_any w2 w.heap.size (some ⟨b, o, none⟩) l0 c0 k a2 z (HZ.out.below hB2) HA.out hB2.size hkl b2 (by omega))
    have HO := Lib.hid hO
    clear hw2 hO hcx hcy hB1 hB1d
    go_wp2_with fail
    refine Calls.mono HCo.out ?_
    rintro e w3 ⟨g3, c3, rfl, hg3, hs3, hB3⟩
    have hB03 : Below w.heap.size w w3 := hB2.trans (hB3.mono hB2.size)
    have hbz : Bys z := HZ.out.by_.bys
    have hbl : Bys (lay2 z k a2) := lay2_by hbz k b2
    obtain ⟨N, hN⟩ : ∃ N, N = nil0 (lay2 z k a2) := ⟨_, rfl⟩
    have HNo := nought_any w3 w3.heap.size (some ⟨g3, 0, none⟩) l0 c3 _ (hs3.ri hs3.lt) (by omega)
    rw [← hN] at HNo
    have HNN := Lib.hid HNo
    have HN := Lib.hid hN
    have HS3 := Lib.hid hs3
    have HBZ := Lib.hid hbz
    have HBL := Lib.hid hbl
    clear hB3 HNo hN hs3 hbz hbl hB2 HCo
    go_wp2_with fail
    refine Calls.mono HNN.out ?_
    rintro e w' ⟨rfl, rfl⟩
    clear HNN
    cases N with
    | true =>
      go_wp2
      go_ret
      exact ⟨rfl, hB03⟩
    | false =>
      have hf := fo_bd (tot_nonneg HBZ.out 0)
      obtain ⟨C, hC⟩ : ∃ C, C = 65535 - fo (tot 0 z) := ⟨_, rfl⟩
      have hCb : W16 C := by unfold W16; omega
      have HC1 := check_one w3 w.heap.size (some ⟨b, o, none⟩) l0 c0 z (HZ.out.below hB03) hB03.size (by omega)
      rw [← hC] at HC1
      have hm : ad a2 (ad (65535 - C) (65535 - O)) = fo (tot 0 (lay2 z k a2)) := by
        rw [hC, HO.out, show (65535 : Int) - (65535 - fo (tot 0 z)) = fo (tot 0 z) by omega]
        exact mended_check HBZ.out HE.out HX.out HY.out b2 (nil0_tot HBL.out HN.out.symm)
      obtain ⟨V, hV⟩ : ∃ V, V = 65535 - fo (tot 0 (lay2 z k a2)) := ⟨_, rfl⟩
      have HU : Hid (∀ W, Calls Try.prog 17 #[.int .u16 C, .int .u16 O, .int .u16 a2] W fun e w' => e = .returned (.int .u16 V) ∧ W = w') := by
        show ∀ W, _
        intro W
        have := update_any C O a2 hCb hOb b2 W
        rwa [hm, ← hV] at this
      have HCC1 := Lib.hid HC1
      have HV := Lib.hid hV
      clear hf hC hm HC1 hV hCb hOb
      go_wp2_with fail
      refine Calls.mono HCC1.out ?_
      rintro e w4 ⟨rfl, hw4⟩
      have hB04 : Below w.heap.size w w4 := by rw [← hw4]; exact hB03.alloc hB03.size _
      have hs4 : Starts w4 g3 l0 c3 (lay2 z k a2) := by
        obtain ⟨cur, h1, h2⟩ := HS3.out
        exact ⟨cur, by rw [← hw4]; exact h1.alloc _, h2⟩
      have HC2 := check_one w4 w4.heap.size (some ⟨g3, 0, none⟩) l0 c3 _ (hs4.ri hs4.lt) (Nat.le_refl _) (by omega)
      rw [← HV.out] at HC2
      have HCC2 := Lib.hid HC2
      clear HC2 hs4 hw4
      go_wp2_with fail
      refine Calls.mono (HU.out _) ?_
      rintro e w' ⟨rfl, rfl⟩
      go_wp2_with fail
      refine Calls.mono HCC2.out ?_
      rintro e w' ⟨rfl, rfl⟩
      go_wp2
      go_ret
      exact ⟨rfl, hB04.alloc hB04.size _⟩

set_option maxRecDepth 100000 in
theorem contract (H : Type) (enc : TypeId × Value → H) (W : World) (base : Nat) (args : Array Value) (ds gs : List (DataW H)) (before : List MemPlace)
    (hval0 : ∀ (j : Nat) t v, Try.f8.params[j]? = some t → args[j]? = some v → Value.okWide Try.prog W .any base t v)
    (hW : DataW.Whole enc Try.prog Try.f8.params.toList Rows.tallyMendedSpec.vars false W args.toList ds gs before)
    (hsz0 : (DataW.weightsEach Try.prog (Try.f8.params.toList ++ Rows.tallyMendedSpec.plain.varTypes Try.prog) (ds ++ gs)).all (· ≤ reachBytes) = true) :
    Calls Try.prog 8 args W fun e W' => ∃ v, e = .returned v ∧ Rows.tallyMendedSpec.post enc Try.prog Try.f8 false true false false W args v W' := by
  have hsz := hsz0
  clear hsz0
  have hval := hval0
  clear hval0
  have hW' := hW
  obtain ⟨p, q, hA0, hV, rfl, hfz, hnd⟩ := hW
  have hA : DataW.TrodAll enc Try.prog W 0 (fun _ => true) true Try.f8.params.toList args.toList ds p := hA0
  rw [Try.params8] at hA hval hsz
  obtain ⟨v0, vs0, d0, ds0, p0, q0, hargs, rfl, rfl, h0, r0⟩ := trodAll_cons hA
  obtain ⟨v1, vs1, d1, ds1, p1, q1, rfl, rfl, rfl, h1, r1⟩ := trodAll_cons r0
  obtain ⟨v2, vs2, d2, ds2, p2, q2, rfl, rfl, rfl, h2, r2⟩ := trodAll_cons r1
  obtain ⟨rfl, rfl, rfl⟩ := trodAll_nil r2
  obtain rfl : args = #[v0, v1, v2] := by cases args; simp_all
  obtain ⟨rfl, rfl⟩ := trodVars_none hV
  obtain ⟨a0, l0, c0, rfl⟩ := okWide_slice Try.underlying24 (hval 0 24 v0 rfl rfl)
  have k0 := h0
  have lt0 : ∀ x ∈ p0, x.block < W.heap.size := by obtain ⟨m, hm⟩ := k0; exact DataW.trod_lt m _ _ _ hm
  obtain ⟨z0, w0, s0⟩ : ∃ zs, IsRow .u8 W a0 l0 c0 zs ∧ c0 * 1 ≤ 140737488351232 := isRow_of Try.underlying24 Try.underlying5 (by kernel_rfl) (by kernel_rfl) h0 (fun hx => sized_slice hsz (j := 0) (t := 24) (e := 5) rfl (by rw [hx]; rfl) Try.underlying24)
  obtain ⟨a1, rfl, rfl, rfl, w1⟩ := open_int Try.underlying3 (hval 1 3 v1 rfl rfl) h1
  obtain ⟨a2, rfl, rfl, rfl, w2⟩ := open_int Try.underlying25 (hval 2 25 v2 rfl rfl) h2
  clear hA0
  refine (walk W a0 l0 c0 z0 w0 s0 a1 w1 a2 w2).mono fun e W' ⟨he, bel⟩ => ?_
  subst he
  exact ⟨_, rfl, _, _, _, [], _, [], hW', trodAll_mk1 (shut_bool Try.underlying4 _), (trodAll_cons_mk (Below.trod laidOut (by kernel_rfl) (of_decide_eq_true (by kernel_rfl)) k0 bel lt0) (trodAll_cons_mk (shut_int Try.underlying3 w1) (trodAll_cons_mk (shut_int Try.underlying25 w2) trodAll_mk0))), rfl, bel.frame _, fun h => by cases h⟩

set_option maxRecDepth 100000 in
theorem lifted (os : Os) (started : os.Started) (H : Type) (enc : TypeId × Value → H) :
    ReturnsInHanded {} Try.checked os 8 .any (Rows.tallyMendedSpec.pre6 enc Try.prog Try.f8 Rows.tallyMendedRow.domain false) (Rows.tallyMendedSpec.post enc Try.prog Try.f8 false true false false) := by
  refine returnsInHanded_of_change_sized (C := Try.checked) own started (by kernel_rfl) Try.func8
    (ChangeSpec.witness6 (enc := enc) (C := Try.checked) false ⟨#[], #[.slice none 0 0, .int .i64 0, .int .u16 0], []⟩ 8 (by kernel_rfl) (by kernel_rfl) (by kernel_rfl) (by kernel_rfl)) ?_
  intro W base args ds gs before hval hW _ hsz _
  exact contract H enc W base args ds gs before hval hW hsz

theorem over : Rows.tallyMendedRow.holds Try.pinned (OpenSpec.ofChange Rows.tallyMendedSpec) :=
  OpenClaim.holds_of_wide 8 Try.f8 rfl rfl rfl rfl rfl rfl rfl ⟨rfl, rfl, rfl, rfl, rfl⟩ rfl rfl rfl rfl rfl (by kernel_rfl) Try.func8 (by kernel_rfl)
    (of_decide_eq_true (by kernel_rfl)) (by unfold Func.isWrapper; first | (rw [if_pos (by decide +kernel)]; kernel_rfl) | (rw [if_neg (by decide +kernel)]; exact ⟨rfl, rfl⟩))
    (fun os started H enc _ => lifted os started H enc)

theorem proved : Rows.TallyMendedSaid := over
#print axioms proved
end Go.Proofs.Ytelkjcgfielbpaa.Mend
