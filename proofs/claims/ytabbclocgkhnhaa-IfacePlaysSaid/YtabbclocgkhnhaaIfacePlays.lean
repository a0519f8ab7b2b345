/-
  crosswaylaw14.IfacePlays returns true for every input, and leaves its arguments alone.
  Conditions: none of our own.
-/
import Derived.Test.YtabbclocgkhnhaaMgG
namespace Go.Proofs.Ytabbclocgkhnhaa
open Go.ChangeShapes Go.WideShapes Go.ChangeAt Go.RowKit
set_option linter.unusedVariables false
namespace IPly
set_option maxRecDepth 100000 in
set_option maxHeartbeats 4000000 in
theorem walk (w : World) (a0 : Option Addr) (l0 c0 : Nat) (z0 : List Stp) (w0 : IsStp w a0 l0 z0) :
    Calls Try.prog 3 #[.slice a0 l0 c0] w fun e w' => e = .returned (.bool true) ∧ Below w.heap.size w w' := by
  have HZ := Lib.hid w0
  clear w0
  go_enter Try.func3, Try.ntmps3
  go_wp2_with fail
  refine Calls.mono (awake_yes w) ?_
  rintro e x1 ⟨rfl, hb1⟩
  have B1 := Lib.hid hb1
  have HNew := Lib.hid (newP x1)
  clear hb1
  go_wp2_with fail
  refine Calls.mono HNew.out ?_
  rintro e x2 ⟨p, Sp0, rfl, hP, hb, hs⟩
  have HP2 := Lib.hid hP
  have B2 := Lib.hid (B1.out.trans (hb.mono B1.out.size))
  have HS2 : Hid (∀ s ∈ Sp0, w.heap.size ≤ s) := Lib.hid (fun s h => Nat.le_trans B1.out.size (hs s h))
  have HND := Lib.hid (newD x2)
  clear hP hb hs
  go_wp2_with fail
  refine Calls.mono HND.out ?_
  rintro e x3 ⟨t, St0, rfl, hD, hT, hs⟩
  have Y0 : Hid (BotI w x3 p Sp0 t St0 (plI z0 0)) := Lib.hid (by
    rw [plI_zero]
    exact ⟨⟨HP2.out.tch hT (by simp), hD, fun s h hm => by have := HP2.out.lt s h; have := hs s hm; omega⟩, B2.out.trans (hT.below B2.out.size (by simp)), HS2.out, fun s h => Nat.le_trans B2.out.size (hs s h)⟩)
  clear hD hT hs
  go_wp2
  go_loopw [6] (fun iv wr => ∃ (i : Nat) (Sp St : List Nat), iv = .int .i64 (i : Int) ∧ i ≤ l0 ∧ i ≤ 60 ∧ Hid (BotI w wr p Sp t St (plI z0 i))) (fun iv _ => 60 - (intOf iv).toNat)
  case atStart => exact ⟨0, Sp0, St0, rfl, Nat.zero_le _, Nat.zero_le _, Y0⟩
  case round =>
    obtain ⟨i, Sp, St, rfl, hil, hi6, hY⟩ := hrel
    have j1 : IntKind.i64.wrap ((i : Int) + 1) = (i : Int) + 1 := by rw [IntKind.wrap_i64]; omega
    by_cases hlt : i < l0
    · have i1 : (i : Int) < (l0 : Int) := by omega
      have i0 : (0 : Int) ≤ (i : Int) := by omega
      by_cases h60 : i < 60
      · have i6 : (i : Int) < 60 := by omega
        obtain ⟨g, o, wh, nm, mac, nu, po, up, s, ah, al, rfl, hzi, hok, c0, c1, c2, c3, c4, c5, c6, c7, c8⟩ := HZ.out.cells hY.out.bel hlt
        obtain ⟨st, hst⟩ : ∃ st, plI z0 i = st := ⟨_, rfl⟩
        obtain ⟨x, hxe⟩ : ∃ x : StpI, (⟨wh, nm, mac, nu, po, up, s, ah, al⟩ : StpI) = x := ⟨_, rfl⟩
        have HXe := Lib.hid hxe
        rw [hst] at hY
        have HS := Lib.hid (plI_succ hzi)
        rw [hst, hxe] at HS
        obtain ⟨n1, hn1⟩ : ∃ n, (doI st x).2.1 = n := ⟨_, rfl⟩
        obtain ⟨n2, hn2⟩ : ∃ n, (doI st x).2.2 = n := ⟨_, rfl⟩
        have HOk : Hid x.ok := Lib.hid (hxe ▸ hok)
        have HDo := Lib.hid (do9 p Sp st x hxe HOk.out hn1 hn2 wr hY.out.two.P)
        have HDs := Lib.hid (fun W hD => does9 t St st x hxe HOk.out hn1 hn2 W hD)
        have HTl := Lib.hid (fun W Sp' St' st' h2 => tells9 p Sp' t St' st' x hxe HOk.out W h2)
        have HPo : Hid (I64 po) := Lib.hid hok.2.2.2.2.1
        have bn1 : (n1 != n1) = false := by simp
        have bn2 : (n2 != n2) = false := by simp
        have HCe := Lib.hid (HZ.out.cells_of hzi)
        clear hst hn1 hn2 hok hxe hzi
        go_wp2_with fail
        refine Calls.mono HDo.out ?_
        rintro e w2 ⟨rfl, Sp', hP, hg⟩
        have hDm := hY.out.two.goP hP hg
        have HPg := Lib.hid (And.intro hP hg)
        have HD2 := Lib.hid (HDs.out w2 hDm.2.1)
        have HB2 := Lib.hid (hY.out.bel.trans (hg.below hY.out.bel.size hY.out.ap).1)
        obtain ⟨d0, d1, d2, d3, d4, d5, d6, d7, d8⟩ := HCe.out w2 HB2.out
        clear hP hg hDm c0 c1 c2 c3 c4 c5 c6 c7 c8
        go_wp2_with fail
        refine Calls.mono HD2.out ?_
        rintro e w3 ⟨rfl, St', hD3, hg3⟩
        have Y3 := Lib.hid (hY.out.step HPg.out.1 HPg.out.2 hD3 hg3)
        rw [← HS.out] at Y3
        have HT3 := Lib.hid (HTl.out w3 Sp' St' _ Y3.out.two)
        obtain ⟨e0, e1, e2, e3, e4, e5, e6, e7, e8⟩ := HCe.out w3 Y3.out.bel
        clear hD3 hg3 d0 d1 d2 d3 d4 d5 d6 d7 d8
        go_wp2_with fail
        refine Calls.mono HT3.out ?_
        rintro e w4 ⟨rfl, hT4, hh4⟩
        have Y4 := Lib.hid (Y3.out.tells hT4 hh4)
        have HL4 := Lib.hid (localsP p Sp' _ po HPo.out w4 Y4.out.two.P)
        obtain ⟨-, -, -, -, f4, -, -, -, -⟩ := HCe.out w4 Y4.out.bel
        clear hT4 hh4 e0 e1 e2 e3 e4 e5 e6 e7 e8
        go_wp2_with fail
        refine Calls.mono HL4.out ?_
        rintro e w5 ⟨A, cc, rfl, ho5, hP5, hT5⟩
        have Y5 := Lib.hid (Y4.out.readP hP5 hT5)
        obtain ⟨ll, hll⟩ : ∃ ll, localsI (plI z0 (i + 1)) po = ll := ⟨_, rfl⟩
        rw [hll] at ho5 ⊢
        obtain ⟨m, hm⟩ : ∃ m, ll.length = m := ⟨_, rfl⟩
        rw [hm] at ho5 ⊢
        have HO5 : Hid (∃ xs, w5.ownsRow w4.heap.size 42 4 (.slice A m cc) m xs) := Lib.hid ⟨_, ho5⟩
        have hm8 : m ≤ 8 := by
          rw [← hm, ← hll]
          unfold localsI
          split
          · simp
          · rename_i h9
            obtain ⟨_, l, -, hl, he, -⟩ := locI_at Y5.out.two.D.inv (by simpa using h9)
            rw [he]; exact Y5.out.two.D.inv.loc l (List.mem_of_getElem? hl)
        have HNo : Hid (∀ s ∈ obI (.slice A m cc), s ∉ Sp' ∧ s ∉ St' ∧ w.heap.size ≤ s) := Lib.hid (fun s hs => by
          have h1 := own_ges ho5 s hs
          refine ⟨fun h2 => ?_, fun h2 => ?_, Nat.le_trans Y4.out.bel.size h1⟩
          · have := Y4.out.two.P.lt s h2; omega
          · have := Y4.out.two.D.lt s h2; omega)
        obtain ⟨wo, hwo⟩ : ∃ x, x = wr := ⟨_, rfl⟩
        clear ho5 hP5 hT5 f4 hll hm hwo wo
        go_wp2
        go_loopw [12] (fun kv wk => ∃ (k : Nat), kv = .int .i64 (k : Int) ∧ k ≤ m ∧ Hid (∃ xs, wk.ownsRow w4.heap.size 42 4 (.slice A m cc) m xs) ∧ Hid (BotI w wk p Sp' t St' (plI z0 (i + 1)))) (fun kv _ => m - (intOf kv).toNat)
        case atStart => exact ⟨0, rfl, Nat.zero_le _, HO5, Y5⟩
        case round =>
          obtain ⟨k, rfl, hk, hO, hYk⟩ := hrel
          have k1 : IntKind.i64.wrap ((k : Int) + 1) = (k : Int) + 1 := by rw [IntKind.wrap_i64]; omega
          by_cases hkm : k < m
          · have kI : (k : Int) < (m : Int) := by omega
            have k0 : (0 : Int) ≤ (k : Int) := by omega
            obtain ⟨xs, hxs⟩ := hO.out
            obtain ⟨gl, rfl⟩ := slice_some hxs (by omega)
            have hfr := own_frN hxs (k * 4 + 3)
            obtain ⟨u, hu⟩ : ∃ u, xs[k * 4 + 3]? = some u := ⟨_, List.getElem?_eq_getElem (by rw [hxs.1]; omega)⟩
            have hcu := own_cellN hxs hu
            have HN := Lib.hid (own_setN hxs (i := k * 4 + 3) (by omega) (.int .i64 77))
            have HYn := Lib.hid (hYk.out.tchO ((Tch.refl wr [gl]).set_ (p := ⟨gl, k * 4 + 3, none⟩) (by simp) (.int .i64 77)) (fun s hs => HNo.out s (by rw [List.mem_singleton.1 hs]; simp [obI, Value.ownBlock])))
            clear hxs hu
            go_wp2
            go_roundw
            case rel => exact ⟨k + 1, by go_num, hkm, Lib.hid ⟨_, HN.out⟩, HYn⟩
            case measure => simp [intOf]; omega
          · obtain rfl : k = m := by omega
            have kI : ¬ (k : Int) < (k : Int) := by omega
            clear hkm hk
            go_wp2
            go_roundw
            case rel => exact ⟨i + 1, Sp', St', by go_num, hlt, h60, hYk⟩
            case measure => simp [intOf]; omega
      · have i6 : ¬ (i : Int) < 60 := by omega
        go_wp2
        go_ret
        exact ⟨rfl, hY.out.bel⟩
    · have i1 : ¬ (i : Int) < (l0 : Int) := by omega
      have i1b : decide ((i : Int) < (l0 : Int)) = false := decide_eq_false i1
      go_wp2
      go_ret
      exact ⟨rfl, hY.out.bel⟩
set_option maxRecDepth 100000 in
theorem contract (H : Type) (enc : TypeId × Value → H) (W : World) (base : Nat) (args : Array Value) (ds gs : List (DataW H)) (before : List MemPlace)
    (hval0 : ∀ (j : Nat) t v, Try.f3.params[j]? = some t → args[j]? = some v → Value.okWide Try.prog W .any base t v)
    (hW : DataW.Whole enc Try.prog Try.f3.params.toList Rows.ifacePlaysSpec.vars false W args.toList ds gs before)
    (hsz0 : (DataW.weightsEach Try.prog (Try.f3.params.toList ++ Rows.ifacePlaysSpec.plain.varTypes Try.prog) (ds ++ gs)).all (· ≤ reachBytes) = true) :
    Calls Try.prog 3 args W fun e W' => ∃ v, e = .returned v ∧ Rows.ifacePlaysSpec.post enc Try.prog Try.f3 false true false false W args v W' := by
  have hsz := hsz0
  clear hsz0
  have hval := hval0
  clear hval0
  have hW' := hW
  obtain ⟨p, q, hA0, hV, rfl, hfz, hnd⟩ := hW
  have hA : DataW.TrodAll enc Try.prog W 0 (fun _ => true) true Try.f3.params.toList args.toList ds p := hA0
  rw [Try.params3] at hA hval hsz
  obtain ⟨v0, vs0, d0, ds0, p0, q0, hargs, rfl, rfl, h0, r0⟩ := trodAll_cons hA
  obtain ⟨rfl, rfl, rfl⟩ := trodAll_nil r0
  obtain rfl : args = #[v0] := by cases args; simp_all
  obtain ⟨rfl, rfl⟩ := trodVars_none hV
  obtain ⟨a0, l0, c0, rfl⟩ := okWide_slice Try.underlying22 (hval 0 22 v0 rfl rfl)
  have k0 := h0
  have lt0 : ∀ x ∈ p0, x.block < W.heap.size := by obtain ⟨m, hm⟩ := k0; exact DataW.trod_lt m _ _ _ hm
  obtain ⟨z0, w0⟩ := isStp_of h0
  clear hA0
  refine (walk W a0 l0 c0 z0 w0).mono fun e W' ⟨he, bel⟩ => ?_
  subst he
  exact ⟨_, rfl, _, _, _, [], _, [], hW', trodAll_mk1 (shut_bool Try.underlying4 _), (trodAll_cons_mk (Below.trod laidOut (by kernel_rfl) (of_decide_eq_true (by kernel_rfl)) k0 bel lt0) trodAll_mk0), rfl, bel.frame _, fun h => by cases h⟩

set_option maxRecDepth 100000 in
theorem lifted (os : Os) (started : os.Started) (H : Type) (enc : TypeId × Value → H) :
    ReturnsInHanded {} Try.checked os 3 .any (Rows.ifacePlaysSpec.pre6 enc Try.prog Try.f3 Rows.ifacePlaysRow.domain false) (Rows.ifacePlaysSpec.post enc Try.prog Try.f3 false true false false) := by
  refine returnsInHanded_of_change_sized (C := Try.checked) own started (by kernel_rfl) Try.func3
    (ChangeSpec.witness6 (enc := enc) (C := Try.checked) false ⟨#[], #[.slice none 0 0], []⟩ 8 (by kernel_rfl) (by kernel_rfl) (by kernel_rfl) (by kernel_rfl)) ?_
  intro W base args ds gs before hval hW _ hsz _
  exact contract H enc W base args ds gs before hval hW hsz

theorem over : Rows.ifacePlaysRow.holds Try.pinned (OpenSpec.ofChange Rows.ifacePlaysSpec) :=
  OpenClaim.holds_of_wide 3 Try.f3 rfl rfl rfl rfl rfl rfl rfl ⟨rfl, rfl, rfl, rfl, rfl⟩ rfl rfl rfl rfl rfl (by kernel_rfl) Try.func3 (by kernel_rfl)
    (of_decide_eq_true (by kernel_rfl)) (by unfold Func.isWrapper; first | (rw [if_pos (by decide +kernel)]; kernel_rfl) | (rw [if_neg (by decide +kernel)]; exact ⟨rfl, rfl⟩))
    (fun os started H enc _ => lifted os started H enc)

theorem proved : Rows.IfacePlaysSaid := over
#print axioms proved
