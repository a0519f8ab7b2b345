/-
  What is proved: the sum and the check of any parts are the document's own over all of them laid end to end, and the parts stay; the call returns true, and leaves its argument alone. The condition is the given second form's: the parts together hold at most 1048576 values.
-/
import Derived.Test.YtelkjcgfielbpaaTAwake
import Derived.Test.YtelkjcgfielbpaaIsRows
namespace Go.Proofs.Ytelkjcgfielbpaa.Sums
open Go.ChangeShapes Go.WideShapes Go.ChangeAt Go.RowKit
open Go.Proofs.Ytelkjcgfielbpaa
set_option linter.unusedVariables false

theorem IsRows.rs {w w' : World} {a : Option Addr} {l c : Nat} {z : List (List Int)} (h : IsRows .u8 w a l c z) (hb : Below w.heap.size w w') : RS w' a l z := by
  refine ⟨h.1, fun h0 => ?_⟩
  obtain ⟨b, o, e, hbl, hc⟩ := h.2.2.2 h0
  refine ⟨b, o, e, fun j zs hj => ?_⟩
  obtain ⟨A, n, cc, h1, h2, _⟩ := hc j zs hj
  exact ⟨A, n, cc, w.heap.size, (hb.cell (p := ⟨b, o + j, none⟩) hbl).trans h1, h2.below hb⟩
theorem IsRows.at_ {w w' : World} {a : Option Addr} {l c j : Nat} {z : List (List Int)} (h : IsRows .u8 w a l c z) (hb : Below w.heap.size w w') (hj : j < l) :
    ∃ b o zs A n cc, a = some ⟨b, o, none⟩ ∧ z[j]? = some zs ∧ w'.cell? ⟨b, o + j, none⟩ = some (.slice A n cc) ∧ RI .u8 w' w.heap.size A n zs ∧ (A = none → cc = 0) := by
  obtain ⟨b, o, e, hbl, hc⟩ := h.2.2.2 (by omega)
  have hl : j < z.length := by have := h.1; omega
  obtain ⟨A, n, cc, h1, h2, h3, _⟩ := hc j _ (List.getElem?_eq_getElem hl)
  exact ⟨b, o, _, A, n, cc, e, List.getElem?_eq_getElem hl, (hb.cell (p := ⟨b, o + j, none⟩) hbl).trans h1, h2.below hb, h3⟩

theorem pre_own {w : World} {base j n : Nat} {v : Value} {z : List (List Int)} {zs : List Int} (hz : z[j]? = some zs) (hn : zs.length = n) (h : w.ownsRow base 5 1 v ((pre z j).length + n) ((pre z j ++ zs).map (Value.int .u8))) :
    w.ownsRow base 5 1 v (pre z (j + 1)).length ((pre z (j + 1)).map (Value.int .u8)) := by
  rw [pre_step hz, List.length_append, hn]; exact h

set_option maxHeartbeats 1000000 in
theorem walk (w : World) (a0 : Option Addr) (l0 c0 : Nat) (z0 : List (List Int)) (w0 : IsRows .u8 w a0 l0 c0 z0) (u0 : l0 ≤ 1048576 ∧ z0.flatten.length ≤ 1048576) :
    Calls Try.prog 3 #[.slice a0 l0 c0] w fun e w' => e = .returned (.bool true) ∧ Below w.heap.size w w' := by
  obtain ⟨u1, u2⟩ := u0
  have HW := Lib.hid w0
  have hl0 : l0 ≤ c0 := w0.2.2.1
  clear w0
  go_enter Try.func3, Try.ntmps3
  go_wp2_with fail
  refine (tawake_yes _).mono ?_
  rintro e w1 ⟨rfl, hB1⟩
  go_wp2_with fail
  go_loopw [4, 5] (fun v i wr => ∃ j : Nat, j ≤ l0 ∧ i = .int .i64 j ∧ wr.ownsRow w.heap.size 5 1 v (pre z0 j).length ((pre z0 j).map (Value.int .u8)) ∧ Below w.heap.size w wr) (fun _ i _ => l0 - (intOf i).toNat)
  case atStart => exact ⟨0, Nat.zero_le _, rfl, ⟨by simp [pre], .inl ⟨rfl, rfl⟩⟩, hB1⟩
  case round =>
    obtain ⟨j, hj, rfl, hown, hbel⟩ := hrel
    by_cases hlt : j < l0
    · obtain ⟨b, o, zs, A, n, cc, rfl, hz, hcell, hri, hA⟩ := IsRows.at_ HW.out hbel hlt
      have hji : (j : Int) < l0 := by omega
      have hln := pre_len z0 (j + 1)
      rw [pre_step hz, List.length_append, hri.1] at hln
      obtain ⟨N, hN⟩ : ∃ N, N = (pre z0 j).length := ⟨_, rfl⟩
      rw [← hN] at hln hown
      have HN := Lib.hid hN
      have HO := Lib.hid hown
      have HRI := Lib.hid hri
      have HZ := Lib.hid hz
      have HAA := Lib.hid hA
      clear hown hri hz hA hN
      go_wp2_with (at_builtin; refine wpList_app _ rfl (.tmp 18) (.tmp 22) rfl w.heap.size u4 N (pre z0 j) rfl HO.out w.heap.size A n cc zs rfl HAA.out HRI.out (by omega) hbel.size ?_; intro v2 w2 hown2 hg2 hat2; have HO2 := Lib.hid hown2; have HB2 : Below w.heap.size w w2 := hbel.grown hg2 hbel.size (own_basek HO.out); clear hown2 hg2 hat2)
      go_roundw
      case rel => exact ⟨j + 1, by omega, by go_num, pre_own HZ.out HRI.out.1 (by have := HO2.out; rwa [HN.out] at this), HB2⟩
      case measure => simp [intOf]; omega
    · obtain rfl : j = l0 := by omega
      rw [pre_all HW.out.1] at hown
      have hF : Bys z0.flatten := by have := (IsRows.rs HW.out (Below.refl _ _)).bys j; rwa [pre_all HW.out.1] at this
      obtain ⟨F, hFF⟩ : ∃ F, F = z0.flatten := ⟨_, rfl⟩
      rw [← hFF] at hown hF u2
      have hHF := Lib.hid hFF
      obtain ⟨A4, c4, rfl, hr4, hA4, _, hn4, hc4⟩ := own_ri (fun t ht => wf_u8 (hF t ht)) hown
      obtain ⟨w4, hw4⟩ : ∃ w4, w4 = wr := ⟨_, rfl⟩
      subst hw4
      have HR4 := Lib.hid hr4
      have S1 := sum_any w4 a0 j c0 z0 (IsRows.rs HW.out hbel) (by omega) (by rw [← hFF]; omega)
      have S2 := check_any w4 a0 j c0 z0 (IsRows.rs HW.out hbel) (by omega) (by rw [← hFF]; omega)
      rw [← hFF] at S1 S2
      obtain ⟨S, hS⟩ : ∃ S, S = fo (tot 0 F) := ⟨_, rfl⟩
      rw [← hS] at S1 S2
      have HS := Lib.hid hS
      have hSb : W16 S := by rw [hS]; exact W16.fo (tot_nonneg hF 0)
      obtain ⟨C, hC⟩ : ∃ C, C = 65535 - S := ⟨_, rfl⟩
      rw [← hC] at S2
      have HC := Lib.hid hC
      have HS1 := Lib.hid S1
      have HS2 := Lib.hid S2
      have HA4 := Lib.hid hA4
      obtain ⟨N, hN⟩ : ∃ N, N = F.length := ⟨_, rfl⟩
      rw [← hN] at u2
      have HN := Lib.hid hN
      rw [← hN]
      clear hown hr4 S1 S2 hS hC hFF hF hA4 hN hlt
      go_wp2_with fail
      refine Calls.mono HS1.out ?_
      rintro e w' ⟨rfl, rfl⟩
      go_wp2_with fail
      refine Calls.mono HS2.out ?_
      rintro e w' ⟨rfl, rfl⟩
      clear HS1 HS2
      go_wp2_with fail
      go_loopw [8, 9] (fun v i w5 => ∃ j' : Nat, j' ≤ j ∧ i = .int .i64 j' ∧ w5.ownsRow w4.heap.size 5 1 v (pre z0 j').length ((pre z0 j').map (Value.int .u8)) ∧ Below w4.heap.size w4 w5) (fun _ i _ => j - (intOf i).toNat)
      case atStart => exact ⟨0, Nat.zero_le _, rfl, ⟨by simp [pre], .inl ⟨rfl, rfl⟩⟩, Below.refl _ _⟩
      case round =>
        obtain ⟨i, hi, rfl, hown, hb5⟩ := hrel
        have hsz := hbel.size
        have hbel5 : Below w.heap.size w wr := hbel.trans (hb5.mono hbel.size)
        by_cases hlt : i < j
        · obtain ⟨b, o, zs, A, n, cc, rfl, hz, hcell, hri, hA⟩ := IsRows.at_ HW.out hbel5 hlt
          have hji : (i : Int) < j := by omega
          have hln := pre_len z0 (i + 1)
          rw [pre_step hz, List.length_append, hri.1, ← hHF.out, ← HN.out] at hln
          obtain ⟨M, hM⟩ : ∃ M, M = (pre z0 i).length := ⟨_, rfl⟩
          rw [← hM] at hln hown
          have HM := Lib.hid hM
          have HO := Lib.hid hown
          have HRI := Lib.hid hri
          have HZ := Lib.hid hz
          have HAA := Lib.hid hA
          clear hown hri hz hA hM
          go_wp2_with (at_builtin; refine wpList_app _ rfl (.tmp 34) (.tmp 38) rfl w4.heap.size u8 M (pre z0 i) rfl HO.out w.heap.size A n cc zs rfl HAA.out HRI.out (by omega) hb5.size ?_; intro v2 w2 hown2 hg2 hat2; have HO2 := Lib.hid hown2; have HB2 : Below w4.heap.size w4 w2 := hb5.grown hg2 hb5.size (own_basek HO.out); clear hown2 hg2 hat2)
          go_roundw
          case rel => exact ⟨i + 1, by omega, by go_num, pre_own HZ.out HRI.out.1 (by have := HO2.out; rwa [HM.out] at this), HB2⟩
          case measure => simp [intOf]; omega
        · obtain rfl : i = j := by omega
          rw [pre_all HW.out.1, ← hHF.out, ← HN.out] at hown
          have hF : Bys F := HR4.out.by_.bys
          obtain ⟨A8, c8, rfl, hr8, hA8, _, hn8, hc8⟩ := own_ri (fun t ht => wf_u8 (hF t ht)) hown
          have hr5 := HR4.out.below hb5
          have HR5 := Lib.hid hr5
          have HR8 := Lib.hid hr8
          have hs5 := hb5.size
          obtain ⟨w5, hw5⟩ : ∃ w5, w5 = wr := ⟨_, rfl⟩
          subst hw5
          clear hown hF hr8 hr5 hA8
          go_wp2_with fail
          go_loopw [10] (fun q w6 => ∃ j' : Nat, j' ≤ N ∧ q = .int .i64 j' ∧ ∃ m, w6 = w5.drewN m) (fun q _ => N - (intOf q).toNat)
          case atStart => exact ⟨0, Nat.zero_le _, rfl, 0, rfl⟩
          case round =>
            obtain ⟨q, hq, rfl, m, rfl⟩ := hrel
            by_cases hqn : q < N
            · obtain ⟨b, o, x, rfl, hb, hz1, hzw, hcell⟩ := HR5.out.at_ (j := q) (by have := HN.out; omega)
              obtain ⟨b', o', x', rfl, hb', hz1', hzw', hcell'⟩ := HR8.out.at_ (j := q) (by omega)
              obtain rfl : x = x' := by rw [hz1] at hz1'; injection hz1'
              clear hz1 hz1'
              have h1 : (q : Int) < N := by omega
              go_wp2
              go_quiet (fail)
              go_wp2
              go_roundw
              case rel => exact ⟨q + 1, by omega, by go_num, _, rfl⟩
              case measure => simp [intOf]; omega
            · obtain rfl : q = N := by omega
              obtain ⟨w6, hw6⟩ : ∃ w6, w6 = w5.drewN m := ⟨_, rfl⟩
              rw [← hw6]
              have hB6 : Below w.heap.size w w6 := by rw [hw6]; exact below_drewN hbel5 m
              have hr6 : RI .u8 w6 w4.heap.size A4 q F := by have := HR5.out; rw [← HN.out] at this; rw [hw6]; exact this
              have hs6 : w4.heap.size ≤ w6.heap.size := by rw [hw6]; exact hs5
              have S3 := refSum_any w6 w4.heap.size A4 q c4 F hr6 hs6 (by omega)
              rw [← HS.out] at S3
              have HS3 := Lib.hid S3
              have HR6 := Lib.hid hr6
              clear hw6 S3 hr6
              go_wp2_with fail
              refine Calls.mono HS3.out ?_
              rintro e w7 ⟨rfl, hB7⟩
              have hB07 : Below w.heap.size w w7 := hB6.trans (hB7.mono hB6.size)
              have S4 := refCheck_any w7 w4.heap.size A4 q c4 F (HR6.out.keep (fun p hp => hB7.cell (by omega))) (by have := hB7.size; omega) (by omega)
              rw [← HS.out, ← HC.out] at S4
              have HS4 := Lib.hid S4
              clear S4 hB7 HS3
              go_wp2_with fail
              refine Calls.mono HS4.out ?_
              rintro e w8 ⟨rfl, hB8⟩
              go_wp2
              go_ret
              exact ⟨rfl, hB07.trans (hB8.mono hB07.size)⟩

set_option maxRecDepth 100000 in
theorem contract (H : Type) (enc : TypeId × Value → H) (W : World) (base : Nat) (args : Array Value) (ds gs : List (DataW H)) (before : List MemPlace)
    (hval0 : ∀ (j : Nat) t v, Try.f3.params[j]? = some t → args[j]? = some v → Value.okWide Try.prog W .any base t v)
    (hW : DataW.Whole enc Try.prog Try.f3.params.toList Rows.tallySumsSpec.vars false W args.toList ds gs before)
    (hsz0 : (DataW.weightsEach Try.prog (Try.f3.params.toList ++ Rows.tallySumsSpec.plain.varTypes Try.prog) (ds ++ gs)).all (· ≤ reachBytes) = true) (hk : Rows.uptoSmall H (ds ++ gs) = true) :
    Calls Try.prog 3 args W fun e W' => ∃ v, e = .returned v ∧ Rows.tallySumsSpec.post enc Try.prog Try.f3 false true false false W args v W' := by
  have hsz := hsz0
  clear hsz0
  have hval := hval0
  clear hval0
  have hW' := hW
  obtain ⟨p, q, hA0, hV, rfl, hfz, hnd⟩ := hW
  have hA : DataW.TrodAll enc Try.prog W 0 (fun _ => true) true Try.f3.params.toList args.toList ds p := hA0
  rw [Try.params3] at hA hval hsz
  obtain ⟨v0, vs0, d0, ds0, p0, q0, hargs, rfl, rfl, h0, r0⟩ := trodAll_cons hA
  obtain ⟨rfl, rfl, rfl⟩ := trodAll_nil r0
  obtain rfl : args = #[v0] := by cases args; simp_all
  obtain ⟨rfl, rfl⟩ := trodVars_none hV
  obtain ⟨a0, l0, c0, rfl⟩ := okWide_slice Try.underlying22 (hval 0 22 v0 rfl rfl)
  have k0 := h0
  have lt0 : ∀ x ∈ p0, x.block < W.heap.size := by obtain ⟨m, hm⟩ := k0; exact DataW.trod_lt m _ _ _ hm
  obtain ⟨z0, w0, bk0⟩ := isRows_of Try.underlying22 Try.underlying24 Try.underlying5 (by kernel_rfl) (by kernel_rfl) h0
  have u0 : l0 ≤ 1048576 ∧ z0.flatten.length ≤ 1048576 := by have h1 := bulk_le hk (d := d0) (by simp); omega
  clear hA0
  refine (walk W a0 l0 c0 z0 w0 u0).mono fun e W' ⟨he, bel⟩ => ?_
  subst he
  exact ⟨_, rfl, _, _, _, [], _, [], hW', trodAll_mk1 (shut_bool Try.underlying4 _), (trodAll_cons_mk (Below.trod laidOut (by kernel_rfl) (of_decide_eq_true (by kernel_rfl)) k0 bel lt0) trodAll_mk0), rfl, bel.frame _, fun h => by cases h⟩

set_option maxRecDepth 100000 in
theorem lifted (os : Os) (started : os.Started) (H : Type) (enc : TypeId × Value → H) (F : Stop.Interp) :
    ReturnsInHanded {} Try.checked os 3 .any ((Rows.OpenSpec.upto Rows.tallySumsSpec).pre6 enc Try.prog Try.f3 Rows.tallySumsUptoRow.domain false) (((Rows.OpenSpec.upto Rows.tallySumsSpec).at F).post enc Try.prog Try.f3 false true false false) := by
  refine returnsInHanded_of_cond_sized (C := Try.checked) (s := Rows.OpenSpec.upto Rows.tallySumsSpec) (k := Rows.uptoSmall) rfl own started (by kernel_rfl) Try.func3
    (OpenSpec.witness (enc := enc) (C := Try.checked) (s := Rows.OpenSpec.upto Rows.tallySumsSpec) (k := Rows.uptoSmall) rfl false ⟨#[], #[.slice none 0 0], []⟩ 8 (by kernel_rfl) (by kernel_rfl) (by kernel_rfl)
      (x := ([.nil], [], [])) (by kernel_rfl) rfl (by kernel_rfl)) ?_
  intro W base args ds gs before hval hW _ hk hsz _
  exact contract H enc W base args ds gs before hval hW hsz hk

theorem over : Rows.tallySumsUptoRow.holds Try.pinned (Rows.OpenSpec.upto Rows.tallySumsSpec) :=
  OpenClaim.holds_of_cond 3 Try.f3 rfl rfl rfl rfl rfl rfl rfl ⟨rfl, rfl, rfl, rfl, rfl⟩ rfl rfl rfl rfl rfl (by kernel_rfl) Try.func3 (by kernel_rfl)
    (of_decide_eq_true (by kernel_rfl)) (by unfold Func.isWrapper; first | (rw [if_pos (by decide +kernel)]; kernel_rfl) | (rw [if_neg (by decide +kernel)]; exact ⟨rfl, rfl⟩))
    (fun os started H enc _ F => lifted os started H enc F)

theorem proved : Rows.TallySumsUptoSaid := over
#print axioms proved
end Go.Proofs.Ytelkjcgfielbpaa.Sums
