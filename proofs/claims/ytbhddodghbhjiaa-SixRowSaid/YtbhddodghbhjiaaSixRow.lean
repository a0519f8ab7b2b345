/-
  G6: further headers stand one behind the other without a gap, each where the one ahead of it ends; with more bytes behind they stay: for every number and texts.
-/
import Derived.Test.YtbhddodghbhjiaaSAw
import Derived.Test.YtbhddodghbhjiaaFrame
namespace Go.Proofs.Ytbhddodghbhjiaa.Row
open Go.ChangeShapes Go.WideShapes Go.ChangeAt Go.RowKit
set_option linter.unusedVariables false

set_option maxRecDepth 100000 in
set_option maxHeartbeats 16000000 in
theorem walk (w : World) (a0 : Int) (w0 : (Lit.int .i64 a0).wf = true) (a1 : ByteArray) (w1 : a1.size ≤ maxLen) (s1 : a1.size < 140737488355328) (a2 : ByteArray) (w2 : a2.size ≤ maxLen) :
    Calls Try.prog 9 #[.int .i64 a0, .string a1, .string a2] w fun e w' => e = .returned (.bool true) ∧ Below w.heap.size w w' := by
  have HA := Lib.hid (fun W => sawake_yes W)
  have HC := Lib.hid (fun W => schain_any a0 a1 (by omega) W)
  have HH := Lib.hid (fun W => shead_any a0 a1 (by omega) W)
  by_cases he : (chS a1 16 a0 0).e = 0
  · obtain ⟨B, hB⟩ : ∃ B : ByteArray, (5000 < a2.size ∧ B = a2.extract 0 5000) ∨ (a2.size ≤ 5000 ∧ B = a2) := by
      by_cases h : 5000 < a2.size
      · exact ⟨_, .inl ⟨h, rfl⟩⟩
      · exact ⟨_, .inr ⟨by omega, rfl⟩⟩
    have hBs : B.size ≤ 5000 := by
      rcases hB with ⟨h, rfl⟩ | ⟨h, rfl⟩
      · rw [ByteArray.size_extract]; omega
      · exact h
    have HC2 := Lib.hid (fun W => schain_any a0 (a1 ++ B) (by rw [ByteArray.size_append]; omega) W)
    have hX : chS a1 16 a0 0 = ⟨(chS a1 16 a0 0).l, (chS a1 16 a0 0).n, (chS a1 16 a0 0).t, 0⟩ := by rw [← he]
    obtain ⟨l, hl⟩ : ∃ l, (chS a1 16 a0 0).l = l := ⟨_, rfl⟩
    obtain ⟨n, hn⟩ : ∃ n, (chS a1 16 a0 0).n = n := ⟨_, rfl⟩
    obtain ⟨t, ht⟩ : ∃ t, (chS a1 16 a0 0).t = t := ⟨_, rfl⟩
    rw [hl, hn, ht] at hX
    rw [chS_more hX] at HC2
    rw [hX] at HC HH
    have hm16 := (chS_len hX).1
    have hhd := hdX_le 0 hX (Nat.le_refl _)
    replace HH : Hid (∀ W : World, Calls Try.prog 25 #[.int .i64 a0, .string a1] W fun e w' => e = .returned (.int .i64 (hdX l 0 : Int)) ∧ Below W.heap.size W w') := HH
    obtain ⟨HD, hHD⟩ : ∃ x, hdX l 0 = x := ⟨_, rfl⟩
    rw [hHD] at HH hhd
    replace HC : Hid (∀ W : World, Calls Try.prog 22 #[.int .i64 a0, .string a1] W fun e w' => ∃ v, e = .returned (.tuple #[v, .int .i64 n, .int .i64 (t : Int), .int .i64 0]) ∧ w'.ownsRow W.heap.size 45 3 v l.length (ecells l) ∧ Below W.heap.size W w') := HC
    replace HC2 : Hid (∀ W : World, Calls Try.prog 22 #[.int .i64 a0, .string (a1 ++ B)] W fun e w' => ∃ v, e = .returned (.tuple #[v, .int .i64 n, .int .i64 (t : Int), .int .i64 0]) ∧ w'.ownsRow W.heap.size 45 3 v l.length (ecells l) ∧ Below W.heap.size W w') := HC2
    have HX := Lib.hid hX
    have hadd : ∀ W : World, (Op.stringOp .add a1 B).run Try.prog W = .ok (.string (a1 ++ B)) W := fun W => run_string_add_sum _ _ _ (by omega)
    obtain ⟨m, hm⟩ : ∃ m, l.length = m := ⟨_, rfl⟩
    rw [hm] at HC HC2 hm16
    have HN := Lib.hid hm
    have HM16 := Lib.hid hm16
    have hmI : (m : Int) ≤ 16 := by omega
    have hhdI : (HD : Int) ≤ (t : Int) := by omega
    have hhd0 : (0 : Int) ≤ (HD : Int) := by omega
    clear he hX hl hn ht hm hhd hHD hBs hm16
    rcases hB with ⟨hb0, hb2⟩ | ⟨hb0, rfl⟩
    · have j1 : (5000 : Int) < a2.size := by omega
      have j2 : a2.extract 0 5000 = B := hb2.symm
      have j3 : (5000 : Int) ≤ a2.size := by omega
      clear hb0 hb2 w1 w2
      go_enter Try.func9, Try.ntmps9
      go_wp2_with fail
      refine Calls.mono (HA.out _) ?_
      rintro e w1 ⟨rfl, hb⟩
      have L1 := Lib.hid hb
      clear hb
      go_wp2_with fail
      refine Calls.mono (HC.out _) ?_
      rintro e w2 ⟨v, rfl, hown, hb⟩
      have L2 := Lib.hid (L1.out.trans (hb.mono L1.out.size))
      obtain ⟨A, c, rfl, hrx, -⟩ := own_rx HN.out hown
      have R2 := Lib.hid hrx
      clear hb hown hrx
      go_wp2_with fail
      go_loopw [12, 13, 14] (fun nv pv iv wr => ∃ (j : Nat) (nx : Int) (p : Nat), j ≤ m ∧ iv = .int .i64 (j : Int) ∧ nv = .int .i64 nx ∧ pv = .int .i64 (p : Int) ∧ Hid ((∃ q, wr = w2.drewN q) ∧ chS a1 (16 - j) nx p = ⟨l.drop j, n, t, 0⟩)) (fun _ _ iv _ => m - (intOf iv).toNat)
      case atStart => exact ⟨0, a0, 0, Nat.zero_le _, rfl, rfl, rfl, Lib.hid ⟨⟨0, rfl⟩, HX.out⟩⟩
      case round =>
        obtain ⟨j, nx, p, hj, rfl, rfl, rfl, hh⟩ := hrel
        obtain ⟨⟨q, rfl⟩, hch⟩ := hh.out
        by_cases hlt : j < m
        · have hji : (j : Int) < m := by omega
          obtain ⟨b, rfl, hlb, hc⟩ := R2.out.2 (by omega)
          obtain ⟨x, hx⟩ : ∃ x, l[j]? = some x := ⟨_, List.getElem?_eq_getElem (by rw [HN.out]; exact hlt)⟩
          obtain ⟨p1, p2, p3⟩ := hc j x hx
          have hd : l.drop j = x :: l.drop (j + 1) := by
            obtain ⟨hk, e1⟩ := List.getElem?_eq_some_iff.1 hx
            rw [List.drop_eq_getElem_cons hk, e1]
          rw [hd] at hch
          obtain ⟨hfu, rfl, hle, k', hk', hch2⟩ := chS_next hch
          have hge := szX_ge a1 nx p
          have hmo := szX_mod a1 nx p
          obtain ⟨Z, hZ⟩ : ∃ Z, szX a1 nx p = Z := ⟨_, rfl⟩
          simp only [hZ] at p1 p2 p3
          rw [hZ] at hle hge hmo hch2
          have hkk : k' = 16 - (j + 1) := by omega
          subst hkk
          have hplt : p < a1.size := by omega
          have hby := bA_at a1 p hplt
          have hN2 := bA_lt a1 p
          obtain ⟨N, hN⟩ : ∃ N, bA a1 p = N := ⟨_, rfl⟩
          rw [hN] at hby hN2 hch2
          have HCH := Lib.hid hch2
          have r1 : ∀ k, (w2.drewN k).cell? ⟨b, j * 3, none⟩ = some (.int .i64 nx) := fun _ => p1
          have r2 : ∀ k, (w2.drewN k).cell? ⟨b, j * 3 + 1, none⟩ = some (.int .i64 (p : Int)) := fun _ => p2
          have r3 : ∀ k, (w2.drewN k).cell? ⟨b, j * 3 + 2, none⟩ = some (.int .i64 (Z : Int)) := fun _ => p3
          have hN3 : (N : Int) ≤ 255 := by omega
          have g1 : ¬ (Z : Int) < 8 := by omega
          have g2 : Int.tmod (Z : Int) 8 = 0 := by rw [Int.tmod_eq_emod_of_nonneg (by omega)]; omega
          have g3 : ¬ (a1.size : Int) < (p : Int) + (Z : Int) := by omega
          have g4 : (p : Int) < a1.size := by omega
          have g5 : (p : Int) + (Z : Int) ≤ 9223372036854775807 := by omega
          have g6 : (Z : Int) % 8 = 0 := by omega
          have g7 : IntKind.i64.wrap ((p : Int) + (Z : Int)) = (p : Int) + (Z : Int) := by rw [IntKind.wrap_i64]; omega
          clear hc hx p1 p2 p3 hd hch hfu hle hk' hch2 hge hmo hZ hN hh hN2
          go_wp2
          go_quiet (fail)
          go_wp2
          go_roundw
          case rel => exact ⟨j + 1, _, p + Z, hlt, by go_num, rfl, rfl, Lib.hid ⟨⟨_, rfl⟩, HCH.out⟩⟩
          case measure => simp [intOf]; omega
        · obtain rfl : j = m := by omega
          rw [List.drop_eq_nil_of_le (by rw [HN.out]; exact Nat.le_refl _)] at hch
          obtain ⟨-, e1, e2⟩ := chS_none hch
          subst e1 e2
          have L3 := Lib.hid (below_drewN L2.out q)
          have R3 : Hid (RX (w2.drewN q) A j l) := Lib.hid R2.out
          clear hch hh
          go_wp2_with fail
          refine Calls.mono (HC2.out _) ?_
          rintro e w4 ⟨v4, rfl, hown, hb⟩
          have L4 := Lib.hid (L3.out.trans (hb.mono L3.out.size))
          have R4 := Lib.hid (R3.out.below hb)
          obtain ⟨A4, c4, rfl, hrx4, -⟩ := own_rx HN.out hown
          have Q4 := Lib.hid hrx4
          clear hb hown hrx4
          go_wp2_with fail
          refine Calls.mono (HH.out _) ?_
          rintro e w5 ⟨rfl, hb⟩
          have L5 := Lib.hid (L4.out.trans (hb.mono L4.out.size))
          have R5 := Lib.hid (R4.out.below hb)
          have Q5 := Lib.hid (Q4.out.below hb)
          clear hb
          have HSm := Lib.hid (ssame_yes A A4 j c c4 l HM16.out w5 R5.out Q5.out)
          go_wp2_with fail
          refine Calls.mono HSm.out ?_
          rintro e w6 ⟨rfl, q6, rfl⟩
          have L6 := Lib.hid (below_drewN L5.out q6)
          go_wp2
          go_ret
          exact ⟨ret_bool (by simp), L6.out⟩
    · have j1 : ¬ (5000 : Int) < B.size := by omega
      clear hb0 w1 w2
      go_enter Try.func9, Try.ntmps9
      go_wp2_with fail
      refine Calls.mono (HA.out _) ?_
      rintro e w1 ⟨rfl, hb⟩
      have L1 := Lib.hid hb
      clear hb
      go_wp2_with fail
      refine Calls.mono (HC.out _) ?_
      rintro e w2 ⟨v, rfl, hown, hb⟩
      have L2 := Lib.hid (L1.out.trans (hb.mono L1.out.size))
      obtain ⟨A, c, rfl, hrx, -⟩ := own_rx HN.out hown
      have R2 := Lib.hid hrx
      clear hb hown hrx
      go_wp2_with fail
      go_loopw [12, 13, 14] (fun nv pv iv wr => ∃ (j : Nat) (nx : Int) (p : Nat), j ≤ m ∧ iv = .int .i64 (j : Int) ∧ nv = .int .i64 nx ∧ pv = .int .i64 (p : Int) ∧ Hid ((∃ q, wr = w2.drewN q) ∧ chS a1 (16 - j) nx p = ⟨l.drop j, n, t, 0⟩)) (fun _ _ iv _ => m - (intOf iv).toNat)
      case atStart => exact ⟨0, a0, 0, Nat.zero_le _, rfl, rfl, rfl, Lib.hid ⟨⟨0, rfl⟩, HX.out⟩⟩
      case round =>
        obtain ⟨j, nx, p, hj, rfl, rfl, rfl, hh⟩ := hrel
        obtain ⟨⟨q, rfl⟩, hch⟩ := hh.out
        by_cases hlt : j < m
        · have hji : (j : Int) < m := by omega
          obtain ⟨b, rfl, hlb, hc⟩ := R2.out.2 (by omega)
          obtain ⟨x, hx⟩ : ∃ x, l[j]? = some x := ⟨_, List.getElem?_eq_getElem (by rw [HN.out]; exact hlt)⟩
          obtain ⟨p1, p2, p3⟩ := hc j x hx
          have hd : l.drop j = x :: l.drop (j + 1) := by
            obtain ⟨hk, e1⟩ := List.getElem?_eq_some_iff.1 hx
            rw [List.drop_eq_getElem_cons hk, e1]
          rw [hd] at hch
          obtain ⟨hfu, rfl, hle, k', hk', hch2⟩ := chS_next hch
          have hge := szX_ge a1 nx p
          have hmo := szX_mod a1 nx p
          obtain ⟨Z, hZ⟩ : ∃ Z, szX a1 nx p = Z := ⟨_, rfl⟩
          simp only [hZ] at p1 p2 p3
          rw [hZ] at hle hge hmo hch2
          have hkk : k' = 16 - (j + 1) := by omega
          subst hkk
          have hplt : p < a1.size := by omega
          have hby := bA_at a1 p hplt
          have hN2 := bA_lt a1 p
          obtain ⟨N, hN⟩ : ∃ N, bA a1 p = N := ⟨_, rfl⟩
          rw [hN] at hby hN2 hch2
          have HCH := Lib.hid hch2
          have r1 : ∀ k, (w2.drewN k).cell? ⟨b, j * 3, none⟩ = some (.int .i64 nx) := fun _ => p1
          have r2 : ∀ k, (w2.drewN k).cell? ⟨b, j * 3 + 1, none⟩ = some (.int .i64 (p : Int)) := fun _ => p2
          have r3 : ∀ k, (w2.drewN k).cell? ⟨b, j * 3 + 2, none⟩ = some (.int .i64 (Z : Int)) := fun _ => p3
          have hN3 : (N : Int) ≤ 255 := by omega
          have g1 : ¬ (Z : Int) < 8 := by omega
          have g2 : Int.tmod (Z : Int) 8 = 0 := by rw [Int.tmod_eq_emod_of_nonneg (by omega)]; omega
          have g3 : ¬ (a1.size : Int) < (p : Int) + (Z : Int) := by omega
          have g4 : (p : Int) < a1.size := by omega
          have g5 : (p : Int) + (Z : Int) ≤ 9223372036854775807 := by omega
          have g6 : (Z : Int) % 8 = 0 := by omega
          have g7 : IntKind.i64.wrap ((p : Int) + (Z : Int)) = (p : Int) + (Z : Int) := by rw [IntKind.wrap_i64]; omega
          clear hc hx p1 p2 p3 hd hch hfu hle hk' hch2 hge hmo hZ hN hh hN2
          go_wp2
          go_quiet (fail)
          go_wp2
          go_roundw
          case rel => exact ⟨j + 1, _, p + Z, hlt, by go_num, rfl, rfl, Lib.hid ⟨⟨_, rfl⟩, HCH.out⟩⟩
          case measure => simp [intOf]; omega
        · obtain rfl : j = m := by omega
          rw [List.drop_eq_nil_of_le (by rw [HN.out]; exact Nat.le_refl _)] at hch
          obtain ⟨-, e1, e2⟩ := chS_none hch
          subst e1 e2
          have L3 := Lib.hid (below_drewN L2.out q)
          have R3 : Hid (RX (w2.drewN q) A j l) := Lib.hid R2.out
          clear hch hh
          go_wp2_with fail
          refine Calls.mono (HC2.out _) ?_
          rintro e w4 ⟨v4, rfl, hown, hb⟩
          have L4 := Lib.hid (L3.out.trans (hb.mono L3.out.size))
          have R4 := Lib.hid (R3.out.below hb)
          obtain ⟨A4, c4, rfl, hrx4, -⟩ := own_rx HN.out hown
          have Q4 := Lib.hid hrx4
          clear hb hown hrx4
          go_wp2_with fail
          refine Calls.mono (HH.out _) ?_
          rintro e w5 ⟨rfl, hb⟩
          have L5 := Lib.hid (L4.out.trans (hb.mono L4.out.size))
          have R5 := Lib.hid (R4.out.below hb)
          have Q5 := Lib.hid (Q4.out.below hb)
          clear hb
          have HSm := Lib.hid (ssame_yes A A4 j c c4 l HM16.out w5 R5.out Q5.out)
          go_wp2_with fail
          refine Calls.mono HSm.out ?_
          rintro e w6 ⟨rfl, q6, rfl⟩
          have L6 := Lib.hid (below_drewN L5.out q6)
          go_wp2
          go_ret
          exact ⟨ret_bool (by simp), L6.out⟩
  · have hX := chS_bad he
    obtain ⟨E, hE⟩ : ∃ E, (chS a1 16 a0 0).e = E := ⟨_, rfl⟩
    rw [hE] at he hX
    rw [hX] at HC HH
    have hE0 : (E == 0) = false := by simpa using he
    replace HH : Hid (∀ W : World, Calls Try.prog 25 #[.int .i64 a0, .string a1] W fun e w' => e = .returned (.int .i64 0) ∧ Below W.heap.size W w') := HH
    replace HC : Hid (∀ W : World, Calls Try.prog 22 #[.int .i64 a0, .string a1] W fun e w' => ∃ v, e = .returned (.tuple #[v, .int .i64 0, .int .i64 0, .int .i64 E]) ∧ w'.ownsRow W.heap.size 45 3 v 0 [] ∧ Below W.heap.size W w') := HC
    clear he hE hX
    by_cases hb0 : 5000 < a2.size
    · have j1 : (5000 : Int) < a2.size := by omega
      have j3 : (5000 : Int) ≤ a2.size := by omega
      clear hb0 w1 w2
      go_enter Try.func9, Try.ntmps9
      go_wp2_with fail
      refine Calls.mono (HA.out _) ?_
      rintro e w1 ⟨rfl, hb⟩
      have L1 := Lib.hid hb
      clear hb
      go_wp2_with fail
      refine Calls.mono (HC.out _) ?_
      rintro e w2 ⟨v, rfl, hown, hb⟩
      have L2 := Lib.hid (L1.out.trans (hb.mono L1.out.size))
      obtain ⟨A, c, rfl⟩ := own_form3 hown
      clear hb hown
      go_wp2_with fail
      refine Calls.mono (HH.out _) ?_
      rintro e w3 ⟨rfl, hb⟩
      have L3 := Lib.hid (L2.out.trans (hb.mono L2.out.size))
      clear hb
      go_wp2
      go_ret
      exact ⟨ret_bool (by simp), L3.out⟩
    · have j1 : ¬ (5000 : Int) < a2.size := by omega
      clear hb0 w1 w2
      go_enter Try.func9, Try.ntmps9
      go_wp2_with fail
      refine Calls.mono (HA.out _) ?_
      rintro e w1 ⟨rfl, hb⟩
      have L1 := Lib.hid hb
      clear hb
      go_wp2_with fail
      refine Calls.mono (HC.out _) ?_
      rintro e w2 ⟨v, rfl, hown, hb⟩
      have L2 := Lib.hid (L1.out.trans (hb.mono L1.out.size))
      obtain ⟨A, c, rfl⟩ := own_form3 hown
      clear hb hown
      go_wp2_with fail
      refine Calls.mono (HH.out _) ?_
      rintro e w3 ⟨rfl, hb⟩
      have L3 := Lib.hid (L2.out.trans (hb.mono L2.out.size))
      clear hb
      go_wp2
      go_ret
      exact ⟨ret_bool (by simp), L3.out⟩
set_option maxRecDepth 100000 in
theorem contract (H : Type) (enc : TypeId × Value → H) (W : World) (base : Nat) (args : Array Value) (ds gs : List (DataW H)) (before : List MemPlace)
    (hval0 : ∀ (j : Nat) t v, Try.f9.params[j]? = some t → args[j]? = some v → Value.okWide Try.prog W .any base t v)
    (hW : DataW.Whole enc Try.prog Try.f9.params.toList Rows.sixRowSpec.vars false W args.toList ds gs before)
    (hsz0 : (DataW.weightsEach Try.prog (Try.f9.params.toList ++ Rows.sixRowSpec.plain.varTypes Try.prog) (ds ++ gs)).all (· ≤ reachBytes) = true) :
    Calls Try.prog 9 args W fun e W' => ∃ v, e = .returned v ∧ Rows.sixRowSpec.post enc Try.prog Try.f9 false true false false W args v W' := by
  have hsz := hsz0
  clear hsz0
  have hval := hval0
  clear hval0
  have hW' := hW
  obtain ⟨p, q, hA0, hV, rfl, hfz, hnd⟩ := hW
  have hA : DataW.TrodAll enc Try.prog W 0 (fun _ => true) true Try.f9.params.toList args.toList ds p := hA0
  rw [Try.params9] at hA hval hsz
  obtain ⟨v0, vs0, d0, ds0, p0, q0, hargs, rfl, rfl, h0, r0⟩ := trodAll_cons hA
  obtain ⟨v1, vs1, d1, ds1, p1, q1, rfl, rfl, rfl, h1, r1⟩ := trodAll_cons r0
  obtain ⟨v2, vs2, d2, ds2, p2, q2, rfl, rfl, rfl, h2, r2⟩ := trodAll_cons r1
  obtain ⟨rfl, rfl, rfl⟩ := trodAll_nil r2
  obtain rfl : args = #[v0, v1, v2] := by cases args; simp_all
  obtain ⟨rfl, rfl⟩ := trodVars_none hV
  obtain ⟨a0, rfl, rfl, rfl, w0⟩ := open_int Try.underlying3 (hval 0 3 v0 rfl rfl) h0
  obtain ⟨a1, rfl, rfl, rfl, w1⟩ := Go.ChangeMaps.open_string Try.underlying9 (hval 1 9 v1 rfl rfl) h1
  have s1 : a1.size < 140737488355328 := by have h1 := sized_string hsz (j := 1) (t := 9) (bytes := a1.data.toList) rfl rfl; have h2 := Lib.size_eq a1; have h3 := reachBytes_lt; omega
  obtain ⟨a2, rfl, rfl, rfl, w2⟩ := Go.ChangeMaps.open_string Try.underlying9 (hval 2 9 v2 rfl rfl) h2
  clear hA0
  refine (walk W a0 w0 a1 w1 s1 a2 w2).mono fun e W' ⟨he, bel⟩ => ?_
  subst he
  exact ⟨_, rfl, _, _, _, [], _, [], hW', trodAll_mk1 (shut_bool Try.underlying4 _), (trodAll_cons_mk (shut_int Try.underlying3 w0) (trodAll_cons_mk (Go.ChangeMaps.shut_string Try.underlying9 w1) (trodAll_cons_mk (Go.ChangeMaps.shut_string Try.underlying9 w2) trodAll_mk0))), rfl, bel.frame _, fun h => by cases h⟩

set_option maxRecDepth 100000 in
theorem lifted (os : Os) (started : os.Started) (H : Type) (enc : TypeId × Value → H) :
    ReturnsInHanded {} Try.checked os 9 .any (Rows.sixRowSpec.pre6 enc Try.prog Try.f9 Rows.sixRowRow.domain false) (Rows.sixRowSpec.post enc Try.prog Try.f9 false true false false) := by
  refine returnsInHanded_of_change_sized (C := Try.checked) own started (by kernel_rfl) Try.func9
    (ChangeSpec.witness6 (enc := enc) (C := Try.checked) false ⟨#[], #[.int .i64 0, .string ByteArray.empty, .string ByteArray.empty], []⟩ 8 (by kernel_rfl) (by kernel_rfl) (by kernel_rfl) (by kernel_rfl)) ?_
  intro W base args ds gs before hval hW _ hsz _
  exact contract H enc W base args ds gs before hval hW hsz

theorem over : Rows.sixRowRow.holds Try.pinned (OpenSpec.ofChange Rows.sixRowSpec) :=
  OpenClaim.holds_of_wide 9 Try.f9 rfl rfl rfl rfl rfl rfl rfl ⟨rfl, rfl, rfl, rfl, rfl⟩ rfl rfl rfl rfl rfl (by kernel_rfl) Try.func9 (by kernel_rfl)
    (of_decide_eq_true (by kernel_rfl)) (by unfold Func.isWrapper; first | (rw [if_pos (by decide +kernel)]; kernel_rfl) | (rw [if_neg (by decide +kernel)]; exact ⟨rfl, rfl⟩))
    (fun os started H enc _ => lifted os started H enc)

theorem proved : Rows.SixRowSaid := over
#print axioms proved
end Go.Proofs.Ytbhddodghbhjiaa.Row
