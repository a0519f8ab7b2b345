/-
  I2: options stand one behind the other: what two rows say is what they say together, and what is cut short within one is none: for every two texts and every place.
-/
import Derived.Test.YtnligeelbajnpaaNAw
import Derived.Test.YtnligeelbajnpaaFrame
namespace Go.Proofs.Ytnligeelbajnpaa.NRow
open Go.ChangeShapes Go.WideShapes Go.ChangeAt Go.RowKit
set_option linter.unusedVariables false

theorem i64_of {x : Int} (h : (Lit.int .i64 x).wf = true) : -9223372036854775808 ≤ x ∧ x ≤ 9223372036854775807 := by
  simp [Lit.wf, IntKind.min, IntKind.max, IntKind.bits, IntKind.signed] at h; omega
def sumO (l : List Opt9) : Nat := (l.map (fun x => 2 + x.2.length)).sum
theorem sumO_take {l : List Opt9} {j : Nat} {x : Opt9} (h : l[j]? = some x) : sumO (l.take (j + 1)) = sumO (l.take j) + 2 + x.2.length := by
  unfold sumO
  rw [List.take_add_one, h]
  simp; omega
theorem sumO_le (l : List Opt9) (j : Nat) : sumO (l.take j) ≤ sumO l := by
  have h : sumO l = sumO (l.take j) + sumO (l.drop j) := by
    unfold sumO
    rw [← List.sum_append, ← List.map_append, List.take_append_drop]
  omega
set_option maxRecDepth 100000 in
set_option maxHeartbeats 16000000 in
theorem walk (w : World) (a0 : ByteArray) (w0 : a0.size ≤ maxLen) (a1 : ByteArray) (w1 : a1.size ≤ maxLen) (a2 : Int) (w2 : (Lit.int .i64 a2).wf = true) :
    Calls Try.prog 7 #[.string a0, .string a1, .int .i64 a2] w fun e w' => e = .returned (.bool true) ∧ Below w.heap.size w w' := by
  have HA := Lib.hid (fun W => nawake_yes W)
  by_cases h0 : a0.size ≤ 5000
  case neg =>
    have d0 : (5000 : Int) < a0.size := by omega
    clear h0 w0 w1 w2
    go_enter Try.func7, Try.ntmps7
    go_wp2_with fail
    refine Calls.mono (HA.out _) ?_
    rintro e w1 ⟨rfl, hb⟩
    go_wp2
    go_ret
    exact ⟨rfl, hb⟩
  by_cases h1 : a1.size ≤ 5000
  case neg =>
    have d0 : ¬ (5000 : Int) < a0.size := by omega
    have d1 : (5000 : Int) < a1.size := by omega
    clear h0 h1 w0 w1 w2
    go_enter Try.func7, Try.ntmps7
    go_wp2_with fail
    refine Calls.mono (HA.out _) ?_
    rintro e w1 ⟨rfl, hb⟩
    go_wp2
    go_ret
    exact ⟨rfl, hb⟩
  have d0 : ¬ (5000 : Int) < a0.size := by omega
  have d1 : ¬ (5000 : Int) < a1.size := by omega
  have hadd : ∀ W : World, (Op.stringOp .add a0 a1).run Try.prog W = .ok (.string (a0 ++ a1)) W := fun W => run_string_add_sum _ _ _ (by omega)
  have e12 : (a0 ++ a1).data.toList = a0.data.toList ++ a1.data.toList := by rw [ByteArray.data_append, Array.toList_append]
  have H1 : Hid (∀ W : World, Calls Try.prog 13 #[.string a0] W fun e w' => ∃ v, e = .returned (.tuple #[v, .int .i64 (ops a0.data.toList).2]) ∧ w'.ownsRow W.heap.size 43 2 v (ops a0.data.toList).1.length (ncells (ops a0.data.toList).1) ∧ Below W.heap.size W w') := Lib.hid (fun W => nopt_any a0 (by omega) W)
  have H2 : Hid (∀ W : World, Calls Try.prog 13 #[.string a1] W fun e w' => ∃ v, e = .returned (.tuple #[v, .int .i64 (ops a1.data.toList).2]) ∧ w'.ownsRow W.heap.size 43 2 v (ops a1.data.toList).1.length (ncells (ops a1.data.toList).1) ∧ Below W.heap.size W w') := Lib.hid (fun W => nopt_any a1 (by omega) W)
  have H3 : Hid (∀ W : World, Calls Try.prog 13 #[.string (a0 ++ a1)] W fun e w' => ∃ v, e = .returned (.tuple #[v, .int .i64 (ops (a0.data.toList ++ a1.data.toList)).2]) ∧ w'.ownsRow W.heap.size 43 2 v (ops (a0.data.toList ++ a1.data.toList)).1.length (ncells (ops (a0.data.toList ++ a1.data.toList)).1) ∧ Below W.heap.size W w') := Lib.hid (fun W => by have := nopt_any (a0 ++ a1) (by rw [ByteArray.size_append]; omega) W; rw [e12] at this; exact this)
  have HE : Hid ((ops a0.data.toList).2 = 0 ∨ (ops a0.data.toList).2 = 80 ∨ (ops a0.data.toList).2 = 81) := Lib.hid (ops_codes _)
  have HF80 : Hid ((ops a0.data.toList).2 = 80 → ops (a0.data.toList ++ a1.data.toList) = ([], 80)) := Lib.hid (ops_form _ _)
  have HFok : Hid ((ops a0.data.toList).2 = 0 → ops (a0.data.toList ++ a1.data.toList) = if (ops a1.data.toList).2 = 0 then ((ops a0.data.toList).1 ++ (ops a1.data.toList).1, 0) else ([], (ops a1.data.toList).2)) := Lib.hid (ops_app _ _)
  have HSum : Hid ((ops a0.data.toList).2 = 0 → sumO (ops a0.data.toList).1 = a0.size) := Lib.hid (fun h => by
    have := ops_sum _ h
    rw [Lib.size_eq]; exact this)
  have HCut : Hid ((ops a0.data.toList).2 = 0 → ∀ K : Nat, K < a0.size → ∀ W : World, ∃ (E : Int) (k : List Opt9), (E = 81 ∨ (E = 0 ∧ k.length < (ops a0.data.toList).1.length)) ∧ Calls Try.prog 13 #[.string (a0.extract 0 K)] W fun e w' => ∃ v, e = .returned (.tuple #[v, .int .i64 E]) ∧ w'.ownsRow W.heap.size 43 2 v k.length (ncells k) ∧ Below W.heap.size W w') := Lib.hid (fun h K hK W => by
    have hx : (a0.extract 0 K).data.toList = a0.data.toList.take K := by
      rw [ByteArray.data_extract, Array.toList_extract, List.extract_eq_take_drop, List.drop_zero]; rfl
    have := nopt_any (a0.extract 0 K) (by rw [ByteArray.size_extract]; omega) W
    rw [hx] at this
    exact ⟨_, _, ops_cut _ h K (by rw [← Lib.size_eq]; exact hK), this⟩)
  have hfew1 := ops_few a0.data.toList
  have hfew2 := ops_few a1.data.toList
  rw [← Lib.size_eq] at hfew1 hfew2
  obtain ⟨al, hal⟩ : ∃ x, ops (a0.data.toList ++ a1.data.toList) = x := ⟨_, rfl⟩
  obtain ⟨E, hE⟩ : ∃ x, (ops a0.data.toList).2 = x := ⟨_, rfl⟩
  obtain ⟨F, hF⟩ : ∃ x, (ops a1.data.toList).2 = x := ⟨_, rfl⟩
  obtain ⟨l, hl⟩ : ∃ x, (ops a0.data.toList).1 = x := ⟨_, rfl⟩
  obtain ⟨m, hm⟩ : ∃ x, (ops a1.data.toList).1 = x := ⟨_, rfl⟩
  rw [hal] at H3 HF80 HFok
  rw [hE] at H1 HE HF80 HFok HSum HCut
  rw [hF] at H2 HFok
  rw [hl] at H1 HFok HSum HCut hfew1
  rw [hm] at H2 HFok hfew2
  obtain ⟨al, G⟩ := al
  dsimp only at H3
  obtain ⟨n1, hn1⟩ : ∃ x, l.length = x := ⟨_, rfl⟩
  obtain ⟨n2, hn2⟩ : ∃ x, m.length = x := ⟨_, rfl⟩
  obtain ⟨n3, hn3⟩ : ∃ x, al.length = x := ⟨_, rfl⟩
  rw [hn1] at H1 HCut hfew1
  rw [hn2] at H2 hfew2
  rw [hn3] at H3
  have N1 := Lib.hid hn1
  have N2 := Lib.hid hn2
  have N3 := Lib.hid hn3
  have NB : Hid (n1 ≤ 5000 ∧ n2 ≤ 5000) := Lib.hid ⟨by omega, by omega⟩
  obtain ⟨N, hNN⟩ : ∃ N, a0.size = N := ⟨_, rfl⟩
  rw [hNN] at HSum HCut h0 d0
  have HN0 := Lib.hid h0
  have ha2 := i64_of w2
  have hw2a := ha2.1
  have hw2b := ha2.2
  clear hal hE hF hl hm hn1 hn2 hn3 e12 hfew1 hfew2 h0 h1 w0 w1 w2 ha2
  go_enter Try.func7, Try.ntmps7
  go_wp2_with fail
  refine Calls.mono (HA.out _) ?_
  rintro e w1 ⟨rfl, hb⟩
  have L1 := Lib.hid hb
  clear hb
  go_wp2_with fail
  refine Calls.mono (H1.out _) ?_
  rintro e w2 ⟨v, rfl, hown, hb⟩
  obtain ⟨A1, c1, rfl, hrx, -⟩ := own_rn N1.out hown
  have L2 := Lib.hid (L1.out.trans (hb.mono L1.out.size))
  have P2 := Lib.hid hrx
  clear hb hown hrx
  go_wp2_with fail
  refine Calls.mono (H2.out _) ?_
  rintro e w3 ⟨v, rfl, hown, hb⟩
  obtain ⟨A2, c2, rfl, hrx, -⟩ := own_rn N2.out hown
  have L3 := Lib.hid (L2.out.trans (hb.mono L2.out.size))
  have P3 := Lib.hid (P2.out.below hb)
  have Q3 := Lib.hid hrx
  clear hb hown hrx
  go_wp2_with fail
  refine Calls.mono (H3.out _) ?_
  rintro e w4 ⟨v, rfl, hown, hb⟩
  obtain ⟨A3, c3, rfl, hrx, hc3, hz3⟩ := own_rn N3.out hown
  have L4 := Lib.hid (L3.out.trans (hb.mono L3.out.size))
  have P4 := Lib.hid (P3.out.below hb)
  have Q4 := Lib.hid (Q3.out.below hb)
  have R4 := Lib.hid hrx
  have C3 := Lib.hid hc3
  clear hb hown hrx hc3
  rcases HE.out with hE | hE | hE
  · by_cases hF : F = 0
    case neg =>
      have hx := HFok.out hE
      rw [if_neg hF] at hx
      injection hx with hx1 hx2
      subst hx2 hx1
      have hn3 : n3 = 0 := N3.out.symm
      subst hn3
      subst hE
      clear hadd hz3 hNN
      go_wp2
      go_ret
      exact ⟨nret_bool (by simp), L4.out⟩
    have hx := HFok.out hE
    rw [if_pos hF] at hx
    injection hx with hx1 hx2
    have NS : Hid (n3 = n1 + n2) := Lib.hid (by rw [← N3.out, ← N1.out, ← N2.out, hx1, List.length_append])
    have TK : Hid (al.take n1 = l) := Lib.hid (by rw [hx1, List.take_left' N1.out])
    have DK : Hid (al.drop n1 = m) := Lib.hid (by rw [hx1, List.drop_left' N1.out])
    have HSm := Lib.hid (HSum.out hE)
    have HCt := Lib.hid (HCut.out hE)
    have DRe : Hid (c3 = n1 → ∀ W : World, RN W A3 n3 al → RN W A3 n2 m) := Lib.hid (fun hc W h => by
      have hn2 : n2 = 0 := by have := C3.out; have := NS.out; omega
      have : m = [] := List.eq_nil_of_length_eq_zero (by rw [N2.out, hn2])
      rw [this, hn2]
      exact ⟨rfl, fun h => absurd h (by omega)⟩)
    have DRn : Hid (¬ c3 = n1 → ∀ W : World, RN W A3 n3 al → RN W (Option.map (fun x => x.add (n1 * 2)) A3) n2 m) := Lib.hid (fun hc W h => by
      by_cases hn2 : n2 = 0
      · have : m = [] := List.eq_nil_of_length_eq_zero (by rw [N2.out, hn2])
        rw [this, hn2]
        exact ⟨rfl, fun h => absurd h (by omega)⟩
      · obtain ⟨b, o, e, -, -⟩ := h.2 (by rw [NS.out]; omega)
        subst e
        have h1 := h.rest n1 (by rw [NS.out]; omega)
        rw [DK.out, show n3 - n1 = n2 by rw [NS.out]; omega] at h1
        simp only [Option.map_some, Addr.add]
        split
        · rename_i hq; have hn : n1 * 2 = 0 := hq
          rw [hn] at h1; exact h1
        · exact h1)
    subst hE hF
    subst hx2
    clear hx1 hadd hz3
    go_wp2
    go_loop [14, 15] (fun nn i => ∃ j : Nat, j ≤ n1 ∧ i = .int .i64 (j : Int) ∧ nn = .int .i64 (sumO (l.take j) : Int)) (fun _ i => n1 - (intOf i).toNat)
    case atStart => exact ⟨0, Nat.zero_le _, rfl, rfl⟩
    case round =>
      obtain ⟨j, hj, rfl, rfl⟩ := hrel
      by_cases hlt : j < n1
      · have hji : (j : Int) < n1 := by omega
        obtain ⟨b1, o1, e1, -, hc1⟩ := P4.out.2 (by omega)
        subst e1
        obtain ⟨x, hx⟩ : ∃ x, l[j]? = some x := ⟨_, List.getElem?_eq_getElem (by rw [P4.out.1]; exact hlt)⟩
        obtain ⟨-, p2⟩ := hc1 j x hx
        have hs1 := sumO_take hx
        have hs2 := sumO_le l (j + 1)
        rw [HSm.out] at hs2
        have hn0 := HN0.out
        obtain ⟨D, hD⟩ : ∃ D : ByteArray, (⟨x.2.toArray⟩ : ByteArray) = D := ⟨_, rfl⟩
        have hDs : D.size = x.2.length := by rw [← hD]; rfl
        rw [hD] at p2
        obtain ⟨s0, hs0⟩ : ∃ s, sumO (l.take j) = s := ⟨_, rfl⟩
        obtain ⟨s1, hs1'⟩ : ∃ s, sumO (l.take (j + 1)) = s := ⟨_, rfl⟩
        have HS1 := Lib.hid hs1'
        rw [hs0] at hs1 ⊢
        rw [hs1'] at hs1 hs2
        have j1 : IntKind.i64.wrap ((s0 : Int) + 2) = (s0 : Int) + 2 := by rw [IntKind.wrap_i64]; omega
        have j2 : IntKind.i64.wrap ((s0 : Int) + 2 + (D.size : Int)) = (s1 : Int) := by rw [IntKind.wrap_i64]; omega
        have j3 : IntKind.i64.wrap ((j : Int) + 1) = (j : Int) + 1 := by have := NB.out; rw [IntKind.wrap_i64]; omega
        clear hc1 hx hs1 hs2 hn0 hD hDs hs0 hs1'
        go_wp2
        go_round
        case rel => exact ⟨j + 1, hlt, by go_num, by rw [HS1.out]⟩
        case measure => simp [intOf]; omega
      · obtain rfl : j = n1 := by omega
        have hsn : sumO (l.take j) = N := by rw [List.take_of_length_le (by rw [N1.out]; exact Nat.le_refl _), HSm.out]
        rw [hsn]
        clear hsn hlt hj
        have hI1 : (0 : Int) ≤ j := by omega
        have hI2 : (j : Int) ≤ c3 := by have := C3.out; have := NS.out; omega
        have hI3 : (j : Int) ≤ n3 := by have := NS.out; omega
        have hI4 : n3 - j = n2 := by have := NS.out; omega
        by_cases hz : N = 0
        · subst hz
          have RL := Lib.hid (P4.out)
          have RM := Lib.hid (Q4.out)
          have RA := Lib.hid (R4.out)
          have HS1 := Lib.hid (nsame_yes A3 A1 j c3 c1 l (by have := NB.out; omega) w4 (by have := RA.out.first j (by omega); rwa [TK.out] at this) RL.out)
          by_cases hcj : c3 = j
          · subst hcj
            have hm2 := DRe.out rfl
            go_wp2_with fail
            refine Calls.mono HS1.out ?_
            rintro e w8 ⟨rfl, q8, rfl⟩
            have HS2 := Lib.hid (nsame_yes A3 A2 n2 0 c2 m (by have := NB.out; omega) (w4.drewN q8) (hm2 w4 RA.out) RM.out)
            go_wp2_with fail
            refine Calls.mono HS2.out ?_
            rintro e w9 ⟨rfl, q9, rfl⟩
            go_wp2
            go_ret
            exact ⟨nret_bool (by simp), below_drewN L4.out _⟩
          · have hm2 := Lib.hid (DRn.out hcj)
            have hcj' : ¬ j = c3 := fun h => hcj h.symm
            go_wp2_with fail
            refine Calls.mono HS1.out ?_
            rintro e w8 ⟨rfl, q8, rfl⟩
            have HS2 := Lib.hid (nsame_yes (Option.map (fun x => x.add (j * 2)) A3) A2 n2 (c3 - j) c2 m (by have := NB.out; omega) (w4.drewN q8) (hm2.out w4 RA.out) RM.out)
            go_wp2_with fail
            refine Calls.mono HS2.out ?_
            rintro e w9 ⟨rfl, q9, rfl⟩
            go_wp2
            go_ret
            exact ⟨nret_bool (by simp), below_drewN L4.out _⟩
        · have hN0 : ¬ (N : Int) = 0 := by omega
          have hNpos : (0 : Int) < N := by omega
          obtain ⟨CU, hCU, hC0, hC1⟩ : ∃ CU : Int, CU = (if a2 < 0 then -(a2 + 1) else a2) ∧ 0 ≤ CU ∧ CU ≤ 9223372036854775807 := ⟨_, rfl, by split <;> omega, by split <;> omega⟩
          have hmo1 : 0 ≤ CU % (N : Int) := Int.emod_nonneg _ (by omega)
          have hmo2 : CU % (N : Int) < N := Int.emod_lt_of_pos _ (by omega)
          obtain ⟨K, hK⟩ : ∃ K : Nat, (K : Int) = CU % N := ⟨(CU % N).toNat, by omega⟩
          have hKN : K < N := by omega
          have hKi : (K : Int) ≤ N := by omega
          have hKi0 : (0 : Int) ≤ K := by omega
          have hKn : K ≤ N := by omega
          have hmod : Int.tmod CU N = K := by rw [Int.tmod_eq_emod_of_nonneg hC0]; exact hK.symm
          have hmod2 : CU % (N : Int) = K := hK.symm
          obtain ⟨H, k, hHk, hcall⟩ := HCt.out K hKN w4
          obtain ⟨X4, hX4⟩ : ∃ X, a0.extract 0 K = X := ⟨_, rfl⟩
          rw [hX4] at hcall
          have HCall := Lib.hid hcall
          clear hcall hmo1 hmo2 hK hz
          by_cases hneg : a2 < 0
          · rw [if_pos hneg] at hCU
            have j4 : IntKind.i64.wrap (a2 + 1) = a2 + 1 := by rw [IntKind.wrap_i64]; omega
            have j5 : wrap64 (-(a2 + 1)) = CU := by unfold wrap64; omega
            clear hC0 hC1 hw2a hw2b hCU
            go_wp2_with fail
            refine Calls.mono HCall.out ?_
            rintro e w5 ⟨v, rfl, hown, hb⟩
            obtain ⟨A5, c5, rfl, -, -⟩ := own_rn rfl hown
            have L5 := Lib.hid (L4.out.trans (hb.mono L4.out.size))
            have P5 := Lib.hid (P4.out.below hb)
            have Q5 := Lib.hid (Q4.out.below hb)
            have R5 := Lib.hid (R4.out.below hb)
            clear hb hown
            rcases hHk with hH | ⟨hH, hkl⟩
            · subst hH
              have RL := Lib.hid (P5.out)
              have RM := Lib.hid (Q5.out)
              have RA := Lib.hid (R5.out)
              have HS1 := Lib.hid (nsame_yes A3 A1 j c3 c1 l (by have := NB.out; omega) w5 (by have := RA.out.first j (by omega); rwa [TK.out] at this) RL.out)
              by_cases hcj : c3 = j
              · subst hcj
                have hm2 := DRe.out rfl
                go_wp2_with fail
                refine Calls.mono HS1.out ?_
                rintro e w8 ⟨rfl, q8, rfl⟩
                have HS2 := Lib.hid (nsame_yes A3 A2 n2 0 c2 m (by have := NB.out; omega) (w5.drewN q8) (hm2 w5 RA.out) RM.out)
                go_wp2_with fail
                refine Calls.mono HS2.out ?_
                rintro e w9 ⟨rfl, q9, rfl⟩
                go_wp2
                go_ret
                exact ⟨nret_bool (by simp), below_drewN L5.out _⟩
              · have hm2 := Lib.hid (DRn.out hcj)
                have hcj' : ¬ j = c3 := fun h => hcj h.symm
                go_wp2_with fail
                refine Calls.mono HS1.out ?_
                rintro e w8 ⟨rfl, q8, rfl⟩
                have HS2 := Lib.hid (nsame_yes (Option.map (fun x => x.add (j * 2)) A3) A2 n2 (c3 - j) c2 m (by have := NB.out; omega) (w5.drewN q8) (hm2.out w5 RA.out) RM.out)
                go_wp2_with fail
                refine Calls.mono HS2.out ?_
                rintro e w9 ⟨rfl, q9, rfl⟩
                go_wp2
                go_ret
                exact ⟨nret_bool (by simp), below_drewN L5.out _⟩
            · subst hH
              obtain ⟨kl, hkk⟩ : ∃ x, k.length = x := ⟨_, rfl⟩
              rw [hkk] at hkl ⊢
              have hkI : ¬ (j : Int) ≤ (kl : Int) := by omega
              have RL := Lib.hid (P5.out)
              have RM := Lib.hid (Q5.out)
              have RA := Lib.hid (R5.out)
              have HS1 := Lib.hid (nsame_yes A3 A1 j c3 c1 l (by have := NB.out; omega) w5 (by have := RA.out.first j (by omega); rwa [TK.out] at this) RL.out)
              by_cases hcj : c3 = j
              · subst hcj
                have hm2 := DRe.out rfl
                go_wp2_with fail
                refine Calls.mono HS1.out ?_
                rintro e w8 ⟨rfl, q8, rfl⟩
                have HS2 := Lib.hid (nsame_yes A3 A2 n2 0 c2 m (by have := NB.out; omega) (w5.drewN q8) (hm2 w5 RA.out) RM.out)
                go_wp2_with fail
                refine Calls.mono HS2.out ?_
                rintro e w9 ⟨rfl, q9, rfl⟩
                go_wp2
                go_ret
                exact ⟨nret_bool (by simp), below_drewN L5.out _⟩
              · have hm2 := Lib.hid (DRn.out hcj)
                have hcj' : ¬ j = c3 := fun h => hcj h.symm
                go_wp2_with fail
                refine Calls.mono HS1.out ?_
                rintro e w8 ⟨rfl, q8, rfl⟩
                have HS2 := Lib.hid (nsame_yes (Option.map (fun x => x.add (j * 2)) A3) A2 n2 (c3 - j) c2 m (by have := NB.out; omega) (w5.drewN q8) (hm2.out w5 RA.out) RM.out)
                go_wp2_with fail
                refine Calls.mono HS2.out ?_
                rintro e w9 ⟨rfl, q9, rfl⟩
                go_wp2
                go_ret
                exact ⟨nret_bool (by simp), below_drewN L5.out _⟩
          · rw [if_neg hneg] at hCU
            subst hCU
            clear hC0 hC1 hw2a hw2b
            go_wp2_with fail
            refine Calls.mono HCall.out ?_
            rintro e w5 ⟨v, rfl, hown, hb⟩
            obtain ⟨A5, c5, rfl, -, -⟩ := own_rn rfl hown
            have L5 := Lib.hid (L4.out.trans (hb.mono L4.out.size))
            have P5 := Lib.hid (P4.out.below hb)
            have Q5 := Lib.hid (Q4.out.below hb)
            have R5 := Lib.hid (R4.out.below hb)
            clear hb hown
            rcases hHk with hH | ⟨hH, hkl⟩
            · subst hH
              have RL := Lib.hid (P5.out)
              have RM := Lib.hid (Q5.out)
              have RA := Lib.hid (R5.out)
              have HS1 := Lib.hid (nsame_yes A3 A1 j c3 c1 l (by have := NB.out; omega) w5 (by have := RA.out.first j (by omega); rwa [TK.out] at this) RL.out)
              by_cases hcj : c3 = j
              · subst hcj
                have hm2 := DRe.out rfl
                go_wp2_with fail
                refine Calls.mono HS1.out ?_
                rintro e w8 ⟨rfl, q8, rfl⟩
                have HS2 := Lib.hid (nsame_yes A3 A2 n2 0 c2 m (by have := NB.out; omega) (w5.drewN q8) (hm2 w5 RA.out) RM.out)
                go_wp2_with fail
                refine Calls.mono HS2.out ?_
                rintro e w9 ⟨rfl, q9, rfl⟩
                go_wp2
                go_ret
                exact ⟨nret_bool (by simp), below_drewN L5.out _⟩
              · have hm2 := Lib.hid (DRn.out hcj)
                have hcj' : ¬ j = c3 := fun h => hcj h.symm
                go_wp2_with fail
                refine Calls.mono HS1.out ?_
                rintro e w8 ⟨rfl, q8, rfl⟩
                have HS2 := Lib.hid (nsame_yes (Option.map (fun x => x.add (j * 2)) A3) A2 n2 (c3 - j) c2 m (by have := NB.out; omega) (w5.drewN q8) (hm2.out w5 RA.out) RM.out)
                go_wp2_with fail
                refine Calls.mono HS2.out ?_
                rintro e w9 ⟨rfl, q9, rfl⟩
                go_wp2
                go_ret
                exact ⟨nret_bool (by simp), below_drewN L5.out _⟩
            · subst hH
              obtain ⟨kl, hkk⟩ : ∃ x, k.length = x := ⟨_, rfl⟩
              rw [hkk] at hkl ⊢
              have hkI : ¬ (j : Int) ≤ (kl : Int) := by omega
              have RL := Lib.hid (P5.out)
              have RM := Lib.hid (Q5.out)
              have RA := Lib.hid (R5.out)
              have HS1 := Lib.hid (nsame_yes A3 A1 j c3 c1 l (by have := NB.out; omega) w5 (by have := RA.out.first j (by omega); rwa [TK.out] at this) RL.out)
              by_cases hcj : c3 = j
              · subst hcj
                have hm2 := DRe.out rfl
                go_wp2_with fail
                refine Calls.mono HS1.out ?_
                rintro e w8 ⟨rfl, q8, rfl⟩
                have HS2 := Lib.hid (nsame_yes A3 A2 n2 0 c2 m (by have := NB.out; omega) (w5.drewN q8) (hm2 w5 RA.out) RM.out)
                go_wp2_with fail
                refine Calls.mono HS2.out ?_
                rintro e w9 ⟨rfl, q9, rfl⟩
                go_wp2
                go_ret
                exact ⟨nret_bool (by simp), below_drewN L5.out _⟩
              · have hm2 := Lib.hid (DRn.out hcj)
                have hcj' : ¬ j = c3 := fun h => hcj h.symm
                go_wp2_with fail
                refine Calls.mono HS1.out ?_
                rintro e w8 ⟨rfl, q8, rfl⟩
                have HS2 := Lib.hid (nsame_yes (Option.map (fun x => x.add (j * 2)) A3) A2 n2 (c3 - j) c2 m (by have := NB.out; omega) (w5.drewN q8) (hm2.out w5 RA.out) RM.out)
                go_wp2_with fail
                refine Calls.mono HS2.out ?_
                rintro e w9 ⟨rfl, q9, rfl⟩
                go_wp2
                go_ret
                exact ⟨nret_bool (by simp), below_drewN L5.out _⟩
  · have hx := HF80.out hE
    injection hx with hx1 hx2
    subst hx1 hx2
    have hn3 : n3 = 0 := N3.out.symm
    subst hn3
    subst hE
    clear hadd hz3 hNN
    go_wp2
    go_ret
    exact ⟨nret_bool (by simp), L4.out⟩
  · subst hE
    clear hadd hz3 hNN
    go_wp2
    go_ret
    exact ⟨rfl, L4.out⟩
set_option maxRecDepth 100000 in
theorem contract (H : Type) (enc : TypeId × Value → H) (W : World) (base : Nat) (args : Array Value) (ds gs : List (DataW H)) (before : List MemPlace)
    (hval0 : ∀ (j : Nat) t v, Try.f7.params[j]? = some t → args[j]? = some v → Value.okWide Try.prog W .any base t v)
    (hW : DataW.Whole enc Try.prog Try.f7.params.toList Rows.ndRowSpec.vars false W args.toList ds gs before)
    (hsz0 : (DataW.weightsEach Try.prog (Try.f7.params.toList ++ Rows.ndRowSpec.plain.varTypes Try.prog) (ds ++ gs)).all (· ≤ reachBytes) = true) :
    Calls Try.prog 7 args W fun e W' => ∃ v, e = .returned v ∧ Rows.ndRowSpec.post enc Try.prog Try.f7 false true false false W args v W' := by
  have hsz := hsz0
  clear hsz0
  have hval := hval0
  clear hval0
  have hW' := hW
  obtain ⟨p, q, hA0, hV, rfl, hfz, hnd⟩ := hW
  have hA : DataW.TrodAll enc Try.prog W 0 (fun _ => true) true Try.f7.params.toList args.toList ds p := hA0
  rw [Try.params7] at hA hval hsz
  obtain ⟨v0, vs0, d0, ds0, p0, q0, hargs, rfl, rfl, h0, r0⟩ := trodAll_cons hA
  obtain ⟨v1, vs1, d1, ds1, p1, q1, rfl, rfl, rfl, h1, r1⟩ := trodAll_cons r0
  obtain ⟨v2, vs2, d2, ds2, p2, q2, rfl, rfl, rfl, h2, r2⟩ := trodAll_cons r1
  obtain ⟨rfl, rfl, rfl⟩ := trodAll_nil r2
  obtain rfl : args = #[v0, v1, v2] := by cases args; simp_all
  obtain ⟨rfl, rfl⟩ := trodVars_none hV
  obtain ⟨a0, rfl, rfl, rfl, w0⟩ := Go.ChangeMaps.open_string Try.underlying9 (hval 0 9 v0 rfl rfl) h0
  obtain ⟨a1, rfl, rfl, rfl, w1⟩ := Go.ChangeMaps.open_string Try.underlying9 (hval 1 9 v1 rfl rfl) h1
  obtain ⟨a2, rfl, rfl, rfl, w2⟩ := open_int Try.underlying3 (hval 2 3 v2 rfl rfl) h2
  clear hA0
  refine (walk W a0 w0 a1 w1 a2 w2).mono fun e W' ⟨he, bel⟩ => ?_
  subst he
  exact ⟨_, rfl, _, _, _, [], _, [], hW', trodAll_mk1 (shut_bool Try.underlying4 _), (trodAll_cons_mk (Go.ChangeMaps.shut_string Try.underlying9 w0) (trodAll_cons_mk (Go.ChangeMaps.shut_string Try.underlying9 w1) (trodAll_cons_mk (shut_int Try.underlying3 w2) trodAll_mk0))), rfl, bel.frame _, fun h => by cases h⟩

set_option maxRecDepth 100000 in
theorem lifted (os : Os) (started : os.Started) (H : Type) (enc : TypeId × Value → H) :
    ReturnsInHanded {} Try.checked os 7 .any (Rows.ndRowSpec.pre6 enc Try.prog Try.f7 Rows.ndRowRow.domain false) (Rows.ndRowSpec.post enc Try.prog Try.f7 false true false false) := by
  refine returnsInHanded_of_change_sized (C := Try.checked) own started (by kernel_rfl) Try.func7
    (ChangeSpec.witness6 (enc := enc) (C := Try.checked) false ⟨#[], #[.string ByteArray.empty, .string ByteArray.empty, .int .i64 0], []⟩ 8 (by kernel_rfl) (by kernel_rfl) (by kernel_rfl) (by kernel_rfl)) ?_
  intro W base args ds gs before hval hW _ hsz _
  exact contract H enc W base args ds gs before hval hW hsz

theorem over : Rows.ndRowRow.holds Try.pinned (OpenSpec.ofChange Rows.ndRowSpec) :=
  OpenClaim.holds_of_wide 7 Try.f7 rfl rfl rfl rfl rfl rfl rfl ⟨rfl, rfl, rfl, rfl, rfl⟩ rfl rfl rfl rfl rfl (by kernel_rfl) Try.func7 (by kernel_rfl)
    (of_decide_eq_true (by kernel_rfl)) (by unfold Func.isWrapper; first | (rw [if_pos (by decide +kernel)]; kernel_rfl) | (rw [if_neg (by decide +kernel)]; exact ⟨rfl, rfl⟩))
    (fun os started H enc _ => lifted os started H enc)

theorem proved : Rows.NdRowSaid := over
#print axioms proved
end Go.Proofs.Ytnligeelbajnpaa.NRow
