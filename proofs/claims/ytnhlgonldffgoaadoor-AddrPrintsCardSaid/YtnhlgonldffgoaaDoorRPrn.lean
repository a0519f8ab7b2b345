/-
  The document's own Print of any address.
-/
import Derived.Test.YtnhlgonldffgoaaDoorSpl
import Derived.Test.YtnhlgonldffgoaaDoorRAmx
import Derived.Test.YtnhlgonldffgoaaDoorRGroups
import Derived.OrdersHeld
namespace Go.Proofs.YtnhlgonldffgoaaDoor
open Go.RowKit
set_option linter.unusedVariables false

theorem join_snoc' (c : UInt8) {ws : List (List UInt8)} (h : ws ≠ []) (w : List UInt8) : Lib.join (ws ++ [w]) [c] = Lib.join ws [c] ++ [c] ++ w := by
  obtain ⟨x, r, rfl⟩ := List.exists_cons_of_ne_nil h
  rw [List.cons_append, Lib.join_cons, Lib.join_cons]
  simp [Lib.joinTail, List.append_assoc]
theorem tk_map {G : List Int} {k : Nat} {z : Int} (f : Int → List UInt8) (h : G[k]? = some z) : (G.take (k + 1)).map f = (G.take k).map f ++ [f z] := by
  rw [List.take_add_one, h]; simp
theorem tk_ne {G : List Int} {k : Nat} {z : Int} (f : Int → List UInt8) (h : G[k]? = some z) (h0 : 0 < k) : (G.take k).map f ≠ [] := by
  have hl := (List.getElem?_eq_some_iff.1 h).1
  intro e
  have := congrArg List.length e
  rw [List.length_map, List.length_take] at this
  rw [List.length_nil] at this; omega
theorem app_dat (a b : ByteArray) : (a ++ b).data.toList = a.data.toList ++ b.data.toList := by simp

/-- The text so far: nothing left out, and nothing to leave out before k. -/
def QA (G : List Int) (p n k : Nat) (T : List UInt8) : Prop := (1 < n → k ≤ p) ∧ T = Lib.join ((G.take k).map d16) [58]
/-- The text so far: n noughts from p left out. -/
def QB (G : List Int) (p n k : Nat) (T : List UInt8) : Prop := p + n ≤ k ∧ T = Lib.join ((G.take p).map d16) [58] ++ [58, 58] ++ Lib.join (((G.drop (p + n)).take (k - (p + n))).map d16) [58]
theorem d16_all {ws : List (List UInt8)} {zs : List Int} (h : ws = zs.map d16) : ∀ x ∈ ws, (58 : UInt8) ∉ x ∧ x ≠ [] := by
  intro x hx
  rw [h] at hx
  obtain ⟨z, -, rfl⟩ := List.mem_map.1 hx
  exact ⟨d16_no z, d16_ne z⟩
theorem QA.first {G : List Int} {p n : Nat} {T : List UInt8} {z : Int} (h : QA G p n 0 T) (hg : G[0]? = some z) (hp : ¬ (1 < n ∧ 0 = p)) : QA G p n 1 (T ++ d16 z) := by
  obtain ⟨h1, rfl⟩ := h
  refine ⟨fun hn => by have := h1 hn; omega, ?_⟩
  rw [tk_map d16 hg]; simp [Lib.join_nil, Lib.join_one]
theorem QA.next {G : List Int} {p n k : Nat} {T : List UInt8} {z : Int} (h : QA G p n k T) (hk : 0 < k) (hg : G[k]? = some z) (hp : ¬ (1 < n ∧ k = p)) : QA G p n (k + 1) (T ++ [58] ++ d16 z) ∧ ∃ c, T.getLast? = some c ∧ c ≠ 58 := by
  obtain ⟨h1, rfl⟩ := h
  refine ⟨⟨fun hn => by have := h1 hn; omega, by rw [tk_map d16 hg, join_snoc' 58 (tk_ne d16 hg hk)]⟩, join_last (tk_ne d16 hg hk) (d16_all rfl)⟩
theorem QA.gap {G : List Int} {p n : Nat} {T : List UInt8} (h : QA G p n p T) : QB G p n (p + n) (T ++ [58, 58]) := by
  obtain ⟨_, rfl⟩ := h
  exact ⟨Nat.le_refl _, by rw [Nat.sub_self, List.take_zero]; simp [Lib.join_nil]⟩
theorem QB.next {G : List Int} {p n k : Nat} {T : List UInt8} {z : Int} (h : QB G p n k T) (hg : G[k]? = some z) : ∃ c, T.getLast? = some c ∧ ((c = 58 ∧ QB G p n (k + 1) (T ++ d16 z)) ∨ (c ≠ 58 ∧ QB G p n (k + 1) (T ++ [58] ++ d16 z))) := by
  obtain ⟨h1, rfl⟩ := h
  have hd : ((G.drop (p + n)).take (k + 1 - (p + n))).map d16 = ((G.drop (p + n)).take (k - (p + n))).map d16 ++ [d16 z] := by
    rw [show k + 1 - (p + n) = (k - (p + n)) + 1 by omega]
    exact tk_map d16 (by rw [List.getElem?_drop, show p + n + (k - (p + n)) = k by omega]; exact hg)
  by_cases hb : ((G.drop (p + n)).take (k - (p + n))).map d16 = []
  · refine ⟨58, by rw [hb]; simp [Lib.join_nil], .inl ⟨rfl, by omega, ?_⟩⟩
    rw [hd, hb]; simp [Lib.join_nil, Lib.join_one]
  · obtain ⟨c, hc, hn⟩ := join_last hb (d16_all rfl)
    refine ⟨c, by rw [List.getLast?_append, hc]; rfl, .inr ⟨hn, by omega, ?_⟩⟩
    rw [hd, join_snoc' 58 hb]; simp [List.append_assoc]
theorem Q_end {G : List Int} (h8 : G.length = 8) {T : List UInt8} (h : QA G (amx G 7) (lz (G.drop (amx G 7))) 8 T ∨ (QB G (amx G 7) (lz (G.drop (amx G 7))) 8 T ∧ 1 < lz (G.drop (amx G 7)))) : T = prn6 G := by
  obtain ⟨l1, l2⟩ := lng_amx G h8
  have ha := amx_le G 7
  rcases h with ⟨h1, h2⟩ | ⟨h, hn⟩
  · have hn : ¬ 1 < lz (G.drop (amx G 7)) := fun hn => by have := h1 hn; omega
    unfold prn6
    rw [if_pos (l2 hn), h2, List.take_of_length_le (by omega)]
  · obtain ⟨h1, h2⟩ := h
    unfold prn6
    rw [l1 hn, if_neg (by simp only []; omega), h2]
    simp only []
    have e : (G.drop (amx G 7 + lz (G.drop (amx G 7)))).take (8 - (amx G 7 + lz (G.drop (amx G 7)))) = G.drop (amx G 7 + lz (G.drop (amx G 7))) := List.take_of_length_le (by rw [List.length_drop]; omega)
    rw [e]
theorem last_of (T : ByteArray) (c : UInt8) (h : T.data.toList.getLast? = some c) (hl : T.size - 1 < T.size) : T[T.size - 1]'hl = c := by
  rw [List.getLast?_eq_getElem?, Array.length_toList] at h
  have h2 : T.data.toList[T.data.size - 1]? = some (T[T.size - 1]'hl) := by
    rw [Array.getElem?_toList]
    exact Array.getElem?_eq_getElem hl
  rw [h2] at h
  injection h
theorem last_pos {T : ByteArray} {c : UInt8} (h : T.data.toList.getLast? = some c) : 0 < T.size := by
  rw [Lib.size_eq]
  cases hd : T.data.toList with
  | nil => rw [hd] at h; cases h
  | cons _ _ => simp
theorem dg16_text (n : Nat) (h : n ≤ 65535) : (⟨(dg 16 n).toArray⟩ : ByteArray).data.toList = d16 (n : Int) ∧ (⟨(dg 16 n).toArray⟩ : ByteArray).size ≤ 4 := by
  rw [dg_sixteen n h]
  refine ⟨by simp, ?_⟩
  rw [Lib.size_eq]
  show (d16 (n : Int)).toArray.toList.length ≤ 4
  have := d16_len (n : Int)
  simpa using this

set_option maxRecDepth 100000 in
set_option maxHeartbeats 3000000 in
theorem rprint_six (h l : Int) (hh : U6 h) (hl : U6 l) (w : World) :
    Calls Tryd.prog 20 #[adr true h l] w fun e w' => e = .returned (.string ⟨(prn true h l).toArray⟩) ∧ Below w.heap.size w w' := by
  have HV := Lib.hid (fun W => rvalid_at true h l W (vld_six h l))
  have HG := Lib.hid (fun W => rgroups_any h l hh hl W)
  have HX : Hid (prn true h l = prn6 (gsOf h l)) := Lib.hid (by unfold prn; rw [vld_six]; rfl)
  have hgb : ∀ z ∈ gsOf h l, 0 ≤ z ∧ z ≤ 65535 := by
    intro z hz
    simp only [gsOf, List.mem_cons, List.not_mem_nil, or_false] at hz
    rcases hz with rfl | rfl | rfl | rfl | rfl | rfl | rfl | rfl <;> exact gr_bd _ _
  have h8 : (gsOf h l).length = 8 := rfl
  obtain ⟨G, hG⟩ : ∃ G, gsOf h l = G := ⟨_, rfl⟩
  rw [hG] at HG hgb h8 HX
  have HGB := Lib.hid hgb
  have H8 := Lib.hid h8
  clear hG hgb h8 hh hl
  obtain ⟨f1, f2, f3⟩ := (Blk.new w 25 #[.bool true, .int .u64 h, .int .u64 l]).c3
  go_enter Tryd.func20, Tryd.ntmps20
  go_wp2_with fail
  refine Calls.mono (HV.out _) ?_
  rintro e w1 ⟨rfl, hb⟩
  have K1 := Lib.hid ((Blk.new w 25 #[.bool true, .int .u64 h, .int .u64 l]).below hb (by simp only [World.size_alloc]; omega))
  have L1 := Lib.hid (((Below.refl _ w).alloc (Nat.le_refl _) (.cells #[.bool true, .int .u64 h, .int .u64 l] 25)).trans (hb.mono (by simp only [World.size_alloc]; omega)))
  clear f1 f2 f3 hb
  obtain ⟨f1, f2, f3⟩ := K1.out.c3
  go_wp2_with fail
  refine Calls.mono (HG.out _) ?_
  rintro e w2 ⟨A, cp, rfl, hri, hge, hb⟩
  have L2 := Lib.hid (L1.out.trans (hb.mono L1.out.size))
  have HZ := Lib.hid (fun (i : Nat) (hi : i ≤ 8) => rzeros_any w2 w2.heap.size cp i A G hri hi)
  obtain ⟨b, o, rfl, -, hc⟩ := hri.2.1 (by decide)
  have HC := Lib.hid hc
  clear hri hge hb f1 f2 f3 hc
  go_wp2
  go_loop [7, 8] (fun p i => ∃ j : Nat, j ≤ 7 ∧ i = .int .i64 (((j + 1 : Nat)) : Int) ∧ p = .int .i64 ((amx G j : Nat) : Int)) (fun _ i => 8 - (intOf i).toNat)
  case atStart => exact ⟨0, by decide, rfl, rfl⟩
  case round =>
    obtain ⟨j, hj, rfl, rfl⟩ := hrel
    have ha := amx_le G j
    by_cases hlt : j + 1 < 8
    · have HZ1 := Lib.hid (HZ.out (j + 1) (by omega))
      have HZ2 := Lib.hid (HZ.out (amx G j) (by omega))
      have HS := Lib.hid (show amx G (j + 1) = if lz (G.drop (amx G j)) < lz (G.drop (j + 1)) then j + 1 else amx G j from rfl)
      obtain ⟨X, hX⟩ : ∃ X, lz (G.drop (j + 1)) = X := ⟨_, rfl⟩
      obtain ⟨Y, hY⟩ : ∃ Y, lz (G.drop (amx G j)) = Y := ⟨_, rfl⟩
      rw [hX] at HZ1 HS
      rw [hY] at HZ2 HS
      clear hX hY
      obtain ⟨P, hP⟩ : ∃ P, amx G j = P := ⟨_, rfl⟩
      rw [hP] at HZ2 HS ha ⊢
      have hj1 : (((j + 1 : Nat)) : Int) < 8 := by omega
      obtain ⟨J, hJ⟩ : ∃ J, j + 1 = J := ⟨_, rfl⟩
      have HJ := Lib.hid hJ
      rw [hJ] at HZ1 HS hj1 ⊢
      have hj2 : J < 8 := by omega
      clear hP hJ hlt
      by_cases hxy : Y < X
      · have hxi : (Y : Int) < (X : Int) := by omega
        rw [if_pos hxy] at HS
        clear hxy
        go_wp2_with fail
        refine Calls.mono HZ1.out ?_
        rintro e w3 ⟨rfl, rfl⟩
        go_wp2_with fail
        refine Calls.mono HZ2.out ?_
        rintro e w3 ⟨rfl, rfl⟩
        go_wp2
        go_round
        case rel => exact ⟨J, by omega, by go_num, by rw [HS.out]⟩
        case measure => simp [intOf]; omega
      · have hxi : ¬ (Y : Int) < (X : Int) := by omega
        rw [if_neg hxy] at HS
        clear hxy
        go_wp2_with fail
        refine Calls.mono HZ1.out ?_
        rintro e w3 ⟨rfl, rfl⟩
        go_wp2_with fail
        refine Calls.mono HZ2.out ?_
        rintro e w3 ⟨rfl, rfl⟩
        go_wp2
        go_round
        case rel => exact ⟨J, by omega, by go_num, by rw [HS.out]⟩
        case measure => simp [intOf]; omega
    · obtain rfl : j = 7 := by omega
      have hj1 : ¬ (((7 + 1 : Nat)) : Int) < 8 := by decide
      have HZ2 := Lib.hid (HZ.out (amx G 7) (by omega))
      clear HZ
      have hN8 : amx G 7 + lz (G.drop (amx G 7)) ≤ 8 := by have := lz_le (G.drop (amx G 7)); rw [List.length_drop, H8.out] at this; omega
      have HEND := Lib.hid (fun (T : List UInt8) (a : QA G (amx G 7) (lz (G.drop (amx G 7))) 8 T ∨ (QB G (amx G 7) (lz (G.drop (amx G 7))) 8 T ∧ 1 < lz (G.drop (amx G 7)))) => Q_end H8.out a)
      obtain ⟨N, hN⟩ : ∃ N, lz (G.drop (amx G 7)) = N := ⟨_, rfl⟩
      rw [hN] at HZ2 hN8 HEND
      obtain ⟨P, hP⟩ : ∃ P, amx G 7 = P := ⟨_, rfl⟩
      rw [hP] at HZ2 hN8 HEND ha
      rw [hP]
      clear hN hP hlt hj
      go_wp2_with fail
      refine Calls.mono HZ2.out ?_
      rintro e w3 ⟨rfl, rfl⟩
      clear HZ2
      go_wp2
      go_loop [3, 10] (fun t i => ∃ (T : ByteArray) (k : Nat), k ≤ 8 ∧ i = .int .i64 (k : Int) ∧ t = .string T ∧ Hid (T.size ≤ 5 * k) ∧ Hid (QA G P N k T.data.toList ∨ (QB G P N k T.data.toList ∧ 1 < N))) (fun _ i => 8 - (intOf i).toNat)
      case atStart => exact ⟨_, 0, by decide, rfl, rfl, Lib.hid (Nat.zero_le _), Lib.hid (.inl ⟨fun _ => Nat.zero_le _, by simp [Lib.join_nil]⟩)⟩
      case round =>
        obtain ⟨T, k, hk, rfl, rfl, HTs, HT⟩ := hrel
        have hts : T.size ≤ 40 := by have := HTs.out; omega
        by_cases hlt : k < 8
        · obtain ⟨z, hz⟩ : ∃ z, G[k]? = some z := ⟨_, List.getElem?_eq_getElem (by rw [H8.out]; exact hlt)⟩
          have hzb := HGB.out z (List.mem_of_getElem? hz)
          obtain ⟨n, rfl⟩ : ∃ n : Nat, z = (n : Int) := ⟨z.toNat, by omega⟩
          have HZZ := Lib.hid hz
          have hn : n ≤ 65535 := by omega
          have hcell := HC.out k _ hz
          have hki : (k : Int) < 8 := by omega
          have HW := Lib.hid (dg16_text n hn)
          have HD := Lib.hid (fun W => rdig_any n 16 16 rfl (by decide) (by decide) (by omega) W)
          obtain ⟨X, hX⟩ : ∃ X : ByteArray, ⟨(dg 16 n).toArray⟩ = X := ⟨_, rfl⟩
          rw [hX] at HW HD
          have hXs := HW.out.2
          clear hz hzb hX hn hlt
          by_cases hgap : 1 < N ∧ k = P
          · obtain ⟨hN, rfl⟩ := hgap
            have HQ : Hid (QA G k N k T.data.toList) := by
              rcases HT.out with h | ⟨h, _⟩
              · exact Lib.hid h
              · exfalso; have := h.1; omega
            have hNi : (1 : Int) < (N : Int) := by omega
            have hNb : (N : Int) ≤ 8 := by omega
            clear HT
            go_wp2
            go_round
            case rel => exact ⟨_, k + N, by omega, by go_num, rfl, Lib.hid (by rw [ByteArray.size_append]; have e1 : (⟨#[58, 58]⟩ : ByteArray).size = 2 := rfl; have := HTs.out; omega), Lib.hid (.inr ⟨by rw [app_dat]; exact HQ.out.gap, hN⟩)⟩
            case measure => simp [intOf]; omega
          · have HGAP := Lib.hid hgap
            have hg : ¬ (1 : Int) < (N : Int) ∨ ((1 : Int) < (N : Int) ∧ ¬ (k : Int) = (P : Int)) := by
              by_cases h : 1 < N
              · exact .inr ⟨by omega, fun e => hgap ⟨h, by omega⟩⟩
              · exact .inl (by omega)
            clear hgap
            rcases hg with hg | ⟨hg, hg2⟩
            all_goals
              by_cases hk0 : k = 0
              · have HK0 := Lib.hid hk0
                have g1 : ¬ (0 : Int) < (k : Int) := by omega
                have g2 : ¬ 0 < k := by omega
                clear hk0
                go_wp2_with fail
                refine Calls.mono (HD.out _) ?_
                rintro e w3 ⟨rfl, rfl⟩
                go_wp2
                go_round
                case rel => exact ⟨_, k + 1, by omega, by go_num, rfl, Lib.hid (by rw [ByteArray.size_append]; have := HTs.out; have := HW.out.2; omega), Lib.hid (by
                    have hz := HZZ.out
                    have hk0 := HK0.out
                    subst hk0
                    rw [app_dat, HW.out.1]
                    rcases HT.out with h | ⟨h, hq⟩
                    · exact .inl (h.first hz HGAP.out)
                    · exfalso; have := h.1; omega)⟩
                case measure => simp [intOf]; omega
              · have hlast : ∃ c, T.data.toList.getLast? = some c ∧ ((c = 58 ∧ (QA G P N (k + 1) (T.data.toList ++ d16 n) ∨ (QB G P N (k + 1) (T.data.toList ++ d16 n) ∧ 1 < N))) ∨ (c ≠ 58 ∧ (QA G P N (k + 1) (T.data.toList ++ [58] ++ d16 n) ∨ (QB G P N (k + 1) (T.data.toList ++ [58] ++ d16 n) ∧ 1 < N)))) := by
                  rcases HT.out with h | ⟨h, hq⟩
                  · obtain ⟨h1, c, h2, h3⟩ := h.next (by omega) HZZ.out HGAP.out
                    exact ⟨c, h2, .inr ⟨h3, .inl h1⟩⟩
                  · obtain ⟨c, h1, h2 | h2⟩ := h.next HZZ.out
                    · exact ⟨c, h1, .inl ⟨h2.1, .inr ⟨h2.2, hq⟩⟩⟩
                    · exact ⟨c, h1, .inr ⟨h2.1, .inr ⟨h2.2, hq⟩⟩⟩
                obtain ⟨c, hlast, ⟨hc, hst⟩ | ⟨hc, hst⟩⟩ := hlast
                · have hlt0 : T.size - 1 < T.size := by have := last_pos hlast; omega
                  have hT0 := last_pos hlast
                  have hx0 : ((T.size : Int) - 1).toNat = T.size - 1 := by omega
                  have hx1 : (0 : Int) ≤ (T.size : Int) - 1 := by omega
                  have hx2 : (T.size : Int) - 1 < (T.size : Int) := by omega
                  have g1 : (0 : Int) < (k : Int) := by omega
                  have g2 : 0 < k := by omega
                  have hcc : ((T[T.size - 1]'hlt0).toNat : Int) = 58 := by rw [last_of T c hlast hlt0, hc]; rfl
                  have HST := Lib.hid hst
                  clear hlast hst hc
                  go_wp2_with fail
                  refine Calls.mono (HD.out _) ?_
                  rintro e w3 ⟨rfl, rfl⟩
                  go_wp2
                  go_round
                  case rel => exact ⟨_, k + 1, by omega, by go_num, rfl, Lib.hid (by rw [ByteArray.size_append]; have := HTs.out; have := HW.out.2; omega), Lib.hid (by rw [app_dat, HW.out.1]; exact HST.out)⟩
                  case measure => simp [intOf]; omega
                · have hlt0 : T.size - 1 < T.size := by have := last_pos hlast; omega
                  have hT0 := last_pos hlast
                  have hx0 : ((T.size : Int) - 1).toNat = T.size - 1 := by omega
                  have hx1 : (0 : Int) ≤ (T.size : Int) - 1 := by omega
                  have hx2 : (T.size : Int) - 1 < (T.size : Int) := by omega
                  have g1 : (0 : Int) < (k : Int) := by omega
                  have g2 : 0 < k := by omega
                  have hcc : ¬ ((T[T.size - 1]'hlt0).toNat : Int) = 58 := by rw [last_of T c hlast hlt0]; exact fun e => hc (by apply UInt8.toNat_inj.1; have e2 : (58 : UInt8).toNat = 58 := rfl; omega)
                  have HST := Lib.hid hst
                  clear hlast hst hc
                  go_wp2_with fail
                  refine Calls.mono (HD.out _) ?_
                  rintro e w3 ⟨rfl, rfl⟩
                  go_wp2
                  go_round
                  case rel => exact ⟨_, k + 1, by omega, by go_num, rfl, Lib.hid (by rw [ByteArray.size_append, ByteArray.size_append]; have e1 : (⟨#[58]⟩ : ByteArray).size = 1 := rfl; have := HTs.out; have := HW.out.2; omega), Lib.hid (by rw [app_dat, app_dat, HW.out.1]; exact HST.out)⟩
                  case measure => simp [intOf]; omega
        · obtain rfl : k = 8 := by omega
          have hki : ¬ ((8 : Nat) : Int) < 8 := by decide
          have he := HEND.out T.data.toList HT.out
          have HE : Hid (T = ⟨(prn true h l).toArray⟩) := Lib.hid (by rw [HX.out, ← he])
          clear he
          go_wp2
          go_ret
          exact ⟨by rw [← HE.out]; rfl, L2.out⟩
theorem dg10_text (n : Nat) (h : n ≤ 255) : (⟨(dg 10 n).toArray⟩ : ByteArray).data.toList = d10 (n : Int) ∧ (⟨(dg 10 n).toArray⟩ : ByteArray).size ≤ 3 := by
  rw [dg_ten n]
  refine ⟨by simp, ?_⟩
  rw [Lib.size_eq]
  show (d10 (n : Int)).toArray.toList.length ≤ 3
  have := d10_len (n : Int) (by omega) (by omega)
  simpa using this
theorem join_first {c : UInt8} {G : List Int} {z : Int} (f : Int → List UInt8) (h : G[0]? = some z) : Lib.join ((G.take 1).map f) [c] = Lib.join ((G.take 0).map f) [c] ++ f z := by
  rw [tk_map f h]; simp [Lib.join_nil, Lib.join_one]
theorem join_next {c : UInt8} {G : List Int} {k : Nat} {z : Int} (f : Int → List UInt8) (h : G[k]? = some z) (h0 : 0 < k) : Lib.join ((G.take (k + 1)).map f) [c] = Lib.join ((G.take k).map f) [c] ++ [c] ++ f z := by
  rw [tk_map f h, join_snoc' c (tk_ne f h h0)]

set_option maxRecDepth 100000 in
set_option maxHeartbeats 3000000 in
theorem rprint_four (h l : Int) (hh : U6 h) (hl : U6 l) (hv : vld false h l = true) (w : World) :
    Calls Tryd.prog 20 #[adr false h l] w fun e w' => e = .returned (.string ⟨(prn false h l).toArray⟩) ∧ Below w.heap.size w w' := by
  have HV := Lib.hid (fun W => rvalid_at false h l W hv)
  have HG := Lib.hid (fun W => rbytes_any false h l hh hl W)
  have eb : byts false h l = putOf 4 l := by unfold byts; rw [hv]; rfl
  have HX : Hid (prn false h l = Lib.join ((putOf 4 l).map d10) [46]) := Lib.hid (by unfold prn; rw [hv]; rfl)
  rw [eb] at HG
  have hgb := putOf_by 4 l
  have h4 := putOf_len 4 l
  obtain ⟨G, hG⟩ : ∃ G, putOf 4 l = G := ⟨_, rfl⟩
  rw [hG] at HG hgb h4 HX
  unfold OutR at HG
  rw [h4] at HG
  have HGB := Lib.hid hgb
  have H4 := Lib.hid h4
  clear hG hgb h4 hh hl hv eb
  obtain ⟨f1, f2, f3⟩ := (Blk.new w 25 #[.bool false, .int .u64 h, .int .u64 l]).c3
  go_enter Tryd.func20, Tryd.ntmps20
  go_wp2_with fail
  refine Calls.mono (HV.out _) ?_
  rintro e w1 ⟨rfl, hb⟩
  have K1 := Lib.hid ((Blk.new w 25 #[.bool false, .int .u64 h, .int .u64 l]).below hb (by simp only [World.size_alloc]; omega))
  have L1 := Lib.hid (((Below.refl _ w).alloc (Nat.le_refl _) (.cells #[.bool false, .int .u64 h, .int .u64 l] 25)).trans (hb.mono (by simp only [World.size_alloc]; omega)))
  clear f1 f2 f3 hb
  obtain ⟨f1, f2, f3⟩ := K1.out.c3
  go_wp2_with fail
  refine Calls.mono (HG.out _) ?_
  rintro e w2 ⟨A, cp, rfl, hri, -, -, hb⟩
  have L2 := Lib.hid (L1.out.trans (hb.mono L1.out.size))
  obtain ⟨b, o, rfl, -, hc⟩ := hri.2.1 (by decide)
  have HC := Lib.hid hc
  clear hri hb f1 f2 f3 hc
  go_wp2
  go_loop [3, 5] (fun t i => ∃ (T : ByteArray) (k : Nat), k ≤ 4 ∧ i = .int .i64 (k : Int) ∧ t = .string T ∧ Hid (T.size ≤ 4 * k) ∧ Hid (T.data.toList = Lib.join ((G.take k).map d10) [46])) (fun _ i => 4 - (intOf i).toNat)
  case atStart => exact ⟨_, 0, by decide, rfl, rfl, Lib.hid (Nat.zero_le _), Lib.hid (by simp [Lib.join_nil])⟩
  case round =>
    obtain ⟨T, k, hk, rfl, rfl, HTs, HT⟩ := hrel
    have hts : T.size ≤ 16 := by have := HTs.out; omega
    by_cases hlt : k < 4
    · obtain ⟨z, hz⟩ : ∃ z, G[k]? = some z := ⟨_, List.getElem?_eq_getElem (by rw [H4.out]; exact hlt)⟩
      have hzb := HGB.out z (List.mem_of_getElem? hz)
      obtain ⟨n, rfl⟩ : ∃ n : Nat, z = (n : Int) := ⟨z.toNat, by omega⟩
      have HZZ := Lib.hid hz
      have hn : n ≤ 255 := by omega
      have hcell := HC.out k _ hz
      have hki : (k : Int) < 4 := by omega
      have HW := Lib.hid (dg10_text n hn)
      have HD := Lib.hid (fun W => rdig_any n 10 10 rfl (by decide) (by decide) (by omega) W)
      obtain ⟨X, hX⟩ : ∃ X : ByteArray, ⟨(dg 10 n).toArray⟩ = X := ⟨_, rfl⟩
      rw [hX] at HW HD
      have hXs := HW.out.2
      have hwz : IntKind.u64.wrap (n : Int) = (n : Int) := by rw [IntKind.wrap_u64]; omega
      clear hz hzb hX hn hlt
      by_cases hk0 : k = 0
      · have HK0 := Lib.hid hk0
        have g1 : ¬ (0 : Int) < (k : Int) := by omega
        have g2 : ¬ 0 < k := by omega
        clear hk0
        go_wp2_with fail
        refine Calls.mono (HD.out _) ?_
        rintro e w3 ⟨rfl, rfl⟩
        go_wp2
        go_round
        case rel => exact ⟨_, k + 1, by omega, by go_num, rfl, Lib.hid (by rw [ByteArray.size_append]; have := HTs.out; have := HW.out.2; omega), Lib.hid (by
          have hz := HZZ.out
          have ht := HT.out
          have hk0 := HK0.out
          subst hk0
          rw [app_dat, HW.out.1, ht, join_first d10 hz])⟩
        case measure => simp [intOf]; omega
      · have g1 : (0 : Int) < (k : Int) := by omega
        have g2 : 0 < k := by omega
        have HK0 := Lib.hid g2
        go_wp2_with fail
        refine Calls.mono (HD.out _) ?_
        rintro e w3 ⟨rfl, rfl⟩
        go_wp2
        go_round
        case rel => exact ⟨_, k + 1, by omega, by go_num, rfl, Lib.hid (by rw [ByteArray.size_append, ByteArray.size_append]; have e1 : (⟨#[46]⟩ : ByteArray).size = 1 := rfl; have := HTs.out; have := HW.out.2; omega), Lib.hid (by rw [app_dat, app_dat, HW.out.1, HT.out, join_next d10 HZZ.out HK0.out])⟩
        case measure => simp [intOf]; omega
    · obtain rfl : k = 4 := by omega
      have hki : ¬ ((4 : Nat) : Int) < 4 := by decide
      have HE : Hid (T = ⟨(prn false h l).toArray⟩) := Lib.hid (by
        have ht := HT.out
        rw [List.take_of_length_le (by rw [H4.out]; exact Nat.le_refl _)] at ht
        rw [HX.out, ← ht])
      go_wp2
      go_ret
      exact ⟨by rw [← HE.out]; rfl, L2.out⟩
set_option maxRecDepth 100000 in
theorem rprint_any (s : Bool) (h l : Int) (hh : U6 h) (hl : U6 l) (w : World) :
    Calls Tryd.prog 20 #[adr s h l] w fun e w' => e = .returned (.string ⟨(prn s h l).toArray⟩) ∧ Below w.heap.size w w' := by
  obtain ⟨V, hV⟩ : ∃ V, vld s h l = V := ⟨_, rfl⟩
  cases V
  · have e : prn s h l = [] := by unfold prn; rw [hV]; rfl
    have HV := Lib.hid (fun W => rvalid_at s h l W hV)
    rw [e]
    clear hV e
    obtain ⟨f1, f2, f3⟩ := (Blk.new w 25 #[.bool s, .int .u64 h, .int .u64 l]).c3
    go_enter Tryd.func20, Tryd.ntmps20
    go_wp2_with fail
    refine Calls.mono (HV.out _) ?_
    rintro e w1 ⟨rfl, hb⟩
    have L1 := ((Below.refl _ w).alloc (Nat.le_refl _) (.cells #[.bool s, .int .u64 h, .int .u64 l] 25)).trans (hb.mono (by simp only [World.size_alloc]; omega))
    clear f1 f2 f3 hb
    go_wp2
    go_ret
    exact ⟨rfl, L1⟩
  · cases s
    · exact rprint_four h l hh hl hV w
    · exact rprint_six h l hh hl w
end Go.Proofs.YtnhlgonldffgoaaDoor
