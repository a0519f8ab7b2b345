/-
  The program's macOf and take of layer 9.
-/
import Derived.Test.YtnligeelbajnpaaNPb
import Derived.Test.YtnligeelbajnpaaNOp
import Derived.Test.YtnligeelbajnpaaNSm
namespace Go.Proofs.Ytnligeelbajnpaa
open Go.RowKit
set_option linter.unusedVariables false

theorem pair9 (a b : Int) (x y : Bool) (h : (x, a) = (y, b)) : Ending.returned (.tuple #[.int .u64 a, .bool x]) = .returned (.tuple #[.int .u64 b, .bool y]) := by
  injection h with h1 h2; rw [h1, h2]
theorem macN_hit {k : Nat} {x : Opt9} {l : List Opt9} (h : x.1.toNat = k ∧ x.2.length = 6) : macN k (x :: l) = (true, numOf (x.2.map fun b => (b.toNat : Int))) := by
  unfold macN macO
  rw [List.find?_cons_of_pos (by simpa using h)]; rfl
theorem macN_miss {k : Nat} {x : Opt9} {l : List Opt9} (h : ¬ (x.1.toNat = k ∧ x.2.length = 6)) : macN k (x :: l) = macN k l := by
  unfold macN macO
  rw [List.find?_cons_of_neg (by simpa using h)]
set_option maxRecDepth 100000 in
set_option maxHeartbeats 8000000 in
theorem nmac_any (l : List Opt9) (kind : Nat) (A : Option Addr) (n c : Nat) (hn : n ≤ 4000000000000) (w : World) (hl : RN w A n l) :
    Calls Try.prog 39 #[.slice A n c, .int .i64 (kind : Int)] w fun e w' => e = .returned (.tuple #[.int .u64 (macN kind l).2, .bool (macN kind l).1]) ∧ Below w.heap.size w w' := by
  have HL := Lib.hid hl
  have HN := Lib.hid hn
  obtain ⟨Y, hY⟩ : ∃ Y, macN kind l = Y := ⟨_, rfl⟩
  have HY := Lib.hid hY
  rw [hY]
  clear hl hn hY
  go_enter Try.func39, Try.ntmps39
  go_wp2
  go_loopw [12] (fun i wr => ∃ j : Nat, j ≤ n ∧ i = .int .i64 (j : Int) ∧ Hid (Below w.heap.size w wr ∧ macN kind (l.drop j) = Y)) (fun i _ => n - (intOf i).toNat)
  case atStart => exact ⟨0, Nat.zero_le _, rfl, Lib.hid ⟨Below.refl _ _, HY.out⟩⟩
  case round =>
    obtain ⟨j, hj, rfl, hH⟩ := hrel
    have hnb := HN.out
    by_cases hlt : j < n
    · have hji : (j : Int) < n := by omega
      obtain ⟨b1, o1, e1, hb1, hc1⟩ := HL.out.2 (by omega)
      subst e1
      obtain ⟨x, hx⟩ : ∃ x, l[j]? = some x := ⟨_, List.getElem?_eq_getElem (by rw [HL.out.1]; exact hlt)⟩
      have hdr : l.drop j = x :: l.drop (j + 1) := by
        obtain ⟨h1, h2⟩ := List.getElem?_eq_some_iff.1 hx
        rw [List.drop_eq_getElem_cons h1, h2]
      obtain ⟨p1, p2⟩ := hc1 j x hx
      rw [← hH.out.1.cell (p := ⟨b1, o1 + j * 2, none⟩) hb1] at p1
      rw [← hH.out.1.cell (p := ⟨b1, o1 + j * 2 + 1, none⟩) hb1] at p2
      obtain ⟨K, hK⟩ : ∃ K : Nat, x.1.toNat = K := ⟨_, rfl⟩
      obtain ⟨D, hD⟩ : ∃ D : ByteArray, (⟨x.2.toArray⟩ : ByteArray) = D := ⟨_, rfl⟩
      have HDs : Hid (D.size = x.2.length) := Lib.hid (by rw [← hD]; rfl)
      have HDb : Hid (byt D = x.2.map fun b => (b.toNat : Int)) := Lib.hid (by rw [← hD]; exact byt_mk x.2)
      rw [hK] at p1
      rw [hD] at p2
      have N0 := Blk.new wr 43 #[.int .i64 (K : Int), .string D]
      have g0 := (N0.cell 0).trans (show _ = some (Value.int .i64 (K : Int)) by rfl)
      have g1 := (N0.cell 1).trans (show _ = some (Value.string D) by rfl)
      have HB1 := Lib.hid (hH.out.1.alloc hH.out.1.size (.cells #[.int .i64 (K : Int), .string D] 43))
      have HM := Lib.hid hH.out.2
      rw [hdr] at HM
      have hw1 : IntKind.i64.wrap ((j : Int) + 1) = (j : Int) + 1 := by rw [IntKind.wrap_i64]; omega
      by_cases hk : K = kind
      · by_cases h6 : D.size = 6
        · have HX : Hid (Y = (true, numOf (byt D))) := Lib.hid (by rw [← HM.out, macN_hit ⟨hK.trans hk, by rw [← HDs.out]; exact h6⟩, HDb.out])
          subst hk
          have hcv := fun W => conv_bytes W D
          have HG : Hid (∀ W : World, Calls Try.prog 35 #[.slice (some ⟨W.heap.size, 0, none⟩) 6 (grownCap W 6 0 5), .int .i64 0, .int .i64 6] (Lib.bytesWorld W 5 D) fun e w' => e = .returned (.tuple #[.int .u64 (numOf (byt D)), .bool true]) ∧ Lib.bytesWorld W 5 D = w') := Lib.hid fun W => by
            have h := bytesWorld_ri W D
            rw [h6] at h
            have := get_yes (Lib.bytesWorld W 5 D) _ _ 6 (grownCap W 6 0 5) 0 6 (byt D) h (by decide) (by decide) (by decide)
            rw [List.drop_zero, List.take_of_length_le (by rw [byt_len, h6]; exact Nat.le_refl _)] at this
            exact this
          have HBW := Lib.hid (fun W => bytesWorld_below W D)
          have hg1 := HG.out (wr.alloc (.cells #[.int .i64 (K : Int), .string D] 43))
          rw [World.size_alloc] at hg1
          have HG1 := Lib.hid hg1
          rw [h6] at hcv
          have hI6 : (D.size : Int) = 6 := by omega
          clear hc1 hx hdr hK hD hnb hlt N0 h6 hg1
          go_wp2_with fail
          refine Calls.mono HG1.out ?_
          rintro e w3 ⟨rfl, hw3⟩
          have L3 : Hid (Below w.heap.size w w3) := Lib.hid (by rw [← hw3]; exact HB1.out.trans ((HBW.out _).mono HB1.out.size))
          clear hw3 g0 g1 p1 p2
          go_wp2
          exact bodyPost_ret (v := .tuple #[.int .u64 (numOf (byt D)), .bool true]) (by simp [results, Try.results39, go_sem]) rfl ⟨by rw [HX.out], L3.out⟩
        · have HX : Hid (macN kind (l.drop (j + 1)) = Y) := Lib.hid (by rw [← HM.out, macN_miss (fun h => h6 (by rw [HDs.out]; exact h.2))])
          have hI6 : ¬ (D.size : Int) = 6 := by omega
          subst hk
          clear hc1 hx hdr hK hD hnb N0 h6
          go_wp2
          go_roundw
          case rel => exact ⟨j + 1, hlt, by go_num, Lib.hid ⟨HB1.out, HX.out⟩⟩
          case measure => simp [intOf]; omega
      · have HX : Hid (macN kind (l.drop (j + 1)) = Y) := Lib.hid (by rw [← HM.out, macN_miss (fun h => hk (hK.symm.trans h.1))])
        have hkI : ((K : Int) == (kind : Int)) = false := by simp; omega
        clear hc1 hx hdr hK hD hnb N0
        go_wp2
        go_roundw
        case rel => exact ⟨j + 1, hlt, by go_num, Lib.hid ⟨HB1.out, HX.out⟩⟩
        case measure => simp [intOf]; omega
    · obtain rfl : j = n := by omega
      have HX : Hid (Y = (false, 0)) := Lib.hid (by rw [← hH.out.2, List.drop_eq_nil_of_le (by rw [HL.out.1]; exact Nat.le_refl _)]; rfl)
      clear hnb hlt hj
      go_wp2
      exact bodyPost_ret (v := .tuple #[.int .u64 0, .bool false]) (by simp [results, Try.results39, go_sem]) rfl ⟨by rw [HX.out], hH.out.1⟩
theorem byt_ext9 (s : ByteArray) (i k : Nat) : byt (s.extract i k) = ((byt s).take k).drop i := by
  unfold byt
  rw [ByteArray.data_extract, Array.toList_extract, List.extract_eq_take_drop, List.map_take, List.map_drop, List.drop_take]
/-- What both messages are taken as. -/
def tkS (m : Ms) (kind : Int) (opt : Nat) : Sol × Int := if (tkN m kind).2 = 0 then (⟨true, (tkN m kind).1.1, (tkN m kind).1.2.1, (macN opt (tkN m kind).1.2.2).1, (macN opt (tkN m kind).1.2.2).2⟩, 0) else (noSol, (tkN m kind).2)
theorem tkS_bad {m : Ms} {kind : Int} {opt : Nat} {e : Int} (h : (tkN m kind).2 = e) (he : e ≠ 0) : tkS m kind opt = (noSol, e) := by unfold tkS; rw [h, if_neg he]
theorem tkS_ok {m : Ms} {kind : Int} {opt : Nat} {h l : Int} {o : List Opt9} (hk : tkN m kind = ((h, l, o), 0)) : tkS m kind opt = (⟨true, h, l, (macN opt o).1, (macN opt o).2⟩, 0) := by unfold tkS; rw [hk]; rfl
theorem ops_few (l : List UInt8) : (ops l).1.length ≤ l.length := by
  refine ops_rec (P := fun l => (ops l).1.length ≤ l.length) ?_ ?_ ?_ ?_ ?_ l
  · rw [ops_nil]; exact Nat.le_refl _
  · intro k; rw [ops_lone]; exact Nat.zero_le _
  · intro k n q h; rw [ops_two, if_pos h]; exact Nat.zero_le _
  · intro k n q h h2; rw [ops_two, if_neg h, if_pos h2]; exact Nat.zero_le _
  · intro k n x z hn hx ih
    rw [ops_step k n x z hn hx]
    unfold consO
    split
    · simp only [List.length_cons, List.length_append]; omega
    · exact Nat.zero_le _
theorem nAt_u6 {l : List Int} (hb : By l) (a : Nat) : U6 (nAt l a 8) := by
  obtain ⟨h1, h2⟩ := numOf_bd _ ((l.drop a).take 8) rfl ((hb.drop a).take 8)
  refine ⟨h1, ?_⟩
  have hl : ((l.drop a).take 8).length ≤ 8 := by rw [List.length_take]; omega
  have : (256 : Int) ^ ((l.drop a).take 8).length ≤ 256 ^ 8 := by
    obtain ⟨k, hk⟩ : ∃ k, ((l.drop a).take 8).length = k := ⟨_, rfl⟩
    rw [hk] at hl ⊢
    match k, hl with
    | 0, _ => decide
    | 1, _ => decide
    | 2, _ => decide
    | 3, _ => decide
    | 4, _ => decide
    | 5, _ => decide
    | 6, _ => decide
    | 7, _ => decide
    | 8, _ => decide
    | k + 9, h => omega
  unfold nAt
  have e8 : (256 : Int) ^ 8 = 18446744073709551616 := by decide
  omega
/-- The two variables that take begins with. -/
theorem take_args (m : Ms) (w : World) : Blk ((w.alloc (.cells (mcs m) 32)).alloc (.cells (solC noSol) 64)) w.heap.size 32 (mcs m) ∧ Blk ((w.alloc (.cells (mcs m) 32)).alloc (.cells (solC noSol) 64)) (w.heap.size + 1) 64 (solC noSol) ∧ Below w.heap.size w ((w.alloc (.cells (mcs m) 32)).alloc (.cells (solC noSol) 64)) := by
  refine ⟨(Blk.new w _ _).alloc _, ?_, ((Below.refl _ w).alloc (Nat.le_refl _) _).alloc (by simp) _⟩
  have := Blk.new (w.alloc (.cells (mcs m) 32)) 64 (solC noSol)
  simpa using this
set_option maxRecDepth 100000 in
set_option maxHeartbeats 16000000 in
theorem ntake_any (m : Ms) (hd : m.d.size ≤ 70000) (kind : Int) (opt : Nat) (w : World) :
    Calls Try.prog 27 #[m.val, .int .i64 kind, .int .i64 (opt : Int)] w fun e w' => e = .returned (.tuple #[(tkS m kind opt).1.val, .int .i64 (tkS m kind opt).2]) ∧ Below w.heap.size w w' := by
  obtain ⟨km, kr, hL0⟩ := take_args m w
  have KM := Lib.hid km
  have KR := Lib.hid kr
  have L0 := Lib.hid hL0
  clear kr hL0
  obtain ⟨S, k, c, r, d⟩ := m
  dsimp only at hd
  obtain ⟨f0, f1, f2, f3, f4⟩ := km.m5
  clear km
  cases S with
  | false =>
    have HX : Hid (tkS ⟨false, k, c, r, d⟩ kind opt = (noSol, 80)) := Lib.hid (tkS_bad (by unfold tkN; rw [if_pos (.inl rfl)]) (by decide))
    go_enter Try.func27, Try.ntmps27
    go_wp2_with (refine wpList_stc 64 5 sizeSub rfl (.tmp 6) (.tmp 29) rfl (w.heap.size + 1) (solC noSol) (solC noSol) rfl (solC_one _) rfl rfl KR.out rfl ?_; intro w9 hk9 hb9; have K9 := Lib.hid hk9; have L9 := Lib.hid (L0.out.trans (hb9.mono (by omega))); clear hk9 hb9)
    obtain ⟨q0, q1, q2, q3, q4⟩ := K9.out.so3
    exact bodyPost_ret (v := .tuple #[Sol.val noSol, .int .i64 80]) (by simp [results, Try.results27, go_sem, noSol, q0, q1, q2, q3, q4]) rfl ⟨by rw [HX.out], L9.out⟩
  | true =>
    by_cases hk : k = kind
    case neg =>
      have HX : Hid (tkS ⟨true, k, c, r, d⟩ kind opt = (noSol, 80)) := Lib.hid (tkS_bad (tkN_kind hk) (by decide))
      go_enter Try.func27, Try.ntmps27
      go_wp2_with (refine wpList_stc 64 5 sizeSub rfl (.tmp 6) (.tmp 29) rfl (w.heap.size + 1) (solC noSol) (solC noSol) rfl (solC_one _) rfl rfl KR.out rfl ?_; intro w9 hk9 hb9; have K9 := Lib.hid hk9; have L9 := Lib.hid (L0.out.trans (hb9.mono (by omega))); clear hk9 hb9)
      obtain ⟨q0, q1, q2, q3, q4⟩ := K9.out.so3
      exact bodyPost_ret (v := .tuple #[Sol.val noSol, .int .i64 80]) (by simp [results, Try.results27, go_sem, noSol, q0, q1, q2, q3, q4]) rfl ⟨by rw [HX.out], L9.out⟩
    subst hk
    by_cases hc : c = 0
    case neg =>
      have HX : Hid (tkS ⟨true, k, c, r, d⟩ k opt = (noSol, 80)) := Lib.hid (tkS_bad (by unfold tkN; rw [if_pos (.inr (.inr hc))]) (by decide))
      go_enter Try.func27, Try.ntmps27
      go_wp2_with (refine wpList_stc 64 5 sizeSub rfl (.tmp 6) (.tmp 29) rfl (w.heap.size + 1) (solC noSol) (solC noSol) rfl (solC_one _) rfl rfl KR.out rfl ?_; intro w9 hk9 hb9; have K9 := Lib.hid hk9; have L9 := Lib.hid (L0.out.trans (hb9.mono (by omega))); clear hk9 hb9)
      obtain ⟨q0, q1, q2, q3, q4⟩ := K9.out.so3
      exact bodyPost_ret (v := .tuple #[Sol.val noSol, .int .i64 80]) (by simp [results, Try.results27, go_sem, noSol, q0, q1, q2, q3, q4]) rfl ⟨by rw [HX.out], L9.out⟩
    subst hc
    have HT : Hid (tkN ⟨true, k, 0, r, d⟩ k = if d.size < 16 then ((0, 0, []), 81) else
      if whmB true (nAt (byt d) 0 8) (nAt (byt d) 8 8) = false then ((0, 0, []), 80) else
      if (ops (d.data.toList.drop 16)).2 ≠ 0 then ((0, 0, []), (ops (d.data.toList.drop 16)).2) else ((nAt (byt d) 0 8, nAt (byt d) 8 8, (ops (d.data.toList.drop 16)).1), 0)) := Lib.hid (by unfold tkN; rw [if_neg (by simp)])
    by_cases h16 : d.size < 16
    · have HX : Hid (tkS ⟨true, k, 0, r, d⟩ k opt = (noSol, 81)) := Lib.hid (tkS_bad (by rw [HT.out, if_pos h16]) (by decide))
      have d1 : (d.size : Int) < 16 := by omega
      go_enter Try.func27, Try.ntmps27
      go_wp2_with (refine wpList_stc 64 5 sizeSub rfl (.tmp 6) (.tmp 35) rfl (w.heap.size + 1) (solC noSol) (solC noSol) rfl (solC_one _) rfl rfl KR.out rfl ?_; intro w9 hk9 hb9; have K9 := Lib.hid hk9; have L9 := Lib.hid (L0.out.trans (hb9.mono (by omega))); clear hk9 hb9)
      obtain ⟨q0, q1, q2, q3, q4⟩ := K9.out.so3
      exact bodyPost_ret (v := .tuple #[Sol.val noSol, .int .i64 81]) (by simp [results, Try.results27, go_sem, noSol, q0, q1, q2, q3, q4]) rfl ⟨by rw [HX.out], L9.out⟩
    rw [if_neg h16] at HT
    have d1 : ¬ (d.size : Int) < 16 := by omega
    have i1 : (16 : Int) ≤ d.size := by omega
    have i2 : 16 ≤ d.size := by omega
    have hH := nAt_u6 (byt_by d) 0
    have hG := nAt_u6 (byt_by d) 8
    have HMay := Lib.hid (fun W => nmay_at true (nAt (byt d) 0 8) (nAt (byt d) 8 8) hH hG W)
    obtain ⟨E, hE⟩ : ∃ E, d.extract 0 16 = E := ⟨_, rfl⟩
    have hE6 : E.size = 16 := by rw [← hE, ByteArray.size_extract]; omega
    have hEb : byt E = (byt d).take 16 := by rw [← hE, byt_ext9, List.drop_zero]
    have HOf : Hid (∀ W : World, Calls Try.prog 37 #[.slice (some ⟨W.heap.size, 0, none⟩) 16 (grownCap W 16 0 5)] (Lib.bytesWorld W 5 E) fun e w' => e = .returned (.tuple #[adr true (nAt (byt d) 0 8) (nAt (byt d) 8 8), .int .i64 0]) ∧ Below W.heap.size W w') := Lib.hid fun W => by
      have h := bytesWorld_ri W E
      rw [hE6] at h
      have h2 := of_any (Lib.bytesWorld W 5 E) _ _ 16 (grownCap W 16 0 5) (byt E) h (Nat.le_refl _) (grownCap_ge W 16 0 _) (grownCap_le_maxLen W 16 0 _ (by decide))
      refine Calls.mono h2 ?_
      rintro e w' ⟨rfl, hb⟩
      refine ⟨?_, (bytesWorld_below W E).trans (hb.mono (bytesWorld_below W E).size)⟩
      unfold ofV
      rw [if_neg (by rw [byt_len, hE6]; decide), if_pos (by rw [byt_len, hE6]), hEb]
      have e1 : ((byt d).take 16).take 8 = ((byt d).drop 0).take 8 := by rw [List.take_take, List.drop_zero]; rfl
      have e2 : ((byt d).take 16).drop 8 = ((byt d).drop 8).take 8 := by rw [List.drop_take]
      rw [e1, e2]; rfl
    have hof := HOf.out ((w.alloc (.cells (mcs ⟨true, k, 0, r, d⟩) 32)).alloc (.cells (solC noSol) 64))
    have hcv := fun W => conv_bytes W E
    rw [hE6] at hcv
    obtain ⟨F, hF⟩ : ∃ F, d.extract 16 d.size = F := ⟨_, rfl⟩
    have HFl : F.data.toList = d.data.toList.drop 16 := by
      rw [← hF, ByteArray.data_extract, Array.toList_extract, List.extract_eq_take_drop]
      exact List.take_of_length_le (by rw [List.length_drop, Array.length_toList]; exact Nat.le_refl _)
    have HOp := Lib.hid (fun W => nopt_any F (by rw [← hF, ByteArray.size_extract]; omega) W)
    rw [HFl] at HOp
    have HFew : Hid ((ops (d.data.toList.drop 16)).1.length ≤ 70000) := Lib.hid (by
      have := ops_few (d.data.toList.drop 16)
      rw [List.length_drop, Array.length_toList] at this
      have : d.data.size = d.size := rfl
      omega)
    obtain ⟨H, hHe⟩ : ∃ H, nAt (byt d) 0 8 = H := ⟨_, rfl⟩
    obtain ⟨G, hGe⟩ : ∃ G, nAt (byt d) 8 8 = G := ⟨_, rfl⟩
    obtain ⟨R, hR⟩ : ∃ R, ops (d.data.toList.drop 16) = R := ⟨_, rfl⟩
    rw [hHe, hGe] at HMay hof HT
    rw [hR] at HT HOp HFew
    rw [whm_may, Bool.true_and] at HT
    simp only [World.size_alloc] at hof
    have HOf := Lib.hid hof
    clear hof hHe hGe hR hE6 hEb hH hG HFl h16 hd
    go_enter Try.func27, Try.ntmps27
    go_wp2_with fail
    refine Calls.mono HOf.out ?_
    rintro e w1 ⟨rfl, hb⟩
    replace hb : Below (w.heap.size + 1 + 1) ((w.alloc (.cells (mcs ⟨true, k, 0, r, d⟩) 32)).alloc (.cells (solC noSol) 64)) w1 := hb
    have R1 := Lib.hid ((KR.out.below hb (by omega)).alloc (.cells #[.bool true, .int .u64 H, .int .u64 G] 24))
    have M1 := Lib.hid ((KM.out.below hb (by omega)).alloc (.cells #[.bool true, .int .u64 H, .int .u64 G] 24))
    have T1 := Lib.hid (Blk.new w1 24 #[.bool true, .int .u64 H, .int .u64 G])
    have L1 := Lib.hid ((L0.out.trans (hb.mono (by omega))).alloc (L0.out.trans (hb.mono (by omega))).size (.cells #[.bool true, .int .u64 H, .int .u64 G] 24))
    clear hb f0 f1 f2 f3 f4 hcv
    obtain ⟨f0, f1, f2⟩ := T1.out.c3
    go_wp2_with fail
    refine Calls.mono (HMay.out _) ?_
    rintro e w2 ⟨rfl, hb⟩
    have R2 := Lib.hid (R1.out.below hb R1.out.lt)
    have M2 := Lib.hid (M1.out.below hb M1.out.lt)
    have T2 := Lib.hid (T1.out.below hb T1.out.lt)
    have L2 := Lib.hid (L1.out.trans (hb.mono L1.out.size))
    clear hb f0 f1 f2
    obtain ⟨B, hB⟩ : ∃ B, mayB true H G = B := ⟨_, rfl⟩
    rw [hB] at HT ⊢
    clear hB
    cases B with
    | false =>
      have HX : Hid (tkS ⟨true, k, 0, r, d⟩ k opt = (noSol, 80)) := Lib.hid (tkS_bad (by rw [HT.out, if_pos rfl]) (by decide))
      go_wp2_with (refine wpList_stc 64 5 sizeSub rfl (.tmp 6) (.tmp 47) rfl (w.heap.size + 1) (solC noSol) (solC noSol) rfl (solC_one _) rfl rfl R2.out rfl ?_; intro w9 hk9 hb9; have K9 := Lib.hid hk9; have L9 := Lib.hid (L2.out.trans (hb9.mono (by omega))); clear hk9 hb9)
      obtain ⟨q0, q1, q2, q3, q4⟩ := K9.out.so3
      exact bodyPost_ret (v := .tuple #[Sol.val noSol, .int .i64 80]) (by simp [results, Try.results27, go_sem, noSol, q0, q1, q2, q3, q4]) rfl ⟨by rw [HX.out], L9.out⟩
    | true =>
      rw [if_neg (by decide)] at HT
      obtain ⟨g0, g1, g2, g3, g4⟩ := M2.out.m5
      go_wp2_with fail
      refine Calls.mono (HOp.out _) ?_
      rintro e w3 ⟨v, rfl, ho, hb⟩
      have R3 := Lib.hid (R2.out.below hb R2.out.lt)
      have T3 := Lib.hid (T2.out.below hb T2.out.lt)
      have L3 := Lib.hid (L2.out.trans (hb.mono L2.out.size))
      obtain ⟨A, cc, rfl, hrn, -, -⟩ := own_rn rfl ho
      have RN3 := Lib.hid hrn
      clear hb ho hrn g0 g1 g2 g3 g4
      obtain ⟨lo, E2⟩ := R
      by_cases hE2 : E2 = 0
      case neg =>
        have HX : Hid (tkS ⟨true, k, 0, r, d⟩ k opt = (noSol, E2)) := Lib.hid (tkS_bad (by rw [HT.out, if_pos hE2]) hE2)
        go_wp2_with (refine wpList_stc 64 5 sizeSub rfl (.tmp 6) (.tmp 57) rfl (w.heap.size + 1) (solC noSol) (solC noSol) rfl (solC_one _) rfl rfl R3.out rfl ?_; intro w9 hk9 hb9; have K9 := Lib.hid hk9; have L9 := Lib.hid (L3.out.trans (hb9.mono (by omega))); clear hk9 hb9)
        obtain ⟨q0, q1, q2, q3, q4⟩ := K9.out.so3
        exact bodyPost_ret (v := .tuple #[Sol.val noSol, .int .i64 E2]) (by simp [results, Try.results27, go_sem, noSol, q0, q1, q2, q3, q4]) rfl ⟨by rw [HX.out], L9.out⟩
      subst hE2
      have HX : Hid (tkS ⟨true, k, 0, r, d⟩ k opt = (⟨true, H, G, (macN opt lo).1, (macN opt lo).2⟩, 0)) := Lib.hid (tkS_ok (by rw [HT.out, if_neg (by simp)]))
      have HMc := Lib.hid (nmac_any lo opt A lo.length cc (by have := HFew.out; dsimp only at this; omega) w3 RN3.out)
      obtain ⟨y, hy⟩ : ∃ y, (macN opt lo).1 = y := ⟨_, rfl⟩
      obtain ⟨mm, hmm⟩ : ∃ mm, (macN opt lo).2 = mm := ⟨_, rfl⟩
      rw [hy, hmm] at HX HMc
      clear hy hmm
      go_wp2_with fail
      refine Calls.mono HMc.out ?_
      rintro e w4 ⟨rfl, hb⟩
      have R4 := Lib.hid (R3.out.below hb R3.out.lt)
      have T4 := Lib.hid (T3.out.below hb T3.out.lt)
      have L4 := Lib.hid (L3.out.trans (hb.mono L3.out.size))
      clear hb
      obtain ⟨f0, f1, f2⟩ := T4.out.c3
      go_wp2_with (refine wpList_stc 64 5 sizeSub rfl (.tmp 6) (.tmp 68) rfl (w.heap.size + 1) (solC ⟨true, H, G, y, mm⟩) (solC noSol) rfl (solC_one _) rfl rfl R4.out rfl ?_; intro w9 hk9 hb9; have K9 := Lib.hid hk9; have L9 := Lib.hid (L4.out.trans (hb9.mono (by omega))); clear hk9 hb9)
      obtain ⟨q0, q1, q2, q3, q4⟩ := K9.out.so3
      exact bodyPost_ret (v := .tuple #[Sol.val ⟨true, H, G, y, mm⟩, .int .i64 0]) (by simp [results, Try.results27, go_sem, q0, q1, q2, q3, q4]) rfl ⟨by rw [HX.out], L9.out⟩
end Go.Proofs.Ytnligeelbajnpaa
