/-
  The document's own wheel (layer 17): Add, Cancel, Tick.
-/
import Derived.Test.YthkjfgegmbdebaaWhQ
namespace Go.Proofs.Ythkjfgegmbdebaa
open Go.RowKit
set_option linter.unusedVariables false

theorem due_take {L : List TmI} {T i : Nat} {x : TmI} (h : L[i]? = some x) : dueL (L.take (i + 1)) T = dueL (L.take i) T ++ (if x.2.1 = T then [x] else []) ∧ tikL (L.take (i + 1)) T = tikL (L.take i) T ++ (if x.2.1 = T then [] else [x]) := by
  rw [take_at h]
  unfold dueL tikL
  rw [List.filter_append, List.filter_append]
  by_cases e : x.2.1 = T
  · simp [e]
  · simp [e]
section
variable {w w' : World} {d t n c : Nat} {A : Option Addr} {L : List TmI} {F : List Nat}
set_option maxRecDepth 100000 in
set_option maxHeartbeats 4000000 in
theorem raddW (h : WD w d t L F) (hn : L.length ≤ 1000) (ht : t ≤ 100000000) (a : Nat) (id after : Int) :
    Calls Try.prog 12 #[ptrV d, .int .i64 id, .int .i64 after] w fun e w' => e = .returned (.int .i64 (addE L id after)) ∧ ∃ F', WD w' d t (addL L t a id after) F' ∧ Goes w w' F F' := by
  have HP := Lib.hid h
  obtain ⟨A, n, c, h, rfl⟩ := h
  by_cases g1 : after < 1
  · have HE : Hid (addE L id after = 1) := Lib.hid (by unfold addE; rw [if_pos (.inl g1)])
    clear h
    go_enter Try.func12, Try.ntmps12
    go_wp2
    go_ret
    exact ⟨by rw [HE.out]; rfl, _, by unfold addL; rw [HE.out, if_neg (by decide)]; exact HP.out, Goes.of_nil (Tch.refl _ _) _⟩
  by_cases g2 : 4095 < after
  · have HE : Hid (addE L id after = 1) := Lib.hid (by unfold addE; rw [if_pos (.inr g2)])
    clear h
    go_enter Try.func12, Try.ntmps12
    go_wp2
    go_ret
    exact ⟨by rw [HE.out]; rfl, _, by unfold addL; rw [HE.out, if_neg (by decide)]; exact HP.out, Goes.of_nil (Tch.refl _ _) _⟩
  have HA := Lib.hid (at_any h (by rw [← h.len]; exact hn) id)
  obtain ⟨z, hz⟩ : ∃ z : Int, (wAt L id : Int) - 1 = z := ⟨_, rfl⟩
  rw [hz] at HA
  by_cases h0 : wAt L id = 0
  · have z0 : ¬ (0 : Int) ≤ z := by omega
    have c1 := h.c1
    have c0 := h.c0
    by_cases g3 : 1000 ≤ L.length
    · have HE : Hid (addE L id after = 161) := Lib.hid (by unfold addE; rw [if_neg (by omega), if_neg (by omega), if_pos g3])
      have g4 : (1000 : Int) ≤ (n : Int) := by have := h.len; omega
      clear h hz h0 g3
      go_enter Try.func12, Try.ntmps12
      go_wp2_with fail
      refine Calls.mono HA.out ?_
      rintro e w' ⟨rfl, rfl⟩
      go_wp2
      go_ret
      exact ⟨by rw [HE.out]; rfl, _, by unfold addL; rw [HE.out, if_neg (by decide)]; exact HP.out, Goes.of_nil (Tch.refl _ _) _⟩
    · have HE : Hid (addE L id after = 0) := Lib.hid (by unfold addE; rw [if_neg (by omega), if_neg (by omega), if_neg g3])
      have g4 : ¬ (1000 : Int) ≤ (n : Int) := by have := h.len; omega
      obtain ⟨af, haf⟩ : ∃ af : Nat, after = (af : Int) := ⟨after.toNat, by omega⟩
      subst haf
      have HL : Hid (addL L t a id (af : Int) = L ++ [(id, t + af, a)]) := Lib.hid (by unfold addL; rw [HE.out, if_pos rfl]; rfl)
      rw [HE.out, HL.out]
      have w1 : IntKind.i64.wrap ((t : Int) + (af : Int)) = (t : Int) + (af : Int) := by rw [IntKind.wrap_i64]; omega
      have HH := Lib.hid h
      have HT4 : Hid (Tch w (w.drew.alloc (.cells #[.int .i64 id, .int .i64 ((t : Int) + (af : Int))] 60)) []) := Lib.hid ((Tch.refl w []).drew.alloc _)
      have HR4 := Lib.hid (own_tch h.row HT4.out (by simp))
      have HSr := Lib.hid (src_new w.drew 60 [.int .i64 id, .int .i64 ((t : Int) + (af : Int))])
      have HN4 : Hid (n ≤ 1000000) := Lib.hid (by have := h.len; omega)
      have c1d : w.drew.cell? ⟨d, 1, none⟩ = some (.slice A n c) := c1
      have c0d : w.drew.cell? ⟨d, 0, none⟩ = some (.int .i64 (t : Int)) := c0
      have c3 : (w.alloc (.cells #[.int .i64 id, .int .i64 ((t : Int) + (af : Int))] 60)).cell? ⟨d, 1, none⟩ = some (.slice A n c) := (((Tch.refl w []).alloc _).cell (p := ⟨d, 1, none⟩) h.blk.lt (by simp)).trans c1
      clear h hz h0 g3 hn
      go_enter Try.func12, Try.ntmps12
      go_wp2_with fail
      refine Calls.mono HA.out ?_
      rintro e w' ⟨rfl, rfl⟩
      go_wp2
      go_region_law (refine step_apc 40 60 (.agg #[.int .i64 0, .int .i64 0]) 2 16 Try.underlying40 infoDt rfl (by decide) (by decide) rfl (.tmp 27) (.tmp 36) rfl 0 (.slice A n c) n (L.flatMap dtC) (by simp [Act.eval]) HR4.out ⟨w'.heap.size, 0, none⟩ 1 [.int .i64 id, .int .i64 ((t : Int) + (af : Int))] (by simp [Act.eval]) rfl (fun j u hj => HSr.out j u hj) (by simp [Value.oneCell']) HN4.out (Nat.zero_le _) ?_; intro v9 w9 hown hg hv; obtain ⟨A9, q9, e9, -, -⟩ := own_sl hown; subst e9; have hTg := Tch.of_grown' (S := obI (.slice A n c)) hg (fun k e => by rw [obI_some e]; simp); have HT9 : Hid (Tch w' w9 (obI (.slice A n c))) := Lib.hid ((HT4.out.mono (by simp)).trans hTg); have HR9 := Lib.hid hown; have HV9 := Lib.hid hv; have c9 := (HT9.out.cell (p := ⟨d, 1, none⟩) HH.out.blk.lt HH.out.non).trans c1; have f9 := (HT9.out.blk HH.out.blk HH.out.non).frozen 1; clear hown hg hv hTg)
      all_goals
        clear c9 f9 c3 c1d c0d
        obtain ⟨h5, h6⟩ := HH.out.set_ HT9.out (A' := A9) (n' := n + 1) (c' := q9) (L' := L ++ [(id, t + af, a)]) (by rw [List.flatMap_append]; simpa [dtC] using HR9.out) (by rw [List.length_append, HH.out.len]; rfl) (fun s hs => by
          rcases HV9.out with e | e
          · exact .inl (by unfold obI at hs ⊢; rw [e] at hs; exact hs)
          · rw [obI_some e] at hs
            have h2 : s = w'.heap.size + 1 := (List.mem_singleton.1 hs).trans (World.size_alloc _ _)
            exact .inr (by omega))
        go_wp2
        go_ret
        exact ⟨rfl, _, ⟨A9, n + 1, q9, h5, rfl⟩, h6⟩
  · have z0 : (0 : Int) ≤ z := by omega
    have HE : Hid (addE L id after = 160) := Lib.hid (by unfold addE; rw [if_neg (by omega), if_pos h0])
    clear h hz h0
    go_enter Try.func12, Try.ntmps12
    go_wp2_with fail
    refine Calls.mono HA.out ?_
    rintro e w' ⟨rfl, rfl⟩
    go_wp2
    go_ret
    exact ⟨by rw [HE.out]; rfl, _, by unfold addL; rw [HE.out, if_neg (by decide)]; exact HP.out, Goes.of_nil (Tch.refl _ _) _⟩
set_option maxRecDepth 100000 in
set_option maxHeartbeats 4000000 in
theorem rcanW (h : WD w d t L F) (hn : L.length ≤ 1000) (hnd : (L.map Prod.fst).Nodup) (id : Int) :
    Calls Try.prog 14 #[ptrV d, .int .i64 id] w fun e w' => e = .returned (.bool (decide (wAt L id ≠ 0))) ∧ ∃ F', WD w' d t (canL L id) F' ∧ Goes w w' F F' := by
  have HP := Lib.hid h
  obtain ⟨A, n, c, h, rfl⟩ := h
  have HA := Lib.hid (at_any h (by rw [← h.len]; exact hn) id)
  obtain ⟨z, hz⟩ : ∃ z : Int, (wAt L id : Int) - 1 = z := ⟨_, rfl⟩
  rw [hz] at HA
  by_cases h0 : wAt L id = 0
  · have z0 : z < 0 := by omega
    have HE := Lib.hid (And.intro h0 (canL_none (wAt_zero.1 h0)))
    clear h hz h0
    go_enter Try.func14, Try.ntmps14
    go_wp2_with fail
    refine Calls.mono HA.out ?_
    rintro e w' ⟨rfl, rfl⟩
    go_wp2
    go_ret
    exact ⟨by rw [HE.out.1]; rfl, _, by rw [HE.out.2]; exact HP.out, Goes.of_nil (Tch.refl _ _) _⟩
  · obtain ⟨i, hi⟩ : ∃ i, wAt L id = i + 1 := ⟨wAt L id - 1, by omega⟩
    have hiL := wAt_le L id
    rw [hi, h.len] at hiL
    obtain rfl : z = (i : Int) := by omega
    have HE := Lib.hid (And.intro h0 (canL_erase hnd hi))
    obtain ⟨g, rfl⟩ := slice_some h.row (by omega)
    have c1 := h.c1
    obtain ⟨A1, hA1, hcells, hlen⟩ := row_rest (k := i + 1) dt_two h.row h.len (by omega)
    have hrow1 := own_take h.row (k := i) (by omega)
    rw [flatk_take dt_two] at hrow1
    have HRow1 := Lib.hid hrow1
    have HCells := Lib.hid hcells
    have HLen := Lib.hid hlen
    obtain ⟨r, hr⟩ : ∃ r, n - (i + 1) = r := ⟨_, rfl⟩
    rw [hr] at HLen
    have HNil : Hid (w.ownsRow w.heap.size 60 2 (.slice none 0 0) 0 []) := Lib.hid ⟨rfl, .inl ⟨rfl, rfl⟩⟩
    have hn9 : n ≤ 1000 := by rw [← h.len]; exact hn
    have HSz : Hid (0 + i ≤ 1000000 ∧ 0 + i + r ≤ 1000000) := Lib.hid (by omega)
    have HEr : Hid ([] ++ (L.take i).flatMap dtC ++ (L.drop (i + 1)).flatMap dtC = (L.eraseIdx i).flatMap dtC ∧ (L.eraseIdx i).length = 0 + i + r) := Lib.hid (by
      rw [List.eraseIdx_eq_take_drop_succ, List.flatMap_append, List.length_append, List.length_take, List.length_drop, h.len]
      exact ⟨rfl, by omega⟩)
    have HTl := Lib.hid h.blk.lt
    have j1 : IntKind.i64.wrap ((i : Int) + 1) = (i : Int) + 1 := by rw [IntKind.wrap_i64]; omega
    have hnc' : n ≤ c := by
      obtain ⟨_, _, e, h9, _⟩ := own_sl h.row
      injection e with e1 e2 e3
      omega
    have hic : (i : Int) ≤ (c : Int) := by omega
    have hi0 : (0 : Int) ≤ (i : Int) := by omega
    have hib : (0 : Int) ≤ (i : Int) + 1 ∧ (i : Int) + 1 ≤ (n : Int) := by omega
    have z0 : ¬ (i : Int) < 0 := by omega
    have HH := Lib.hid h
    clear h hz h0 hi hn hnd hrow1 hcells hlen
    go_enter Try.func14, Try.ntmps14
    go_wp2_with fail
    refine Calls.mono HA.out ?_
    rintro e w' ⟨rfl, rfl⟩
    go_wp2_with (first
      | (at_builtin; (refine wpList_apm 40 60 (.agg #[.int .i64 0, .int .i64 0]) 2 16 Try.underlying40 infoDt rfl (by decide) (by decide) _ rfl (.tmp 12) (.tmp 18) rfl w'.heap.size (.slice none 0 0) 0 [] rfl HNil.out 0 (.slice (some ⟨g, 0, none⟩) i c) i ((L.take i).flatMap dtC) rfl HRow1.out (dts_one _) HSz.out.1 (Nat.le_refl _) ?_; intro v5 w5 hown hg hv; have hT5 : Tch w' w5 [] := Tch.of_grown' hg (fun g e => by cases e); have c5 := (hT5.cell (p := ⟨d, 1, none⟩) HTl.out (by simp)).trans c1; have HC5 := Lib.hid (HCells.out w5 hT5); have HO5 := Lib.hid hown; have HT5 := Lib.hid hT5; clear hown hg hv hT5 c1))
      | (at_builtin; (refine wpList_apx 40 60 (.agg #[.int .i64 0, .int .i64 0]) 2 16 Try.underlying40 infoDt rfl (by decide) (by decide) _ rfl (.tmp 21) (.tmp 28) rfl w'.heap.size v5 (0 + i) _ rfl HO5.out A1 r (c - (i + 1)) _ rfl HLen.out HC5.out (dts_one _) HSz.out.2 HT5.out.size ?_; intro v7 w7 hown hg hv; obtain ⟨A7, c7, e7, -, -⟩ := own_sl hown; subst e7; have hT7 : Tch w' w7 [] := HT5.out.trans_fre (Tch.of_grown' (S := obI v5) hg (fun k e => by rw [obI_some e]; simp)) (fun s hs => .inr (own_geI HO5.out s hs).1); have hGe := fun s hs => (own_geI hown s hs).1; obtain ⟨h8, h9⟩ := HH.out.set_ (hT7.mono (by simp)) (A' := A7) (n' := 0 + i + r) (c' := c7) (L' := L.eraseIdx i) (by rw [← HEr.out.1]; exact own_mono hown (Nat.zero_le _)) HEr.out.2 (fun s hs => .inr (hGe s hs)); have c7' := (hT7.cell (p := ⟨d, 1, none⟩) HTl.out (by simp)).trans HH.out.c1; have f7 := (hT7.blk HH.out.blk (by simp)).frozen 1; have e0i : 0 + i + r = i + r := (by omega); rw [e0i] at h8 h9; have H8 := Lib.hid h8; have H9 := Lib.hid h9; clear hown hg hv hT7 h8 h9 hGe)))
    go_ret
    exact ⟨by simp [HE.out.1], _, by rw [HE.out.2]; exact ⟨A7, i + r, c7, H8.out, rfl⟩, H9.out⟩
set_option maxRecDepth 100000 in
set_option maxHeartbeats 4000000 in
theorem rtickW (h : WD w d t L F) (hn : L.length ≤ 1000) (ht : t ≤ 90000000) (hd : ∀ x ∈ L, x.2.1 ≤ t + 4095) :
    Calls Try.prog 18 #[ptrV d] w fun e w' => ∃ A c F', e = .returned (.slice A (dueL L (t + 1)).length c) ∧ w'.ownsRow w.heap.size 3 1 (.slice A (dueL L (t + 1)).length c) (dueL L (t + 1)).length (idsV (dueL L (t + 1))) ∧ WD w' d (t + 1) (tikL L (t + 1)) F' ∧ Goes w w' F F' := by
  obtain ⟨A, n, c, h, rfl⟩ := h
  have c0 := h.c0
  have f0 := h.blk.frozen 0
  have w1 : IntKind.i64.wrap ((t : Int) + 1) = ((t + 1 : Nat) : Int) := by rw [IntKind.wrap_i64]; omega
  obtain ⟨T, hT⟩ : ∃ T, t + 1 = T := ⟨_, rfl⟩
  rw [hT] at w1 ⊢
  obtain ⟨W1, hW1⟩ : ∃ W, w.setCell ⟨d, 0, none⟩ (.int .i64 (T : Int)) = W := ⟨_, rfl⟩
  have hT1 : Tch w W1 [d] := hW1 ▸ (Tch.refl w [d]).set_ (by simp) _
  have hK1 : WDM W1 d T A n c L := ⟨by rw [← hW1]; exact h.blk.set_ 0 _, own_tch h.row hT1 (fun s hs e => h.non (by rw [List.mem_singleton.1 e] at hs; exact hs)), h.len, h.non⟩
  have HW1 := Lib.hid hW1
  have HT1 := Lib.hid hT1
  have HK := Lib.hid (fun W (hT : Tch W1 W []) => hK1.tch hT (by simp))
  have HN : Hid (L.length = n ∧ n ≤ 1000 ∧ T ≤ 90000001) := Lib.hid ⟨h.len, by rw [← h.len]; exact hn, by omega⟩
  have HD : Hid (∀ x ∈ L, x.2.1 ≤ 100000000) := Lib.hid (fun x hx => by have := hd x hx; omega)
  have HTk := Lib.hid (fun (i : Nat) (x : TmI) (hx : L[i]? = some x) => due_take (T := T) hx)
  have HAll : Hid (L.take n = L) := Lib.hid (List.take_of_length_le (by rw [h.len]; exact Nat.le_refl _))
  obtain ⟨B, hB⟩ : ∃ B, w.heap.size = B := ⟨_, rfl⟩
  have HB : Hid (W1.heap.size = B ∧ w.heap.size = B) := Lib.hid ⟨by rw [← hW1, World.size_setCell, hB], hB⟩
  clear h hd hn ht hT hW1 hT1 hK1 hB
  go_enter Try.func18, Try.ntmps18
  go_wp2_with fail
  rw [HW1.out]
  clear c0 f0 w1
  go_loopw [3, 4, 5] (fun ov lv iv wr => ∃ (i m1 m2 : Nat) (A1 A2 : Option Addr) (c1 c2 : Nat), ov = .slice A1 m1 c1 ∧ lv = .slice A2 m2 c2 ∧ iv = .int .i64 (i : Int) ∧ i ≤ n ∧ Hid ((dueL (L.take i) T).length = m1 ∧ (tikL (L.take i) T).length = m2 ∧ m1 + m2 = i) ∧
    Hid (wr.ownsRow B 3 1 (.slice A1 m1 c1) m1 (idsV (dueL (L.take i) T))) ∧ Hid (wr.ownsRow B 60 2 (.slice A2 m2 c2) m2 ((tikL (L.take i) T).flatMap dtC)) ∧ Hid (∀ s ∈ obI (.slice A1 m1 c1), s ∉ obI (.slice A2 m2 c2)) ∧ Hid (Tch W1 wr [])) (fun _ _ iv _ => n - (intOf iv).toNat)
  case atStart => exact ⟨0, 0, 0, none, none, 0, 0, rfl, rfl, rfl, Nat.zero_le _, Lib.hid ⟨rfl, rfl, rfl⟩, Lib.hid ⟨rfl, .inl ⟨rfl, rfl⟩⟩, Lib.hid ⟨rfl, .inl ⟨rfl, rfl⟩⟩, Lib.hid (by simp [obI, Value.ownBlock]), Lib.hid (Tch.refl _ _)⟩
  case round =>
    obtain ⟨i, m1, m2, A1, A2, q1, q2, rfl, rfl, rfl, hi, hM, hR1, hR2, hDj, hT⟩ := hrel
    have hk := HK.out wr hT.out
    have c0 := hk.c0
    have c1 := hk.c1
    by_cases hin : i < n
    · have iI : (i : Int) < (n : Int) := by omega
      have i0 : (0 : Int) ≤ (i : Int) := by omega
      have i1 : IntKind.i64.wrap ((i : Int) + 1) = (i : Int) + 1 := by have := HN.out; rw [IntKind.wrap_i64]; omega
      obtain ⟨x, hx⟩ : ∃ x, L[i]? = some x := ⟨_, List.getElem?_eq_getElem (by rw [HN.out.1]; exact hin)⟩
      obtain ⟨g, rfl⟩ := slice_some hk.row (by omega)
      obtain ⟨e0, e1⟩ := dt_cells hk.row hx
      have htk := HTk.out i x hx
      have HCl : Hid (∀ W, Tch wr W [] → W.cell? ⟨d, 1, none⟩ = some (.slice (some ⟨g, 0, none⟩) n c) ∧ W.cell? ⟨g, i * 2, none⟩ = some (.int .i64 x.1) ∧ W.cell? ⟨g, i * 2 + 1, none⟩ = some (.int .i64 (x.2.1 : Int))) := Lib.hid (fun W hW => by
        have h9 := hk.tch hW (by simp)
        exact ⟨h9.c1, dt_cells h9.row hx⟩)
      have HSm : Hid (m1 ≤ 1000000 ∧ m2 ≤ 1000000 ∧ B ≤ wr.heap.size) := Lib.hid (by have h1 := hM.out; have h2 := HN.out; have h3 := hT.out.size; have h4 := HB.out; omega)
      by_cases hdv : x.2.1 = T
      · have g1 : ((x.2.1 : Int) == (T : Int)) = true := by simp; omega
        rw [if_pos hdv, if_pos hdv, List.append_nil] at htk
        have HTk' := Lib.hid htk
        have HI := Lib.hid (And.intro hin i1)
        obtain ⟨x0, x1, x2⟩ := x
        simp only at e0 e1 g1 HCl
        clear hk hx htk hdv
        go_wp2
        go_quiet (fail)
        obtain ⟨W2, hW2⟩ : ∃ W, wr.drewN nq = W := ⟨_, rfl⟩
        have HT2 : Hid (Tch wr W2 []) := Lib.hid (hW2 ▸ (Tch.refl wr []).drewN nq)
        rw [hW2]
        clear hW2 c0 c1 e0 e1
        obtain ⟨c1, e0, e1⟩ := HCl.out W2 HT2.out
        have HT8 : Hid (Tch wr (W2.alloc (.cells #[.int .i64 x0] 3)) []) := Lib.hid (HT2.out.alloc _)
        have HR8 := Lib.hid (own_tch hR1.out HT8.out (by simp))
        have HSr := Lib.hid (src_new W2 3 [.int .i64 x0])
        have HB8 : Hid (B ≤ (W2.alloc (.cells #[.int .i64 x0] 3)).heap.size) := Lib.hid (by have h1 := HT8.out.size; have h2 := HSm.out; omega)
        have i1 := HI.out.2
        go_wp2_with (at_builtin; (refine wpList_apc 34 3 (.int .i64 0) 1 8 Try.underlying34 infoI rfl (by decide) (by decide) _ rfl (.tmp 35) (.tmp 44) rfl B (.slice A1 m1 q1) m1 (idsV (dueL (L.take i) T)) rfl HR8.out ⟨W2.heap.size, 0, none⟩ 1 [.int .i64 x0] rfl rfl (fun j u hj => HSr.out j u hj) (by simp [Value.oneCell']) HSm.out.1 HB8.out ?_; intro v9 w9 hown hg hv; obtain ⟨A9, q9, e9, -, -⟩ := own_sl hown; subst e9; have hTg := Tch.of_grown' (S := obI (.slice A1 m1 q1)) hg (fun k e => by rw [obI_some e]; simp); have HT9 : Hid (Tch wr w9 (obI (.slice A1 m1 q1))) := Lib.hid ((HT8.out.mono (by simp)).trans hTg); have HR9 := Lib.hid hown; have HD9 : Hid (∀ s ∈ obI (.slice A9 (m1 + 1) q9), s ∉ obI (.slice A2 m2 q2)) := Lib.hid (fun s hs h9 => by (rcases hv with e | e; (exact hDj.out s (by unfold obI at hs ⊢; rw [e] at hs; exact hs) h9); (rw [obI_some e] at hs; have h2 : s = W2.heap.size + 1 := (List.mem_singleton.1 hs).trans (World.size_alloc _ _); have h3 := own_lts hR2.out s h9; have h4 := HT2.out.size; omega))); clear hown hg hv hTg))
        clear c1 e0 e1
        go_roundw
        case rel => exact ⟨i + 1, m1 + 1, m2, A9, A2, q9, q2, rfl, rfl, by go_num, HI.out.1, Lib.hid (by rw [HTk'.out.1, HTk'.out.2, List.length_append]; have := hM.out; simp; omega), Lib.hid (by rw [HTk'.out.1]; unfold idsV; rw [List.map_append]; exact HR9.out), Lib.hid (by rw [HTk'.out.2]; exact own_tch hR2.out HT9.out (fun s hs h9 => hDj.out s h9 hs)), HD9, Lib.hid (hT.out.trans_fre HT9.out (fun s hs => .inr (by have h1 := own_ge hR1.out s hs; have h2 := HB.out; omega)))⟩
        case measure => have := HI.out; simp [intOf]; omega
      · have g1 : ((x.2.1 : Int) == (T : Int)) = false := by simp; omega
        rw [if_neg hdv, if_neg hdv, List.append_nil] at htk
        have HTk' := Lib.hid htk
        have HI := Lib.hid (And.intro hin i1)
        obtain ⟨x0, x1, x2⟩ := x
        simp only at e0 e1 g1 HCl
        clear hk hx htk hdv
        go_wp2
        go_quiet (fail)
        obtain ⟨W2, hW2⟩ : ∃ W, wr.drewN nq = W := ⟨_, rfl⟩
        have HT2 : Hid (Tch wr W2 []) := Lib.hid (hW2 ▸ (Tch.refl wr []).drewN nq)
        rw [hW2]
        clear hW2 c0 c1 e0 e1
        obtain ⟨c1, e0, e1⟩ := HCl.out W2 HT2.out
        have HT8 : Hid (Tch wr (W2.alloc (.cells #[.int .i64 x0, .int .i64 (x1 : Int)] 60)) []) := Lib.hid (HT2.out.alloc _)
        have HR8 := Lib.hid (own_tch hR2.out HT8.out (by simp))
        have HSr := Lib.hid (src_new W2 60 [.int .i64 x0, .int .i64 (x1 : Int)])
        have HB8 : Hid (B ≤ (W2.alloc (.cells #[.int .i64 x0, .int .i64 (x1 : Int)] 60)).heap.size) := Lib.hid (by have h1 := HT8.out.size; have h2 := HSm.out; omega)
        have i1 := HI.out.2
        go_wp2_with (at_builtin; (refine wpList_apc 40 60 (.agg #[.int .i64 0, .int .i64 0]) 2 16 Try.underlying40 infoDt rfl (by decide) (by decide) _ rfl (.tmp 46) (.tmp 54) rfl B (.slice A2 m2 q2) m2 ((tikL (L.take i) T).flatMap dtC) rfl HR8.out ⟨W2.heap.size, 0, none⟩ 1 [.int .i64 x0, .int .i64 (x1 : Int)] rfl rfl (fun j u hj => HSr.out j u hj) (by simp [Value.oneCell']) HSm.out.2.1 HB8.out ?_; intro v9 w9 hown hg hv; obtain ⟨A9, q9, e9, -, -⟩ := own_sl hown; subst e9; have hTg := Tch.of_grown' (S := obI (.slice A2 m2 q2)) hg (fun k e => by rw [obI_some e]; simp); have HT9 : Hid (Tch wr w9 (obI (.slice A2 m2 q2))) := Lib.hid ((HT8.out.mono (by simp)).trans hTg); have HR9 := Lib.hid hown; have HD9 : Hid (∀ s ∈ obI (.slice A1 m1 q1), s ∉ obI (.slice A9 (m2 + 1) q9)) := Lib.hid (fun s hs h9 => by (rcases hv with e | e; (exact hDj.out s hs (by unfold obI at h9 ⊢; rw [e] at h9; exact h9)); (rw [obI_some e] at h9; have h2 : s = W2.heap.size + 1 := (List.mem_singleton.1 h9).trans (World.size_alloc _ _); have h3 := own_lts hR1.out s hs; have h4 := HT2.out.size; omega))); clear hown hg hv hTg))
        clear c1 e0 e1
        go_roundw
        case rel => exact ⟨i + 1, m1, m2 + 1, A1, A9, q1, q9, rfl, rfl, by go_num, HI.out.1, Lib.hid (by rw [HTk'.out.1, HTk'.out.2, List.length_append]; have := hM.out; simp; omega), Lib.hid (by rw [HTk'.out.1]; exact own_tch hR1.out HT9.out hDj.out), Lib.hid (by rw [HTk'.out.2, List.flatMap_append]; simpa [dtC] using HR9.out), HD9, Lib.hid (hT.out.trans_fre HT9.out (fun s hs => .inr (by have h1 := own_ge hR2.out s hs; have h2 := HB.out; omega)))⟩
        case measure => have := HI.out; simp [intOf]; omega
    · have iI : ¬ (i : Int) < (n : Int) := by omega
      obtain rfl : i = n := by omega
      have HH := Lib.hid hk
      have f1 := hk.blk.frozen 1
      have hm := hM.out
      have hr1 := hR1.out
      have hr2 := hR2.out
      rw [HAll.out] at hm hr1 hr2
      obtain ⟨h5, h6⟩ := (HK.out W1 (Tch.refl _ _)).set_ (hT.out.mono (by simp)) (A' := A2) (n' := m2) (c' := q2) (L' := tikL L T) (own_mono hr2 (Nat.zero_le _)) hm.2.1 (fun s hs => .inr (by rw [HB.out.1]; exact own_ge hr2 s hs))
      have H5 := Lib.hid h5
      have H6 : Hid (Goes w (wr.setCell ⟨d, 1, none⟩ (.slice A2 m2 q2)) (d :: obI (.slice A i c)) (d :: obI (.slice A2 m2 q2))) := Lib.hid ((Goes.of_tch (HT1.out.mono (by simp))).trans_ h6)
      have HR1 := Lib.hid hr1
      have HM := Lib.hid hm
      have HD1 : Hid (∀ s ∈ obI (.slice A1 m1 q1), s ∉ [d]) := Lib.hid (fun s hs h9 => by
        have h1 := own_ge hr1 s hs
        have h2 := (HK.out W1 (Tch.refl _ _)).blk.lt
        have h3 := HB.out.1
        rw [List.mem_singleton.1 h9] at h1; omega)
      clear hk hm hr1 hr2 h5 h6
      go_wp2
      go_ret
      refine ⟨A1, q1, by rw [HM.out.1]; rfl, ?_, d :: obI (.slice A2 m2 q2), ⟨A2, m2, q2, H5.out, rfl⟩, H6.out⟩
      rw [HM.out.1, HB.out.2]
      exact own_tch HR1.out ((Tch.refl wr [d]).set_ (p := ⟨d, 1, none⟩) (by simp) _) HD1.out
end
end Go.Proofs.Ythkjfgegmbdebaa
