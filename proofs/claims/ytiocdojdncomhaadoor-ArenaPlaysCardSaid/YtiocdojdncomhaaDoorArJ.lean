/-
  The program's own arena (layer 10): Give.
-/
import Derived.Test.YtiocdojdncomhaaDoorArK
namespace Go.Proofs.YtiocdojdncomhaaDoor
open Go.RowKit Go.Maps
set_option linter.unusedVariables false

theorem sumB_erase {p o : Nat} : ∀ {L : List Bl}, L.Pairwise (fun a b => a.1 + 2 ^ a.2 ≤ b.1) → (p, o) ∈ L → sumB (L.eraseP fun b => decide (b.1 = p)) + 2 ^ o = sumB L
  | [], _, h => by cases h
  | b :: L, h, hm => by
    obtain ⟨h1, h2⟩ := List.pairwise_cons.1 h
    rw [List.eraseP_cons]
    by_cases hb : b.1 = p
    · have e : b = (p, o) := row_at h (by simp) hm hb
      subst e
      simp only [decide_true, cond_true]
      rw [sumB_cons]
      show sumB L + 2 ^ o = 2 ^ o + sumB L
      omega
    · have hm2 : (p, o) ∈ L := by
        rcases List.mem_cons.1 hm with e | e
        · rw [← e] at hb; exact absurd rfl hb
        · exact e
      have := sumB_erase h2 hm2
      simp only [hb, decide_false, cond_false]
      rw [sumB_cons, sumB_cons]
      omega
theorem gvF_no {L : List Bl} {p : Int} (h : ∀ b ∈ L, (b.1 : Int) ≠ p) : gvF L p = (91, L) := by
  unfold gvF
  by_cases h0 : 0 ≤ p
  · rw [if_pos h0, gvS_no fun b hb e => h b hb (by omega)]
  · rw [if_neg h0]
theorem gvF_yes {L M : List Bl} {p : Nat} (h : gvS L p = some M) : gvF L (p : Int) = (0, M) := by
  unfold gvF
  rw [if_pos (by omega), Int.toNat_natCast, h]
set_option maxRecDepth 100000 in
set_option maxHeartbeats 4000000 in
theorem pgive_no (r bm bn N : Nat) (L : List Bl) (p : Int) (hp1 : -9223372036854775808 ≤ p) (hp2 : p ≤ 9223372036854775807) (hn : ∀ b ∈ L, (b.1 : Int) ≠ p) (w : World) (h : ArP w r bm bn N L) :
    Calls Tryd.prog 13 #[.pointer (some ⟨r, 0, none⟩), .int .i64 p] w fun e w' => e = .returned (.int .i64 91) ∧ w = w' := by
  obtain ⟨f, D, h1, h2, hown, h4, h5, hI⟩ := h
  have c1 := (h1.cell 1).trans (show _ = some (Value.map (some bm)) by rfl)
  have hkey := keyOf_int_mk Tryd.underlying3 (wfI hp1 hp2)
  have HD := Lib.hid (h5.no p hn)
  have HO := Lib.hid hown
  clear h1 h2 h4 h5 hI hp1 hp2 hown hn
  go_enter Tryd.func13, Tryd.ntmps13
  go_wp2_with (at_lookup; refine wpList_lookup_own_ok_int _ rfl _ _ 48 rfl 3 3 .i64 lawK Tryd.underlying48 Tryd.underlying3 (zeroK _) bm _ D rfl HO.out _ _ rfl hkey ?_; rw [HD.out]; intro c hat hwc; clear hat hwc)
  go_ret
  exact ⟨rfl, rfl⟩
set_option maxRecDepth 100000 in
set_option maxHeartbeats 4000000 in
theorem pgive_yes (r bm bn N : Nat) (hN : N ≤ 16) (L : List Bl) (p o : Nat) (hb : (p, o) ∈ L) (w : World) (h : ArP w r bm bn N L) :
    Calls Tryd.prog 13 #[.pointer (some ⟨r, 0, none⟩), .int .i64 (p : Int)] w fun e w' => e = .returned (.int .i64 0) ∧ ArP w' r bm bn N (gvF L (p : Int)).2 ∧ Tou w w' r bm bn := by
  obtain ⟨nrm, nrn, nmn⟩ := h.ne
  obtain ⟨lr, lm, ln⟩ := h.lt
  obtain ⟨f, D, h1, h2, hown, h4, h5, hI⟩ := h
  obtain ⟨M, eM, hIM, hM⟩ := gvS_mem hI hb
  rw [gvF_yes eM]
  obtain ⟨hv, hS0, hcl⟩ := give_start hI h4 hb hM
  have hsum : sumB M + 2 ^ o = sumB L := by
    unfold gvS at eM
    split at eM
    · injection eM with eM
      rw [← eM]
      exact sumB_erase hI.row hb
    · cases eM
  have hle := sumB_le hI
  have hoN : o ≤ N := hv.le
  have hN16 := (pow16 hN).2
  have ho16 := pow16 (k := o) (by omega)
  have hpos := hv.2
  obtain ⟨y1, y2⟩ := h5.yes _ hb
  have hkey := keyOf_int_mk Tryd.underlying3 (wfI (p := (p : Int)) (by omega) (by omega))
  have HD := Lib.hid (And.intro y1 y2)
  have HP := Lib.hid (MapIs.del (p := p) h5 hM)
  have HA := Lib.hid (fun W hW => add_any N hN M bn f p o hv hS0 hcl W hW)
  have HMM := Lib.hid hIM
  have HS2 : Hid (2 ^ N - sumB M = 2 ^ N - sumB L + 2 ^ o) := Lib.hid (by omega)
  unfold treV at HA
  obtain ⟨F, hF⟩ : ∃ F : Nat, 2 ^ N - sumB L = F := ⟨_, rfl⟩
  rw [hF] at h1 HS2
  have hFb : F ≤ 65536 := by omega
  obtain ⟨S, hS⟩ : ∃ S : Nat, 2 ^ (N + 1) = S := ⟨_, rfl⟩
  rw [hS] at h1 HA
  obtain ⟨P, hP⟩ : ∃ P : Nat, 2 ^ o = P := ⟨_, rfl⟩
  have j1 : IntKind.i64.wrap ((2 : Int) ^ o) = (P : Int) := by
    have e : ((2 : Int) ^ o) = ((2 ^ o : Nat) : Int) := by simp
    rw [e, hP, IntKind.wrap_i64]; rw [hP] at ho16; omega
  rw [hP] at HS2 ho16
  obtain ⟨G, hG⟩ : ∃ G : Nat, F + P = G := ⟨_, rfl⟩
  rw [hG] at HS2
  have j2 : IntKind.i64.wrap ((F : Int) + (P : Int)) = (G : Int) := by rw [IntKind.wrap_i64]; omega
  have HSS := Lib.hid hS
  have c1 := (h1.cell 1).trans (show _ = some (Value.map (some bm)) by rfl)
  have H1 := Lib.hid h1
  have H2 := Lib.hid h2
  have HO := Lib.hid hown
  have HL := Lib.hid (And.intro lr (And.intro lm ln))
  have HNE := Lib.hid (And.intro nrm (And.intro nrn nmn))
  have o0 : (0 : Int) ≤ (o : Int) := by omega
  clear h1 h2 hown h4 h5 hI hS hF hP hG hM hIM hcl eM hv hS0 hsum hle hN16 ho16 hpos y1 y2 lr lm ln nrm nrn nmn hFb
  go_enter Tryd.func13, Tryd.ntmps13
  go_wp2_with (first
    | (at_lookup; refine wpList_lookup_own_ok_int _ rfl _ _ 48 rfl 3 3 .i64 lawK Tryd.underlying48 Tryd.underlying3 (zeroK _) bm _ D rfl HO.out _ _ rfl hkey ?_; rw [HD.out.1]; intro c hat hwc; (obtain rfl : c = (o : Int) := (by rw [HD.out.2] at hat; injection hat with hat; injection hat with h1 h2; exact h2.symm)); clear hat hwc)
    | (at_delete; refine wpList_delete_own _ rfl _ _ 48 3 rfl 3 lawK Tryd.underlying48 _ bm _ D rfl HO.out _ _ rfl hkey ?_; intro w1 hown1 hturn1; have HO1 := Lib.hid hown1; have HG1 := Lib.hid hturn1.grown; clear hown1 hturn1))
  have A1 := Lib.hid (H1.out.grown HG1.out (fun e => HNE.out.1 (by injection e)))
  have B1 := Lib.hid (H2.out.grown HG1.out (fun e => HNE.out.2.2 (by injection e with e; exact e.symm)))
  have T1 := Lib.hid (Tou.of_grown (r := r) (bn := bn) HG1.out (.inr (.inl rfl)))
  have c4 := (A1.out.cell 4).trans (show _ = some (Value.int .i64 (F : Int)) by rfl)
  have f4 := A1.out.frozen 4
  clear c1
  go_still_tail 9, (by kernel_rfl)
  change wpList _ _ _ _ _ w1.drew
  clear c4 f4
  have A4 := A1.out.drew
  have O4 := HO1.out.drew
  have T4 : Tou w w1.drew r bm bn := ⟨T1.out.os, T1.out.tape, T1.out.output, T1.out.size, T1.out.block⟩
  have B4 := B1.out.drew
  obtain ⟨w4, hw4⟩ : ∃ x, w1.drew = x := ⟨_, rfl⟩
  rw [hw4] at A4 O4 T4 B4 ⊢
  clear hw4
  have c4 := (A4.cell 4).trans (show _ = some (Value.int .i64 (F : Int)) by rfl)
  have f4 := A4.frozen 4
  have A5 := A4.set_ 4 (.int .i64 (G : Int))
  have O5 := O4.setCell (a := ⟨r, 4, none⟩) (Ne.symm HNE.out.1) (.int .i64 (G : Int))
  have T5 := T4.trans (Tou.of_grown (gb_set w4 r 4 (.int .i64 (G : Int))) (.inl rfl))
  have B5 := B4.far (p := ⟨r, 4, none⟩) (Ne.symm HNE.out.2.1) (.int .i64 (G : Int))
  have d2 := (A5.cell 2).trans (show _ = some (Value.int .i64 (N : Int)) by rfl)
  have d3 := (A5.cell 3).trans (show _ = some (Value.slice (some ⟨bn, 0, none⟩) S S) by rfl)
  have e2 := (A4.cell 2).trans (show _ = some (Value.int .i64 (N : Int)) by rfl)
  have e3 := (A4.cell 3).trans (show _ = some (Value.slice (some ⟨bn, 0, none⟩) S S) by rfl)
  have HA5 := Lib.hid A5
  have HO5 := Lib.hid O5
  have HT5 := Lib.hid T5
  have HB5 := Lib.hid B5
  clear A4 O4 T4 B4 A5 O5 T5 B5
  go_wp2_with fail
  refine Calls.mono (HA.out _ HB5.out) ?_
  rintro e w6 ⟨rfl, f', hb6, ht6, hg6⟩
  have A6 := Lib.hid (HA5.out.grown hg6 (fun e => HNE.out.2.1 (by injection e)))
  have O6 := Lib.hid (HO5.out.kept hg6 (fun e => HNE.out.2.2 (by injection e)))
  have T6 := Lib.hid (HT5.out.trans (Tou.of_grown hg6 (.inr (.inr rfl))))
  have B6 := Lib.hid hb6
  have R6 := Lib.hid ht6
  clear hb6 ht6 hg6 d2 d3 e2 e3 c4 f4
  go_wp2
  go_ret
  exact ⟨rfl, ⟨f', _, by rw [HSS.out, HS2.out]; exact A6.out, B6.out, own_tight O6.out, R6.out, HP.out, HMM.out⟩, T6.out⟩
theorem pgive_any (r bm bn N : Nat) (hN : N ≤ 16) (L : List Bl) (p : Int) (hp1 : -9223372036854775808 ≤ p) (hp2 : p ≤ 9223372036854775807) (w : World) (h : ArP w r bm bn N L) :
    Calls Tryd.prog 13 #[.pointer (some ⟨r, 0, none⟩), .int .i64 p] w fun e w' => e = .returned (.int .i64 (gvF L p).1) ∧ ArP w' r bm bn N (gvF L p).2 ∧ Tou w w' r bm bn := by
  by_cases hx : ∃ b ∈ L, (b.1 : Int) = p
  · obtain ⟨⟨q, o⟩, hb, rfl⟩ := hx
    obtain ⟨M, eM, -⟩ := gvS_mem h.inv hb
    refine (pgive_yes r bm bn N hN L q o hb w h).mono ?_
    rintro e w' ⟨h1, h2⟩
    exact ⟨by rw [h1]; show _ = Ending.returned (.int .i64 (gvF L (q : Int)).1); rw [gvF_yes eM], h2⟩
  · have hn : ∀ b ∈ L, (b.1 : Int) ≠ p := fun b hb e => hx ⟨b, hb, e⟩
    rw [gvF_no hn]
    refine (pgive_no r bm bn N L p hp1 hp2 hn w h).mono ?_
    rintro e w' ⟨h1, rfl⟩
    exact ⟨h1, h, Tou.of_below _ _ _ (Below.refl _ _)⟩
end Go.Proofs.YtiocdojdncomhaaDoor
