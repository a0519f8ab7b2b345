/-
  The program's own arena (layer 10): Take.
-/
import Derived.Test.YtiocdojdncomhaaDoorArZ
import Derived.StillTailTactics
namespace Go.Proofs.YtiocdojdncomhaaDoor
open Go.RowKit Go.Maps
set_option linter.unusedVariables false

theorem tkF_bad {N : Nat} {L : List Bl} {o : Int} (h : ¬ (0 ≤ o ∧ o ≤ (N : Int))) : tkF N L o = (0, 1, L) := by unfold tkF; rw [if_neg h]
theorem tkF_full {N o : Nat} {L : List Bl} (ho : o ≤ N) (h : tkS N L o = none) : tkF N L (o : Int) = (0, 90, L) := by
  unfold tkF; rw [if_pos (by omega), Int.toNat_natCast, h]
theorem tkF_ok {N o p : Nat} {L M : List Bl} (ho : o ≤ N) (h : tkS N L o = some (p, M)) : tkF N L (o : Int) = ((p : Int), 0, M) := by
  unfold tkF; rw [if_pos (by omega), Int.toNat_natCast, h]
set_option maxRecDepth 100000 in
set_option maxHeartbeats 4000000 in
theorem ptake_bad (r bm bn N : Nat) (L : List Bl) (o : Int) (ho : ¬ (0 ≤ o ∧ o ≤ (N : Int))) (w : World) (h : ArP w r bm bn N L) :
    Calls Tryd.prog 15 #[.pointer (some ⟨r, 0, none⟩), .int .i64 o] w fun e w' => e = .returned (.tuple #[.int .i64 0, .int .i64 1]) ∧ w = w' := by
  obtain ⟨f, D, h1, -⟩ := h
  have c0 := (h1.cell 0).trans (show _ = some (Value.int .i64 (N : Int)) by rfl)
  clear h1
  by_cases h0 : o < 0
  · clear ho
    go_enter Tryd.func15, Tryd.ntmps15
    go_wp2
    exact bodyPost_ret (v := .tuple #[.int .i64 0, .int .i64 1]) (by simp [results, Tryd.results15, go_sem]) rfl ⟨rfl, rfl⟩
  · have h2 : (N : Int) < o := by omega
    clear ho
    go_enter Tryd.func15, Tryd.ntmps15
    go_wp2
    exact bodyPost_ret (v := .tuple #[.int .i64 0, .int .i64 1]) (by simp [results, Tryd.results15, go_sem]) rfl ⟨rfl, rfl⟩
set_option maxRecDepth 100000 in
set_option maxHeartbeats 4000000 in
theorem ptake_full (r bm bn N : Nat) (hN : N ≤ 16) (L : List Bl) (o : Nat) (ho : o ≤ N) (ht : tkS N L o = none) (w : World) (hE : EnvA w) (h : ArP w r bm bn N L) :
    Calls Tryd.prog 15 #[.pointer (some ⟨r, 0, none⟩), .int .i64 (o : Int)] w fun e w' => e = .returned (.tuple #[.int .i64 0, .int .i64 90]) ∧ Below w.heap.size w w' := by
  obtain ⟨f, D, h1, h2, hown, h4, h5, hI⟩ := h
  have hb : bst o none (fre L N 0) = none := by
    unfold tkS at ht
    exact Option.map_eq_none_iff.1 ht
  have HG := Lib.hid (least_any N hN L bn f o (by omega) h4 w hE h2)
  unfold treV lsS at HG
  rw [hb] at HG
  obtain ⟨S, hS⟩ : ∃ S : Nat, 2 ^ (N + 1) = S := ⟨_, rfl⟩
  rw [hS] at h1 HG
  have c0 := (h1.cell 0).trans (show _ = some (Value.int .i64 (N : Int)) by rfl)
  have c2 := (h1.cell 2).trans (show _ = some (Value.int .i64 (N : Int)) by rfl)
  have c3 := (h1.cell 3).trans (show _ = some (Value.slice (some ⟨bn, 0, none⟩) S S) by rfl)
  have o1 : ¬ (o : Int) < 0 := by omega
  have o2 : ¬ (N : Int) < (o : Int) := by omega
  clear h1 h2 hown h4 h5 hI hS hb ht hE
  go_enter Tryd.func15, Tryd.ntmps15
  go_wp2_with (go_at_call 30; (with_reducible refine Calls.mono HG.out ?_); rintro e w' ⟨rfl, hb⟩)
  exact bodyPost_ret (v := .tuple #[.int .i64 0, .int .i64 90]) (by simp [results, Tryd.results15, go_sem]) rfl ⟨rfl, hb⟩
set_option maxRecDepth 100000 in
set_option maxHeartbeats 4000000 in
theorem ptake_ok (r bm bn N : Nat) (hN : N ≤ 16) (L M : List Bl) (o p : Nat) (ho : o ≤ N) (ht : tkS N L o = some (p, M)) (w : World) (hE : EnvA w) (h : ArP w r bm bn N L) :
    Calls Tryd.prog 15 #[.pointer (some ⟨r, 0, none⟩), .int .i64 (o : Int)] w fun e w' => e = .returned (.tuple #[.int .i64 (p : Int), .int .i64 0]) ∧ ArP w' r bm bn N M ∧ Tou w w' r bm bn := by
  obtain ⟨nrm, nrn, nmn⟩ := h.ne
  obtain ⟨lr, lm, ln⟩ := h.lt
  obtain ⟨f, D, h1, h2, hown, h4, h5, hI⟩ := h
  obtain ⟨hM, hIM, hcl, -⟩ := tkS_some hI ht
  obtain ⟨q, hq, eq⟩ : ∃ q, bst o none (fre L N 0) = some q ∧ q.1 = p := by
    unfold tkS at ht
    cases hb : bst o none (fre L N 0) with
    | none => rw [hb] at ht; cases ht
    | some q => rw [hb] at ht; injection ht with ht; injection ht with e1 e2; exact ⟨q, rfl, e1⟩
  have hf := bst_fnd hq
  obtain ⟨q1, m⟩ := q
  simp only at eq hf
  subst eq
  have hoq : o ≤ m := by
    obtain ⟨hfm, -⟩ := fnd_mem hf
    by_cases hx : ∃ f ∈ fre L N 0, o ≤ f.2
    · obtain ⟨g, hg, hog⟩ := hx
      obtain ⟨h', e, -, h6, -⟩ := bst_yes hg hog
      rw [hq] at e
      injection e with e
      subst e
      exact h6
    · rw [bst_no fun g hg => Nat.lt_of_not_le fun ho => hx ⟨g, hg, ho⟩] at hq
      cases hq
  have hfre := (fnd_mem hf).1
  have HG := Lib.hid (least_any N hN L bn f o (by omega) h4 w hE h2)
  unfold lsS at HG
  rw [hq] at HG
  simp only at HG
  have HF := Lib.hid (fun W hW => first_any N hN L bn f q1 m h4 hf W hW)
  have HCut := Lib.hid (fun W hW => cut_any N hN L bn f q1 o m h4 hfre hoq W hW)
  have hsz := h5.size hI hown
  have hsm := inv_sml hN hI
  have hmax : Maps.size D < maxLen := by unfold maxLen; have := hsm.1; omega
  have hpos := hIM.each (q1, o) (by rw [hM]; exact ins_mem.2 (.inl rfl))
  simp only at hpos
  have hN16 := (pow16 hN).2
  have ho16 := pow16 (k := o) (by omega)
  have hkey := keyOf_int_mk Tryd.underlying3 (wfI (p := (q1 : Int)) (by omega) (by omega))
  have hwo : (Lit.int .i64 (o : Int)).wf = true := wfI (by omega) (by omega)
  have hsum := sumB_le hIM
  have HP := Lib.hid (MapIs.put (p := q1) (o := o) (M := M) h5 hown.isMap (fun x => by rw [hM, ins_mem]) (fun b hb e => by
    have pb := two_pos b.2
    have po := two_pos o
    exact clr_iff.1 hcl b hb ⟨by omega, by omega⟩))
  rw [hM, sumB_ins] at hsum
  have HMM := Lib.hid (And.intro hM hIM)
  have HS2 : Hid (2 ^ N - sumB M = 2 ^ N - sumB L - 2 ^ o ∧ 2 ^ o ≤ 2 ^ N - sumB L) := Lib.hid (by rw [hM, sumB_ins]; omega)
  unfold treV at HG HF HCut
  obtain ⟨F, hF⟩ : ∃ F : Nat, 2 ^ N - sumB L = F := ⟨_, rfl⟩
  rw [hF] at h1 HS2
  have hFb : F ≤ 65536 := by omega
  obtain ⟨S, hS⟩ : ∃ S : Nat, 2 ^ (N + 1) = S := ⟨_, rfl⟩
  rw [hS] at h1 HG HF HCut
  obtain ⟨P, hP⟩ : ∃ P : Nat, 2 ^ o = P := ⟨_, rfl⟩
  have j1 : IntKind.i64.wrap ((2 : Int) ^ o) = (P : Int) := by
    have e : ((2 : Int) ^ o) = ((2 ^ o : Nat) : Int) := by simp
    rw [e, hP, IntKind.wrap_i64]; rw [hP] at ho16; omega
  rw [hP] at HS2
  obtain ⟨G, hG⟩ : ∃ G : Nat, F - P = G := ⟨_, rfl⟩
  rw [hG] at HS2
  have j2 : IntKind.i64.wrap ((F : Int) - (P : Int)) = (G : Int) := by have := HS2.out.2; rw [IntKind.wrap_i64]; omega
  have HSS := Lib.hid (And.intro hS (And.intro hF (And.intro hP hG)))
  have o1 : ¬ (o : Int) < 0 := by omega
  have o2 : ¬ (N : Int) < (o : Int) := by omega
  have c0 := (h1.cell 0).trans (show _ = some (Value.int .i64 (N : Int)) by rfl)
  have c2 := (h1.cell 2).trans (show _ = some (Value.int .i64 (N : Int)) by rfl)
  have c3 := (h1.cell 3).trans (show _ = some (Value.slice (some ⟨bn, 0, none⟩) S S) by rfl)
  have H1 := Lib.hid h1
  have H2 := Lib.hid h2
  have HO := Lib.hid hown
  have HL := Lib.hid (And.intro lr (And.intro lm ln))
  have HNE := Lib.hid (And.intro nrm (And.intro nrn nmn))
  have hm1 : ((m : Int) == -1) = false := by simp
  have HMX := Lib.hid hmax
  clear h1 h2 hown h4 h5 hI hS hF hP hG hE hM hIM hcl hq ht hf hoq hfre hsz hsm hmax hpos hN16 ho16 hsum lr lm ln nrm nrn nmn hFb
  go_enter Tryd.func15, Tryd.ntmps15
  go_wp2_with (go_at_call 30; (with_reducible refine Calls.mono HG.out ?_); rintro e w1 ⟨rfl, hb1⟩; have B1 := Lib.hid hb1; have d2 := (hb1.cell (p := ⟨r, 2, none⟩) HL.out.1).trans c2; have d3 := (hb1.cell (p := ⟨r, 3, none⟩) HL.out.1).trans c3; clear hb1)
  refine Calls.mono (HF.out w1 (H2.out.below B1.out HL.out.2.2)) ?_
  rintro e w2 ⟨rfl, hb2⟩
  have B2 := Lib.hid (B1.out.trans (hb2.mono B1.out.size))
  clear d2 d3 hb2
  have d2 := (B2.out.cell (p := ⟨r, 2, none⟩) HL.out.1).trans c2
  have d3 := (B2.out.cell (p := ⟨r, 3, none⟩) HL.out.1).trans c3
  go_wp2_with fail
  refine Calls.mono (HCut.out w2 (H2.out.below B2.out HL.out.2.2)) ?_
  rintro e w3 ⟨rfl, f', hb3, ht3, hg3⟩
  clear d2 d3 c0 c2 c3
  have A3 := (H1.out.below B2.out HL.out.1).grown hg3 (fun e => HNE.out.2.1 (by injection e))
  have O3 := (HO.out.kept (gb_below B2.out none) (by simp)).kept hg3 (fun e => HNE.out.2.2 (by injection e))
  have T3 := (Tou.of_below r bm bn B2.out).trans (Tou.of_grown hg3 (.inr (.inr rfl)))
  have c1 := (A3.cell 1).trans (show _ = some (Value.map (some bm)) by rfl)
  have c4 := (A3.cell 4).trans (show _ = some (Value.int .i64 (F : Int)) by rfl)
  have f4 := A3.frozen 4
  have HA3 := Lib.hid A3
  have HO3 := Lib.hid O3
  have HT3 := Lib.hid T3
  have HB3 := Lib.hid hb3
  have HR3 := Lib.hid ht3
  clear A3 O3 T3 hb3 ht3 hg3
  go_wp2
  go_still_tail 9, (by kernel_rfl)
  change wpList _ _ _ _ _ w3.drew
  clear c1 c4 f4
  have A4 := HA3.out.drew
  have O4 := HO3.out.drew
  have T4 : Tou w w3.drew r bm bn := ⟨HT3.out.os, HT3.out.tape, HT3.out.output, HT3.out.size, HT3.out.block⟩
  have B4 := HB3.out.drew
  obtain ⟨w4, hw4⟩ : ∃ x, w3.drew = x := ⟨_, rfl⟩
  rw [hw4] at A4 O4 T4 B4 ⊢
  clear hw4
  have c1 := (A4.cell 1).trans (show _ = some (Value.map (some bm)) by rfl)
  have c4 := (A4.cell 4).trans (show _ = some (Value.int .i64 (F : Int)) by rfl)
  have f4 := A4.frozen 4
  have A5 := Lib.hid (A4.set_ 4 (.int .i64 (G : Int)))
  have O5 := Lib.hid (O4.setCell (a := ⟨r, 4, none⟩) (Ne.symm HNE.out.1) (.int .i64 (G : Int)))
  have T5 := Lib.hid (T4.trans (Tou.of_grown (gb_set w4 r 4 (.int .i64 (G : Int))) (.inl rfl)))
  have B5 := Lib.hid (B4.far (p := ⟨r, 4, none⟩) (Ne.symm HNE.out.2.1) (.int .i64 (G : Int)))
  clear A4 O4 T4 B4
  go_wp2_with (at_mapUpdate; refine wpList_mapUpdate_own _ rfl _ _ _ 48 rfl 3 3 lawK Tryd.underlying48 _ bm _ _ rfl O5.out HMX.out _ _ _ rfl rfl hkey _ [] (plainElem_int Tryd.underlying3 hwo) ?_; intro w6 hown6 hgrow6; have HO6 := Lib.hid hown6; have HG6 := Lib.hid hgrow6; clear hown6 hgrow6)
  have A6 := A5.out.grown HG6.out (fun e => HNE.out.1 (by injection e))
  have B6 := B5.out.grown HG6.out (fun e => HNE.out.2.2 (by injection e with e; exact e.symm))
  exact bodyPost_ret (v := .tuple #[.int .i64 (q1 : Int), .int .i64 0]) (by simp [results, Tryd.results15, go_sem]) rfl ⟨rfl, ⟨f', _, by rw [HSS.out.1, HS2.out.1]; exact A6, B6, own_tight HO6.out, by rw [HMM.out.1]; exact HR3.out, HP.out, HMM.out.2⟩, T5.out.trans (Tou.of_grown HG6.out (.inr (.inl rfl)))⟩
theorem ptake_any (r bm bn N : Nat) (hN : N ≤ 16) (L : List Bl) (o : Int) (w : World) (hE : EnvA w) (h : ArP w r bm bn N L) :
    Calls Tryd.prog 15 #[.pointer (some ⟨r, 0, none⟩), .int .i64 o] w fun e w' => e = .returned (.tuple #[.int .i64 (tkF N L o).1, .int .i64 (tkF N L o).2.1]) ∧ ArP w' r bm bn N (tkF N L o).2.2 ∧ Tou w w' r bm bn := by
  by_cases hb : 0 ≤ o ∧ o ≤ (N : Int)
  · obtain ⟨k, rfl⟩ : ∃ k : Nat, o = (k : Int) := ⟨o.toNat, by omega⟩
    have hk : k ≤ N := by omega
    cases ht : tkS N L k with
    | none =>
      rw [tkF_full hk ht]
      refine (ptake_full r bm bn N hN L k hk ht w hE h).mono ?_
      rintro e w' ⟨h1, h2⟩
      exact ⟨h1, h.below h2, Tou.of_below _ _ _ h2⟩
    | some x =>
      obtain ⟨p, M⟩ := x
      rw [tkF_ok hk ht]
      exact ptake_ok r bm bn N hN L M k p hk ht w hE h
  · rw [tkF_bad hb]
    refine (ptake_bad r bm bn N L o hb w h).mono ?_
    rintro e w' ⟨h1, rfl⟩
    exact ⟨h1, h, Tou.of_below _ _ _ (Below.refl _ _)⟩
end Go.Proofs.YtiocdojdncomhaaDoor
