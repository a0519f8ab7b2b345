/-
  The program's own rib (layer 15): slices.Clone; Paths, Best, Count.
-/
import Derived.Test.YtjlmgkdieffjcaaDoorRpI
import Derived.Lib.SliceRun
namespace Go.Proofs.YtjlmgkdieffjcaaDoor
open Go.RowKit
set_option linter.unusedVariables false

set_option maxRecDepth 100000 in
set_option maxHeartbeats 1000000 in
/-- slices.Clone of a row of paths. -/
theorem clone_pa (A : Option Addr) (n c : Nat) (l : List PaI) (hn : n ≤ 1000) (w : World) (h : w.ownsRow 0 26 7 (.slice A n c) n (l.flatMap paC)) :
    Calls Tryd.prog 31 #[.slice A n c] w fun e w' => ∃ A' c', e = .returned (.slice A' n c') ∧ w'.ownsRow w.heap.size 26 7 (.slice A' n c') n (l.flatMap paC) ∧ Tch w w' [] := by
  cases A with
  | none =>
    obtain ⟨rfl, rfl⟩ := own_none h
    have q : ∀ (w : World), (binOp .eql 38 (.slice none 0 0) (.slice none 0 0)).run Tryd.prog w = .ok (.bool true) w := fun w => Lib.run_eql_slice_nil w _ _ none 0 0 0 0 Tryd.underlying38
    have h1 : l.flatMap paC = [] := List.eq_nil_of_length_eq_zero (by rw [h.1])
    rw [h1]
    clear h hn h1
    go_enter Tryd.func31, Tryd.ntmps31
    go_wp2
    go_ret
    exact ⟨none, 0, rfl, ⟨rfl, .inl ⟨rfl, rfl⟩⟩, Tch.refl _ _⟩
  | some ad =>
    have q : ∀ (w : World), (binOp .eql 38 (.slice (some ad) n c) (.slice none 0 0)).run Tryd.prog w = .ok (.bool false) w := fun w => Lib.run_eql_slice_nil w _ _ (some ad) n c 0 0 Tryd.underlying38
    have HM0 : Hid ((w.alloc (.cells #[] 26)).ownsRow w.heap.size 26 7 (.slice (some ⟨w.heap.size, 0, none⟩) 0 0) 0 []) := Lib.hid (World.ownsRow_made w #[] 0 (Nat.le_refl _) (Nat.zero_le _) rfl)
    have HR := Lib.hid (h.alloc (.cells #[] 26))
    have HS : Hid (0 + n ≤ 1000000) := Lib.hid (by omega)
    clear h hn
    go_enter Tryd.func31, Tryd.ntmps31
    go_wp2_with (at_builtin; (refine wpList_apm 38 26 (.agg #[.int .i64 0, .int .i64 0, .bool false, .int .u64 0, .int .u64 0, .int .i64 0, .bool false]) 7 56 Tryd.underlying38 infoPa rfl (by decide) (by decide) _ rfl (.tmp 5) (.tmp 6) rfl w.heap.size (.slice (some ⟨w.heap.size, 0, none⟩) 0 0) 0 [] rfl HM0.out 0 (.slice (some ad) n c) n (l.flatMap paC) rfl HR.out (flat_one pa_one l) HS.out (by simp) ?_; intro v9 w5 hown hg hv; have hT5 : Tch w w5 [] := (((Tch.refl w []).alloc _).trans_fre (Tch.of_grown' (S := [w.heap.size]) hg (fun g e => by simp [Value.ownBlock] at e; simp [e])) (by simp)); have HT5 := Lib.hid hT5; have HO5 := Lib.hid hown; clear hown hg hv hT5))
    go_ret
    obtain ⟨A', c', e, -, -⟩ := own_sl HO5.out
    rw [Nat.zero_add] at e
    subst e
    exact ⟨A', c', rfl, by have := HO5.out; rw [Nat.zero_add] at this; simpa using this, HT5.out⟩
set_option maxRecDepth 100000 in
set_option maxHeartbeats 2000000 in
theorem pathsP (t : Nat) (S : List Nat) (L : List TdI) (p : PfI) (hp : PfOk p) (w : World) (h : RbP w t S L) :
    Calls Tryd.prog 13 #[.pointer (some ⟨t, 0, none⟩), pfR p] w fun e w' => ∃ A c, e = .returned (.slice A (pathsI L p).length c) ∧ w'.ownsRow w.heap.size 26 7 (.slice A (pathsI L p).length c) (pathsI L p).length ((pathsI L p).flatMap paC) ∧ RbP w' t S L ∧ Tch w w' S := by
  have HP := Lib.hid h
  obtain ⟨m, M, hr⟩ := h
  obtain ⟨A, c, he, ho, hlk⟩ := hr.look p
  have hn4 := hr.inv.four p
  obtain ⟨l, hl⟩ : ∃ l, pathsI L p = l := ⟨_, rfl⟩
  obtain ⟨n, hn⟩ : ∃ n, l.length = n := ⟨_, rfl⟩
  rw [hl, hn] at ho hlk hn4
  rw [hl, hn]
  have HCl := Lib.hid (fun W (hT : Tch w W []) => clone_pa A n c l (by omega) W (own_tch ho hT (by simp)))
  obtain ⟨⟨ps, ph, pl⟩, pb⟩ := p
  obtain ⟨xb, hxb⟩ : ∃ xb, w.heap.size = xb := ⟨_, rfl⟩
  obtain ⟨W0, hW0⟩ : ∃ W, w.alloc (.cells #[.bool ps, .int .u64 (ph : Int), .int .u64 (pl : Int), .int .i64 pb] 37) = W := ⟨_, rfl⟩
  have hX : Blk W0 xb 37 #[.bool ps, .int .u64 (ph : Int), .int .u64 (pl : Int), .int .i64 pb] := hW0 ▸ hxb ▸ Blk.new w _ _
  have hT0 : Tch w W0 [] := hW0 ▸ (Tch.refl w []).alloc _
  obtain ⟨W1, hW1⟩ : ∃ W1, W0.drew = W1 := ⟨_, rfl⟩
  have hT1 : Tch w W1 [] := hW1 ▸ hT0.drew
  obtain ⟨x0, x1, x2, x3⟩ := (show Blk W1 xb _ _ from hW1 ▸ hX.drew).c4
  have ht := ((hT1.blk hr.bt (by simp)).cell 0).trans (show _ = some (Value.map (some m)) by rfl)
  have hlk1 : (Instr.lookup 62 (.map (some m)) (.agg #[.bool ps, .int .u64 (ph : Int), .int .u64 (pl : Int), .int .i64 pb]) false).run Tryd.prog W1 = .ok (.slice A n c) W1 := hlk _ hT1
  have HT1 := Lib.hid hT1
  have HW1 := Lib.hid hW1
  have HS1 := Lib.hid (And.intro hT1.size hxb)
  clear hX hT0 hr he ho hlk hl hn hn4 hp hT1
  go_enter Tryd.func13, Tryd.ntmps13
  go_wp2_with fail
  refine wp_region_still_tail 6 (by kernel_rfl) (by kernel_rfl) ?_
  rw [show ({ W0 with drawn := W0.drawn + 1 } : World) = W1 from HW1.out]
  simp only [List.take_succ_cons, List.take_zero, List.drop_succ_cons, List.drop_zero]
  repeat still_step
  refine wpStill_nil ?_
  go_wp2_with fail
  refine Calls.mono (HCl.out W1 HT1.out) ?_
  rintro e w' ⟨A', c', rfl, ho', hT⟩
  have HO' := Lib.hid ho'
  have HT' := Lib.hid (HT1.out.trans hT)
  clear ho' hT
  go_wp2
  go_ret
  exact ⟨A', c', rfl, own_mono HO'.out (by have := HS1.out; omega), HP.out.tch HT'.out (by simp), HT'.out.mono (by simp)⟩
set_option maxRecDepth 100000 in
set_option maxHeartbeats 4000000 in
theorem bestP (t : Nat) (S : List Nat) (L : List TdI) (p : PfI) (hp : PfOk p) (w : World) (h : RbP w t S L) :
    Calls Tryd.prog 18 #[.pointer (some ⟨t, 0, none⟩), pfR p] w fun e w' => e = .returned (bestV (bestI L p)) ∧ RbP w' t S L ∧ Tch w w' S := by
  have HP := Lib.hid h
  obtain ⟨m, M, hr⟩ := h
  obtain ⟨A, c, he, ho, hlk⟩ := hr.look p
  obtain ⟨l, hl⟩ : ∃ l, pathsI L p = l := ⟨_, rfl⟩
  obtain ⟨n, hn⟩ : ∃ n, l.length = n := ⟨_, rfl⟩
  have HB : Hid (bestI L p = l.head?) := Lib.hid (by unfold bestI; rw [hl])
  rw [hl, hn] at ho hlk
  have HRow := Lib.hid (fun W (hT : Tch w W []) => own_tch ho hT (by simp))
  have HN := Lib.hid hn
  obtain ⟨⟨ps, ph, pl⟩, pb⟩ := p
  obtain ⟨xb, hxb⟩ : ∃ xb, w.heap.size = xb := ⟨_, rfl⟩
  obtain ⟨yb, hyb⟩ : ∃ yb, xb + 1 = yb := ⟨_, rfl⟩
  obtain ⟨W0, hW0⟩ : ∃ W, (w.alloc (.cells #[.bool ps, .int .u64 (ph : Int), .int .u64 (pl : Int), .int .i64 pb] 37)).alloc (.cells #[.int .i64 0, .int .i64 0, .bool false, .int .u64 0, .int .u64 0, .int .i64 0, .bool false] 26) = W := ⟨_, rfl⟩
  have hT0 : Tch w W0 [] := hW0 ▸ ((Tch.refl w []).alloc _).alloc _
  have hX : Blk W0 xb 37 #[.bool ps, .int .u64 (ph : Int), .int .u64 (pl : Int), .int .i64 pb] := hW0 ▸ hxb ▸ (Blk.new w _ _).alloc _
  have hY : Blk W0 yb 26 #[.int .i64 0, .int .i64 0, .bool false, .int .u64 0, .int .u64 0, .int .i64 0, .bool false] := by
    have := Blk.new (w.alloc (.cells #[.bool ps, .int .u64 (ph : Int), .int .u64 (pl : Int), .int .i64 pb] 37)) 26 #[.int .i64 0, .int .i64 0, .bool false, .int .u64 0, .int .u64 0, .int .i64 0, .bool false]
    rw [World.size_alloc, hxb, hyb, hW0] at this
    exact this
  have HT0 := Lib.hid hT0
  have HY := Lib.hid hY
  have ht := ((hT0.blk hr.bt (by simp)).cell 0).trans (show _ = some (Value.map (some m)) by rfl)
  have hlk0 : ∀ q, (Instr.lookup 62 (.map (some m)) (.agg #[.bool ps, .int .u64 (ph : Int), .int .u64 (pl : Int), .int .i64 pb]) false).run Tryd.prog (W0.drewN q) = .ok (.slice A n c) (W0.drewN q) := fun q => hlk _ (hT0.drewN q)
  obtain ⟨x0, x1, x2, x3⟩ := hX.c4
  have HXY : Hid (w.heap.size ≤ yb) := Lib.hid (by omega)
  clear hl hn hT0 hX hY he ho hlk hr hp
  go_enter Tryd.func18, Tryd.ntmps18
  go_wp2
  go_quiet (fail)
  obtain ⟨w5, hw5⟩ : ∃ w5, W0.drewN nq = w5 := ⟨_, rfl⟩
  rw [hw5]
  have HY5 : Hid (Blk w5 yb _ _) := Lib.hid (hw5 ▸ HY.out.drewN nq)
  have HT5 : Hid (Tch w w5 []) := Lib.hid (hw5 ▸ HT0.out.drewN nq)
  have HR5 := Lib.hid (HRow.out w5 HT5.out)
  clear x0 x1 x2 x3 ht hlk0 hw5 hW0 hxb hyb
  cases l with
  | nil =>
    have hn0 : n = 0 := HN.out.symm
    subst hn0
    go_wp2_with (refine wpList_sta rfl 26 (.tmp 4) (.tmp 16) rfl yb 0 #[.int .i64 0, .int .i64 0, .bool false, .int .u64 0, .int .u64 0, .int .i64 0, .bool false] rfl rfl 26 _ HY5.out 7 paSz rfl (show 0 + 7 ≤ 7 from by decide) (by simp [Value.oneCell']) ?_; intro w6 hs6; have HS6 := Lib.hid hs6; clear hs6)
    obtain ⟨z0, z1, z2, z3, z4, z5, z6⟩ := (sta_whole HS6.out rfl).p7
    have hTT : Tch w w6 [] := HT5.out.trans_fre HS6.out.tch (by simp; exact HXY.out)
    exact bodyPost_ret (v := .tuple #[.agg #[.int .i64 0, .int .i64 0, .bool false, .int .u64 0, .int .u64 0, .int .i64 0, .bool false], .bool false]) (by simp [results, Tryd.results18, go_sem, z0, z1, z2, z3, z4, z5, z6]) rfl ⟨by rw [HB.out]; rfl, HP.out.tch hTT (by simp), hTT.mono (by simp)⟩
  | cons x r =>
    have hn1 : 0 < n := by rw [← HN.out]; simp
    obtain ⟨g, rfl⟩ := slice_some HR5.out hn1
    obtain ⟨y0, y1, y2, y3, y4, y5, y6⟩ := pa_cells (k := 0) HR5.out (x := x) (by simp)
    have nI : (0 : Int) < (n : Int) := by omega
    have bz : ((n : Int) == 0) = false := by simp; omega
    obtain ⟨pr, me, ⟨vs, vh, vl⟩, po, aw⟩ := x
    simp only [Nat.zero_mul, Nat.zero_add] at y0 y1 y2 y3 y4 y5 y6
    clear hn1
    go_wp2_with (refine wpList_sta rfl 26 (.tmp 4) (.tmp 19) rfl yb 0 #[.int .i64 pr, .int .i64 me, .bool vs, .int .u64 (vh : Int), .int .u64 (vl : Int), .int .i64 po, .bool aw] rfl rfl 26 _ HY5.out 7 paSz rfl (show 0 + 7 ≤ 7 from by decide) (by simp [Value.oneCell']) ?_; intro w6 hs6; have HS6 := Lib.hid hs6; clear hs6)
    obtain ⟨z0, z1, z2, z3, z4, z5, z6⟩ := (sta_whole HS6.out rfl).p7
    have hTT : Tch w w6 [] := HT5.out.trans_fre HS6.out.tch (by simp; exact HXY.out)
    exact bodyPost_ret (v := .tuple #[.agg #[.int .i64 pr, .int .i64 me, .bool vs, .int .u64 (vh : Int), .int .u64 (vl : Int), .int .i64 po, .bool aw], .bool true]) (by simp [results, Tryd.results18, go_sem, z0, z1, z2, z3, z4, z5, z6]) rfl ⟨by rw [HB.out]; rfl, HP.out.tch hTT (by simp), hTT.mono (by simp)⟩
theorem MpRg.left_len {κ : Type} [DecidableEq κ] {kv : κ → Value} {w : World} {m r : Nat} {M left : List (κ × Value)} (h : MpRg kv w m r M left) : w.rangeLeft m r = left.length := by
  obtain ⟨es, clock, since, c0, seen, h1, h2, h3, h4, h5, h6, h7, h8, h9, h10⟩ := h
  have := congrArg List.length h10
  simp at this
  simp only [World.rangeLeft, h1, h6]
  exact this
set_option maxRecDepth 100000 in
set_option maxHeartbeats 4000000 in
theorem countP (t : Nat) (S : List Nat) (L : List TdI) (w : World) (h : RbP w t S L) :
    Calls Tryd.prog 15 #[.pointer (some ⟨t, 0, none⟩)] w fun e w' => e = .returned (.int .i64 (L.length : Int)) ∧ RbP w' t S L ∧ Tch w w' S := by
  have HP := Lib.hid h
  obtain ⟨m, M, hr⟩ := h
  have hml : L.length ≤ 360 := by
    have h1 := len_sum (prefsI L) L (prefsI_nodup hr.inv.inv) (fun u hu => (prefsI_mem hr.inv.inv).2 ⟨u, hu, rfl⟩)
    have h9 := hr.inv.ninety
    have h4 : ∀ K : List PfI, (K.map fun p => (pathsI L p).length).sum ≤ 4 * K.length := fun K => by
      induction K with
      | nil => simp
      | cons p K ih => rw [List.map_cons, List.sum_cons, List.length_cons]; have := hr.inv.four p; omega
    have := h4 (prefsI L)
    omega
  have hs := hr.sum
  have ht := (hr.bt.cell 0).trans (show _ = some (Value.map (some m)) by rfl)
  have HMp := Lib.hid hr.mp
  have HRow : Hid (∀ x ∈ M, ∃ A c, x.2 = .slice A (pathsI L x.1).length c) := Lib.hid (fun x hx => by
    obtain ⟨⟨A, c, e, -⟩, -⟩ := hr.row x hx
    exact ⟨A, c, e⟩)
  obtain ⟨T, hT⟩ : ∃ T, L.length = T := ⟨_, rfl⟩
  rw [hT] at hml hs ⊢
  have HS := Lib.hid hs
  clear hr hT hs
  go_enter Tryd.func15, Tryd.ntmps15
  go_wp2_with (at_range; refine wpList_mrange (k := 37) rfl (.tmp 9) 62 rfl 38 Tryd.underlying62 rfl HMp.out ?_; intro w0 hrg0 hT0 hs0; have HRg0 := Lib.hid hrg0; have HT0 := Lib.hid hT0; clear hrg0 hT0 hs0)
  go_frame
  go_loopw [3, 5] (fun nv lv wr => ∃ (k : Nat) (left : List (PfI × Value)), nv = .int .i64 (k : Int) ∧ Hid (MpRg (fun p => pfR p) wr m w.heap.size M left) ∧ Hid (k + (left.map fun x => (pathsI L x.1).length).sum = T) ∧ Hid (∀ x ∈ left, x ∈ M) ∧ Hid (Tch w wr [])) (fun _ _ wr => wr.rangeLeft m w.heap.size)
  case atStart => exact ⟨0, M, rfl, HRg0, Lib.hid (by rw [Nat.zero_add]; exact HS.out), Lib.hid (fun x hx => hx), HT0⟩
  case round =>
    obtain ⟨k, left, rfl, hrg, hsum, hsub, hT⟩ := hrel
    go_wp2_with (at_next; refine wpList_mnext rfl (.tmp 10) rfl keyPf rfl hrg.out (fun hd => ?_) (fun x left' w1 hx hp hrg1 hT1 hs1 hen => ?_); rotate_left; (obtain ⟨⟨⟨xs, xh, xl⟩, xn⟩, v⟩ := x); (obtain ⟨A, c, hv⟩ := HRow.out _ hx); (dsimp only at hv); subst hv; (have HP1 := Lib.hid hp); (have HRg1 := Lib.hid hrg1); (have HT1 := Lib.hid hT1); (clear hp hrg1 hT1 hs1); rotate_right)
    · have HE : Hid (k = T) := Lib.hid (by have := hsum.out; rw [hd] at this; simpa using this)
      clear hd
      go_wp2
      go_ret
      exact ⟨by rw [HE.out]; rfl, HP.out.tch hT.out (by simp), hT.out.mono (by simp)⟩
    · have hsm : k + (pathsI L ((xs, xh, xl), xn)).length + (left'.map fun x => (pathsI L x.1).length).sum = T := by
        have h1 := (HP1.out.map fun x => (pathsI L x.1).length).sum_nat
        rw [List.map_cons, List.sum_cons] at h1
        dsimp only at h1
        have := hsum.out
        omega
      obtain ⟨q, hq⟩ : ∃ q, (pathsI L ((xs, xh, xl), xn)).length = q := ⟨_, rfl⟩
      rw [hq] at hsm
      have HSm := Lib.hid hsm
      have hkq : k + q ≤ 360 := by omega
      rw [hq]
      clear hsm hq
      go_wp2
      go_roundw
      case rel => exact ⟨k + q, left', by rw [IntWalk.wrap64_in _ (by omega)]; go_num, HRg1, HSm, Lib.hid (fun y hy => hsub.out y (HP1.out.mem_iff.2 (List.mem_cons_of_mem _ hy))), Lib.hid (hT.out.trans_fre HT1.out (fun s hs => .inr (by rw [List.mem_singleton.1 hs]; exact Nat.le_refl _)))⟩
      case measure => rw [HRg1.out.left_len, hrg.out.left_len, HP1.out.length_eq]; simp
end Go.Proofs.YtjlmgkdieffjcaaDoor
