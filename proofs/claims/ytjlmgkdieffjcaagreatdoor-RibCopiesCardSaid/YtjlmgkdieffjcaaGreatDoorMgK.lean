/-
  Several texts in one: RpK, RpL, RpM.
-/
import Derived.Test.YtjlmgkdieffjcaaGreatDoorMgI
import Derived.Lib.SliceRun
import Derived.RangeFuncNested
import Derived.RangeFuncLeaves
import Derived.Sort.MapsRangeIn
import Derived.Maps.AppendAt
import Derived.Shelf.AbstractIn
import Derived.WalkKit
import Derived.OwnWalkIn
import Derived.TacticsInMore
import Derived.RegionIn
import Derived.LoopNIn
import Derived.LoopIn

namespace Go.Proofs.YtjlmgkdieffjcaaGreatDoor
open Go.RowKit
set_option linter.unusedVariables false

set_option maxRecDepth 100000 in
set_option maxHeartbeats 1000000 in
/-- slices.Clone of a row of paths. -/
theorem clone_pa (A : Option Addr) (n c : Nat) (l : List PaI) (hn : n ≤ 1000) (w : World) (h : w.ownsRow 0 34 7 (.slice A n c) n (l.flatMap paC)) :
    Calls Tryz.prog 34 #[.slice A n c] w fun e w' => ∃ A' c', e = .returned (.slice A' n c') ∧ w'.ownsRow w.heap.size 34 7 (.slice A' n c') n (l.flatMap paC) ∧ Tch w w' [] := by
  cases A with
  | none =>
    obtain ⟨rfl, rfl⟩ := own_none h
    have q : ∀ (w : World), (binOp .eql 42 (.slice none 0 0) (.slice none 0 0)).run Tryz.prog w = .ok (.bool true) w := fun w => Lib.run_eql_slice_nil w _ _ none 0 0 0 0 Tryz.underlying42
    have h1 : l.flatMap paC = [] := List.eq_nil_of_length_eq_zero (by rw [h.1])
    rw [h1]
    clear h hn h1
    go_enter Tryz.func34, Tryz.ntmps34
    go_wp2
    go_ret
    exact ⟨none, 0, rfl, ⟨rfl, .inl ⟨rfl, rfl⟩⟩, Tch.refl _ _⟩
  | some ad =>
    have q : ∀ (w : World), (binOp .eql 42 (.slice (some ad) n c) (.slice none 0 0)).run Tryz.prog w = .ok (.bool false) w := fun w => Lib.run_eql_slice_nil w _ _ (some ad) n c 0 0 Tryz.underlying42
    have HM0 : Hid ((w.alloc (.cells #[] 34)).ownsRow w.heap.size 34 7 (.slice (some ⟨w.heap.size, 0, none⟩) 0 0) 0 []) := Lib.hid (World.ownsRow_made w #[] 0 (Nat.le_refl _) (Nat.zero_le _) rfl)
    have HR := Lib.hid (h.alloc (.cells #[] 34))
    have HS : Hid (0 + n ≤ 1000000) := Lib.hid (by omega)
    clear h hn
    go_enter Tryz.func34, Tryz.ntmps34
    go_wp2_with (at_builtin; (refine wpList_apm 42 34 (.agg #[.int .i64 0, .int .i64 0, .bool false, .int .u64 0, .int .u64 0, .int .i64 0, .bool false]) 7 56 Tryz.underlying42 infoPa rfl (by decide) (by decide) _ rfl (.tmp 5) (.tmp 6) rfl w.heap.size (.slice (some ⟨w.heap.size, 0, none⟩) 0 0) 0 [] rfl HM0.out 0 (.slice (some ad) n c) n (l.flatMap paC) rfl HR.out (flat_one pa_one l) HS.out (by simp) ?_; intro v9 w5 hown hg hv; have hT5 : Tch w w5 [] := (((Tch.refl w []).alloc _).trans_fre (Tch.of_grown' (S := [w.heap.size]) hg (fun g e => by simp [Value.ownBlock] at e; simp [e])) (by simp)); have HT5 := Lib.hid hT5; have HO5 := Lib.hid hown; clear hown hg hv hT5))
    go_ret
    obtain ⟨A', c', e, -, -⟩ := own_sl HO5.out
    rw [Nat.zero_add] at e
    subst e
    exact ⟨A', c', rfl, by have := HO5.out; rw [Nat.zero_add] at this; simpa using this, HT5.out⟩
set_option maxRecDepth 100000 in
set_option maxHeartbeats 2000000 in
theorem pathsP (t : Nat) (S : List Nat) (L : List TdI) (p : PfI) (hp : PfOk p) (w : World) (h : RbP w t S L) :
    Calls Tryz.prog 11 #[.pointer (some ⟨t, 0, none⟩), pfR p] w fun e w' => ∃ A c, e = .returned (.slice A (pathsI L p).length c) ∧ w'.ownsRow w.heap.size 34 7 (.slice A (pathsI L p).length c) (pathsI L p).length ((pathsI L p).flatMap paC) ∧ RbP w' t S L ∧ Tch w w' S := by
  have HP := Lib.hid h
  obtain ⟨m, M, hr⟩ := h
  obtain ⟨A, c, he, ho, hlk⟩ := hr.look p
  have hn4 := hr.inv.four p
  obtain ⟨l, hl⟩ : ∃ l, pathsI L p = l := ⟨_, rfl⟩
  obtain ⟨n, hn⟩ : ∃ n, l.length = n := ⟨_, rfl⟩
  rw [hl, hn] at ho hlk hn4
  rw [hl, hn]
  have HCl := Lib.hid (fun W (hT : Tch w W []) => clone_pa A n c l (by omega) W (own_tch ho hT (by simp)))
  obtain ⟨⟨ps, ph, pl⟩, pb⟩ := p
  obtain ⟨xb, hxb⟩ : ∃ xb, w.heap.size = xb := ⟨_, rfl⟩
  obtain ⟨W0, hW0⟩ : ∃ W, w.alloc (.cells #[.bool ps, .int .u64 (ph : Int), .int .u64 (pl : Int), .int .i64 pb] 32) = W := ⟨_, rfl⟩
  have hX : Blk W0 xb 32 #[.bool ps, .int .u64 (ph : Int), .int .u64 (pl : Int), .int .i64 pb] := hW0 ▸ hxb ▸ Blk.new w _ _
  have hT0 : Tch w W0 [] := hW0 ▸ (Tch.refl w []).alloc _
  obtain ⟨W1, hW1⟩ : ∃ W1, W0.drew = W1 := ⟨_, rfl⟩
  have hT1 : Tch w W1 [] := hW1 ▸ hT0.drew
  obtain ⟨x0, x1, x2, x3⟩ := (show Blk W1 xb _ _ from hW1 ▸ hX.drew).c4
  have ht := ((hT1.blk hr.bt (by simp)).cell 0).trans (show _ = some (Value.map (some m)) by rfl)
  have hlk1 : (Instr.lookup 59 (.map (some m)) (.agg #[.bool ps, .int .u64 (ph : Int), .int .u64 (pl : Int), .int .i64 pb]) false).run Tryz.prog W1 = .ok (.slice A n c) W1 := hlk _ hT1
  have HT1 := Lib.hid hT1
  have HW1 := Lib.hid hW1
  have HS1 := Lib.hid (And.intro hT1.size hxb)
  clear hX hT0 hr he ho hlk hl hn hn4 hp hT1
  go_enter Tryz.func11, Tryz.ntmps11
  go_wp2_with fail
  refine wp_region_still_tail 6 (by kernel_rfl) (by kernel_rfl) ?_
  rw [show ({ W0 with drawn := W0.drawn + 1 } : World) = W1 from HW1.out]
  simp only [List.take_succ_cons, List.take_zero, List.drop_succ_cons, List.drop_zero]
  repeat still_step
  refine wpStill_nil ?_
  go_wp2_with fail
  refine Calls.mono (HCl.out W1 HT1.out) ?_
  rintro e w' ⟨A', c', rfl, ho', hT⟩
  have HO' := Lib.hid ho'
  have HT' := Lib.hid (HT1.out.trans hT)
  clear ho' hT
  go_wp2
  go_ret
  exact ⟨A', c', rfl, own_mono HO'.out (by have := HS1.out; omega), HP.out.tch HT'.out (by simp), HT'.out.mono (by simp)⟩
set_option maxRecDepth 100000 in
set_option maxHeartbeats 4000000 in
theorem bestP (t : Nat) (S : List Nat) (L : List TdI) (p : PfI) (hp : PfOk p) (w : World) (h : RbP w t S L) :
    Calls Tryz.prog 19 #[.pointer (some ⟨t, 0, none⟩), pfR p] w fun e w' => e = .returned (bestV (bestI L p)) ∧ RbP w' t S L ∧ Tch w w' S := by
  have HP := Lib.hid h
  obtain ⟨m, M, hr⟩ := h
  obtain ⟨A, c, he, ho, hlk⟩ := hr.look p
  obtain ⟨l, hl⟩ : ∃ l, pathsI L p = l := ⟨_, rfl⟩
  obtain ⟨n, hn⟩ : ∃ n, l.length = n := ⟨_, rfl⟩
  have HB : Hid (bestI L p = l.head?) := Lib.hid (by unfold bestI; rw [hl])
  rw [hl, hn] at ho hlk
  have HRow := Lib.hid (fun W (hT : Tch w W []) => own_tch ho hT (by simp))
  have HN := Lib.hid hn
  obtain ⟨⟨ps, ph, pl⟩, pb⟩ := p
  obtain ⟨xb, hxb⟩ : ∃ xb, w.heap.size = xb := ⟨_, rfl⟩
  obtain ⟨yb, hyb⟩ : ∃ yb, xb + 1 = yb := ⟨_, rfl⟩
  obtain ⟨W0, hW0⟩ : ∃ W, (w.alloc (.cells #[.bool ps, .int .u64 (ph : Int), .int .u64 (pl : Int), .int .i64 pb] 32)).alloc (.cells #[.int .i64 0, .int .i64 0, .bool false, .int .u64 0, .int .u64 0, .int .i64 0, .bool false] 34) = W := ⟨_, rfl⟩
  have hT0 : Tch w W0 [] := hW0 ▸ ((Tch.refl w []).alloc _).alloc _
  have hX : Blk W0 xb 32 #[.bool ps, .int .u64 (ph : Int), .int .u64 (pl : Int), .int .i64 pb] := hW0 ▸ hxb ▸ (Blk.new w _ _).alloc _
  have hY : Blk W0 yb 34 #[.int .i64 0, .int .i64 0, .bool false, .int .u64 0, .int .u64 0, .int .i64 0, .bool false] := by
    have := Blk.new (w.alloc (.cells #[.bool ps, .int .u64 (ph : Int), .int .u64 (pl : Int), .int .i64 pb] 32)) 34 #[.int .i64 0, .int .i64 0, .bool false, .int .u64 0, .int .u64 0, .int .i64 0, .bool false]
    rw [World.size_alloc, hxb, hyb, hW0] at this
    exact this
  have HT0 := Lib.hid hT0
  have HY := Lib.hid hY
  have ht := ((hT0.blk hr.bt (by simp)).cell 0).trans (show _ = some (Value.map (some m)) by rfl)
  have hlk0 : ∀ q, (Instr.lookup 59 (.map (some m)) (.agg #[.bool ps, .int .u64 (ph : Int), .int .u64 (pl : Int), .int .i64 pb]) false).run Tryz.prog (W0.drewN q) = .ok (.slice A n c) (W0.drewN q) := fun q => hlk _ (hT0.drewN q)
  obtain ⟨x0, x1, x2, x3⟩ := hX.c4
  have HXY : Hid (w.heap.size ≤ yb) := Lib.hid (by omega)
  clear hl hn hT0 hX hY he ho hlk hr hp
  go_enter Tryz.func19, Tryz.ntmps19
  go_wp2
  go_quiet (fail)
  obtain ⟨w5, hw5⟩ : ∃ w5, W0.drewN nq = w5 := ⟨_, rfl⟩
  rw [hw5]
  have HY5 : Hid (Blk w5 yb _ _) := Lib.hid (hw5 ▸ HY.out.drewN nq)
  have HT5 : Hid (Tch w w5 []) := Lib.hid (hw5 ▸ HT0.out.drewN nq)
  have HR5 := Lib.hid (HRow.out w5 HT5.out)
  clear x0 x1 x2 x3 ht hlk0 hw5 hW0 hxb hyb
  cases l with
  | nil =>
    have hn0 : n = 0 := HN.out.symm
    subst hn0
    go_wp2_with (refine wpList_sta rfl 34 (.tmp 4) (.tmp 16) rfl yb 0 #[.int .i64 0, .int .i64 0, .bool false, .int .u64 0, .int .u64 0, .int .i64 0, .bool false] rfl rfl 34 _ HY5.out 7 paSz rfl (show 0 + 7 ≤ 7 from by decide) (by simp [Value.oneCell']) ?_; intro w6 hs6; have HS6 := Lib.hid hs6; clear hs6)
    obtain ⟨z0, z1, z2, z3, z4, z5, z6⟩ := (sta_whole HS6.out rfl).p7
    have hTT : Tch w w6 [] := HT5.out.trans_fre HS6.out.tch (by simp; exact HXY.out)
    exact bodyPost_ret (v := .tuple #[.agg #[.int .i64 0, .int .i64 0, .bool false, .int .u64 0, .int .u64 0, .int .i64 0, .bool false], .bool false]) (by simp [results, Tryz.results19, go_sem, z0, z1, z2, z3, z4, z5, z6]) rfl ⟨by rw [HB.out]; rfl, HP.out.tch hTT (by simp), hTT.mono (by simp)⟩
  | cons x r =>
    have hn1 : 0 < n := by rw [← HN.out]; simp
    obtain ⟨g, rfl⟩ := slice_some HR5.out hn1
    obtain ⟨y0, y1, y2, y3, y4, y5, y6⟩ := pa_cells (k := 0) HR5.out (x := x) (by simp)
    have nI : (0 : Int) < (n : Int) := by omega
    have bz : ((n : Int) == 0) = false := by simp; omega
    obtain ⟨pr, me, ⟨vs, vh, vl⟩, po, aw⟩ := x
    simp only [Nat.zero_mul, Nat.zero_add] at y0 y1 y2 y3 y4 y5 y6
    clear hn1
    go_wp2_with (refine wpList_sta rfl 34 (.tmp 4) (.tmp 19) rfl yb 0 #[.int .i64 pr, .int .i64 me, .bool vs, .int .u64 (vh : Int), .int .u64 (vl : Int), .int .i64 po, .bool aw] rfl rfl 34 _ HY5.out 7 paSz rfl (show 0 + 7 ≤ 7 from by decide) (by simp [Value.oneCell']) ?_; intro w6 hs6; have HS6 := Lib.hid hs6; clear hs6)
    obtain ⟨z0, z1, z2, z3, z4, z5, z6⟩ := (sta_whole HS6.out rfl).p7
    have hTT : Tch w w6 [] := HT5.out.trans_fre HS6.out.tch (by simp; exact HXY.out)
    exact bodyPost_ret (v := .tuple #[.agg #[.int .i64 pr, .int .i64 me, .bool vs, .int .u64 (vh : Int), .int .u64 (vl : Int), .int .i64 po, .bool aw], .bool true]) (by simp [results, Tryz.results19, go_sem, z0, z1, z2, z3, z4, z5, z6]) rfl ⟨by rw [HB.out]; rfl, HP.out.tch hTT (by simp), hTT.mono (by simp)⟩
theorem MpRg.left_len {κ : Type} [DecidableEq κ] {kv : κ → Value} {w : World} {m r : Nat} {M left : List (κ × Value)} (h : MpRg kv w m r M left) : w.rangeLeft m r = left.length := by
  obtain ⟨es, clock, since, c0, seen, h1, h2, h3, h4, h5, h6, h7, h8, h9, h10⟩ := h
  have := congrArg List.length h10
  simp at this
  simp only [World.rangeLeft, h1, h6]
  exact this
set_option maxRecDepth 100000 in
set_option maxHeartbeats 4000000 in
theorem countP (t : Nat) (S : List Nat) (L : List TdI) (w : World) (h : RbP w t S L) :
    Calls Tryz.prog 20 #[.pointer (some ⟨t, 0, none⟩)] w fun e w' => e = .returned (.int .i64 (L.length : Int)) ∧ RbP w' t S L ∧ Tch w w' S := by
  have HP := Lib.hid h
  obtain ⟨m, M, hr⟩ := h
  have hml : L.length ≤ 360 := by
    have h1 := len_sum (prefsI L) L (prefsI_nodup hr.inv.inv) (fun u hu => (prefsI_mem hr.inv.inv).2 ⟨u, hu, rfl⟩)
    have h9 := hr.inv.ninety
    have h4 : ∀ K : List PfI, (K.map fun p => (pathsI L p).length).sum ≤ 4 * K.length := fun K => by
      induction K with
      | nil => simp
      | cons p K ih => rw [List.map_cons, List.sum_cons, List.length_cons]; have := hr.inv.four p; omega
    have := h4 (prefsI L)
    omega
  have hs := hr.sum
  have ht := (hr.bt.cell 0).trans (show _ = some (Value.map (some m)) by rfl)
  have HMp := Lib.hid hr.mp
  have HRow : Hid (∀ x ∈ M, ∃ A c, x.2 = .slice A (pathsI L x.1).length c) := Lib.hid (fun x hx => by
    obtain ⟨⟨A, c, e, -⟩, -⟩ := hr.row x hx
    exact ⟨A, c, e⟩)
  obtain ⟨T, hT⟩ : ∃ T, L.length = T := ⟨_, rfl⟩
  rw [hT] at hml hs ⊢
  have HS := Lib.hid hs
  clear hr hT hs
  go_enter Tryz.func20, Tryz.ntmps20
  go_wp2_with (at_range; refine wpList_mrange (k := 32) rfl (.tmp 9) 59 rfl 42 Tryz.underlying59 rfl HMp.out ?_; intro w0 hrg0 hT0 hs0; have HRg0 := Lib.hid hrg0; have HT0 := Lib.hid hT0; clear hrg0 hT0 hs0)
  go_frame
  go_loopw [3, 5] (fun nv lv wr => ∃ (k : Nat) (left : List (PfI × Value)), nv = .int .i64 (k : Int) ∧ Hid (MpRg (fun p => pfR p) wr m w.heap.size M left) ∧ Hid (k + (left.map fun x => (pathsI L x.1).length).sum = T) ∧ Hid (∀ x ∈ left, x ∈ M) ∧ Hid (Tch w wr [])) (fun _ _ wr => wr.rangeLeft m w.heap.size)
  case atStart => exact ⟨0, M, rfl, HRg0, Lib.hid (by rw [Nat.zero_add]; exact HS.out), Lib.hid (fun x hx => hx), HT0⟩
  case round =>
    obtain ⟨k, left, rfl, hrg, hsum, hsub, hT⟩ := hrel
    go_wp2_with (at_next; refine wpList_mnext rfl (.tmp 10) rfl keyPf rfl hrg.out (fun hd => ?_) (fun x left' w1 hx hp hrg1 hT1 hs1 hen => ?_); rotate_left; (obtain ⟨⟨⟨xs, xh, xl⟩, xn⟩, v⟩ := x); (obtain ⟨A, c, hv⟩ := HRow.out _ hx); (dsimp only at hv); subst hv; (have HP1 := Lib.hid hp); (have HRg1 := Lib.hid hrg1); (have HT1 := Lib.hid hT1); (clear hp hrg1 hT1 hs1); rotate_right)
    · have HE : Hid (k = T) := Lib.hid (by have := hsum.out; rw [hd] at this; simpa using this)
      clear hd
      go_wp2
      go_ret
      exact ⟨by rw [HE.out]; rfl, HP.out.tch hT.out (by simp), hT.out.mono (by simp)⟩
    · have hsm : k + (pathsI L ((xs, xh, xl), xn)).length + (left'.map fun x => (pathsI L x.1).length).sum = T := by
        have h1 := (HP1.out.map fun x => (pathsI L x.1).length).sum_nat
        rw [List.map_cons, List.sum_cons] at h1
        dsimp only at h1
        have := hsum.out
        omega
      obtain ⟨q, hq⟩ : ∃ q, (pathsI L ((xs, xh, xl), xn)).length = q := ⟨_, rfl⟩
      rw [hq] at hsm
      have HSm := Lib.hid hsm
      have hkq : k + q ≤ 360 := by omega
      rw [hq]
      clear hsm hq
      go_wp2
      go_roundw
      case rel => exact ⟨k + q, left', by rw [IntWalk.wrap64_in _ (by omega)]; go_num, HRg1, HSm, Lib.hid (fun y hy => hsub.out y (HP1.out.mem_iff.2 (List.mem_cons_of_mem _ hy))), Lib.hid (hT.out.trans_fre HT1.out (fun s hs => .inr (by rw [List.mem_singleton.1 hs]; exact Nat.le_refl _)))⟩
      case measure => rw [HRg1.out.left_len, hrg.out.left_len, HP1.out.length_eq]; simp
end Go.Proofs.YtjlmgkdieffjcaaGreatDoor

namespace Go.Proofs.YtjlmgkdieffjcaaGreatDoor
open Go.RowKit Go.Shelf
set_option linter.unusedVariables false
set_option linter.unusedSectionVars false
attribute [local go_sem] Oper.semAt_some

theorem grown_of_tch {w w' : World} {r : Nat} (h : Tch w w' [r]) : w.grownBy w' (some r) := ⟨h.os, h.tape, h.output, h.size, fun k hk hne => h.block k hk (by simp; exact fun e => hne (by rw [e]))⟩
theorem grown_of_tch0 {w w' : World} (h : Tch w w' []) : w.grownBy w' none := ⟨h.os, h.tape, h.output, h.size, fun k hk hne => h.block k hk (by simp)⟩
section
variable {κ : Type} [DecidableEq κ] {k : TypeId} {kv : κ → Value} {F : Fence} {n : Nat} {w w' : World} {m r : Nat} {M left : List (κ × Value)}
theorem MpIs.of_walks (h : MpIs kv w m M) (hk : KeepsWalks w w') : MpIs kv w' m M := by
  obtain ⟨es, clock, h1, h2⟩ := h
  exact ⟨es, clock, hk.same m _ h1 rfl, h2⟩
theorem MpRg.of_walks (h : MpRg kv w m r M left) (hk : KeepsWalks w w') : MpRg kv w' m r M left := by
  obtain ⟨es, clock, since, c0, seen, h1, h2, h3, h4, h5, h6, h7⟩ := h
  exact ⟨es, clock, since, c0, seen, hk.same m _ h1 rfl, h2, h3, h4, h5, hk.same r _ h6 rfl, h7⟩
theorem MpRg.iter_walk (h : MpRg kv w m r M left) : ∃ o : Obj, w.heap[r]? = some o ∧ o.isWalk = true := by
  obtain ⟨es, clock, since, c0, seen, h1, h2, h3, h4, h5, h6, h7⟩ := h
  exact ⟨_, h6, rfl⟩
theorem wpListIn_mrange {ops : Array Oper} {rest : List Oper} {o : Oper} {a : Act} {Q : Exit → Act → World → Prop} (hg : o.guard = none) (x : Operand) (t : TypeId) (hop : o.op = Op.range t x) (e : TypeId) (ht : Tryz.prog.underlying t = some (.map k e)) (hm : a.eval x = .map (some m)) (h : MpIs kv w m M)
    (hK : ∀ w', MpRg kv w' m w.heap.size M M → Tch w w' [] → w'.heap.size = w.heap.size + 1 → wpListIn F n Tryz.prog ops Q rest (a.put o.dst (.pointer (some ⟨w.heap.size, 0, none⟩))) w') : wpListIn F n Tryz.prog ops Q (o :: rest) a w := by
  refine wpListIn_plain hg fun K' hK' => ?_
  obtain ⟨w', hrun, r1, r2, r3⟩ := h.range ht
  unfold Oper.wpIn
  refine ⟨by simp [Oper.about, hop], ?_⟩
  rw [Oper.semAt_plain F _ _ (by rw [hop]; intro c hc'; cases hc')]
  simp [execOp, hop, hm, hrun, Result.andThen]
  exact hK' _ _ (hK w' r1 r2 r3)
theorem wpListIn_mnext {ops : Array Oper} {rest : List Oper} {o : Oper} {a : Act} {Q : Exit → Act → World → Prop} (hg : o.guard = none) (it : Operand) (hop : o.op = Op.next it false) (K : KeyT k kv) (hit : a.eval it = .pointer (some ⟨r, 0, none⟩)) (h : MpRg kv w m r M left)
    (hDone : left = [] → wpListIn F n Tryz.prog ops Q rest (a.put o.dst (.tuple #[.bool false])) w)
    (hMore : ∀ (x : κ × Value) (left' : List (κ × Value)) (w' : World), x ∈ M → left.Perm (x :: left') → MpRg kv w' m r M left' → Tch w w' [r] → w'.heap.size = w.heap.size → (Instr.entry (.pointer (some ⟨r, 0, none⟩))).run Tryz.prog w' = .ok (.tuple #[kv x.1, x.2]) w' →
      wpListIn F n Tryz.prog ops Q rest (a.put o.dst (.tuple #[.bool true, kv x.1, x.2])) w') : wpListIn F n Tryz.prog ops Q (o :: rest) a w := by
  refine wpListIn_plain hg fun K' hK' => ?_
  unfold Oper.wpIn
  refine ⟨by simp [Oper.about, hop], ?_⟩
  rw [Oper.semAt_plain F _ _ (by rw [hop]; intro c hc'; cases hc')]
  rcases h.next K o.type with ⟨h0, hrun⟩ | ⟨x, left', w', hx, hp, hrun, r1, r2, r3, r4⟩
  · simp [execOp, hop, hit, hrun, Result.andThen]
    exact hK' _ _ (hDone h0)
  · simp [execOp, hop, hit, hrun, Result.andThen]
    exact hK' _ _ (hMore x left' w' hx hp r1 r2 r3 r4)
end
set_option maxRecDepth 100000 in
set_option maxHeartbeats 2000000 in
/-- The iterator that maps.Keys hands back. -/
theorem keys1_in (F : Fence) (n : Nat) (h10 : F.fn 57) (hro : F.round = none) (hn : 1 ≤ n) (l Bm m : Nat) (M : List (PfI × Value)) (J Jx : List PfI → World → Prop)
    (hY : ∀ pre x W, J pre W → pre.length < M.length → YieldAt F (n - 1) Tryz.prog l #[pfR x] W fun e W' => (e = .returned (.bool true) ∧ J (pre ++ [x]) W' ∧ KeepsWalks W W') ∨ (e = .returned (.bool false) ∧ Jx (pre ++ [x]) W'))
    (W : World) (hJ : AbidesFrom W.heap.size J) (hm : W.cell? ⟨Bm, 0, none⟩ = some (.map (some m))) (hown : MpIs (fun p => pfR p) W m M) (h0 : J [] W) :
    CallsIn F n Tryz.prog 57 #[.func (.yield l) #[] #[], .pointer (some ⟨Bm, 0, none⟩)] W fun e W' => (∃ v, e = .returned v) ∧ ((∃ ss, ss.Perm (M.map Prod.fst) ∧ J ss W') ∨ (∃ pre, True ∧ Jx pre W')) := by
  refine callsIn_of_wp Tryz.func57 rfl h10 ?_ hro
  simp only [Tryz.ntmps57, List.size_toArray, List.length_cons, List.length_nil, Nat.reduceAdd, Nat.reduceSub, Array.replicate_succ, Array.replicate_zero, List.push_toArray, List.append_toArray, List.nil_append, List.cons_append]
  gi_wp2_with (first
    | (gi_at_range; refine wpListIn_mrange (k := 32) rfl (.tmp 4) 59 rfl 42 Tryz.underlying59 rfl hown ?_; intro w0 hrg0 hT0 hs0)
    | gi_in)
  go_frame
  gi_loopw [3] (fun _ wr => ∃ (left : List (PfI × Value)) (ss : List PfI), MpRg (fun p => pfR p) wr m W.heap.size M left ∧ (ss ++ left.map Prod.fst).Perm (M.map Prod.fst) ∧ J ss wr)
    (fun _ wr => wr.rangeLeft m W.heap.size)
  case atStart =>
    exact ⟨M, [], hrg0, List.Perm.refl _, hJ [] W w0 none h0 (grown_of_tch0 hT0) (fun r e => by cases e)⟩
  case round =>
    obtain ⟨left, ss, hrg, hC, hJs⟩ := hrel
    gi_wp2_with (first
      | (gi_at_next; refine wpListIn_mnext rfl (.tmp 5) rfl keyPf rfl hrg (fun hd => ?_) (fun x left' w2 hx hp hrg2 hT2 hs2 hen => ?_))
      | gi_in)
    · gi_wp2
      go_end0
      exact ⟨⟨_, rfl⟩, .inl ⟨ss, by rw [hd] at hC; simpa using hC, hJs⟩⟩
    · obtain ⟨⟨⟨xs, xh, xl⟩, xn⟩, v⟩ := x
      have hT3 := (Tch.refl w2 []).alloc (.cells #[.bool xs, .int .u64 (xh : Int), .int .u64 (xl : Int), .int .i64 xn] 32)
      have hJ2 : J ss w2 := hJ ss wr w2 (some W.heap.size) hJs (grown_of_tch hT2) (fun r e => by cases e; exact ⟨Nat.le_refl _, hrg.iter_walk⟩)
      have hJ3 : J ss (w2.alloc (.cells #[.bool xs, .int .u64 (xh : Int), .int .u64 (xl : Int), .int .i64 xn] 32)) := hJ ss w2 _ none hJ2 (grown_of_tch0 hT3) (fun r e => by cases e)
      have hln : ss.length < M.length := by
        have h1 := hC.length_eq
        rw [List.length_append, List.length_map, List.length_map, hp.length_eq, List.length_cons] at h1
        omega
      have hrg3 := hrg2.tch hT3 (by simp) (by simp)
      have hC2 : ((ss ++ [((xs, xh, xl), xn)]) ++ left'.map Prod.fst).Perm (M.map Prod.fst) := by
        rw [List.append_assoc]
        exact ((hp.map Prod.fst).symm.append_left ss).trans hC
      obtain ⟨fn, tmps, assign, body, hy, hR⟩ := hY ss ((xs, xh, xl), xn) _ hJ3 hln
      have bX := Blk.new w2 32 #[.bool xs, .int .u64 (xh : Int), .int .u64 (xl : Int), .int .i64 xn]
      obtain ⟨x0, x1, x2, x3⟩ := bX.c4
      clear hs2 hT2 hT3 bX hx
      gi_wp2
      refine hR.mono ?_
      rintro e W3 (⟨rfl, hJ4, hk4⟩ | ⟨rfl, hJx⟩)
      · gi_wp2
        have hrg4 := hrg3.of_walks hk4
        go_roundw
        case rel => exact ⟨left', _, hrg4, hC2, hJ4⟩
        case measure => rw [hrg4.left_len, hrg.left_len, hp.length_eq]; simp
      · gi_wp2
        refine bodyPost_ret (results_none rfl _ _ _) rfl ?_
        exact ⟨⟨_, rfl⟩, .inr ⟨_, trivial, hJx⟩⟩
theorem keys_stops (F : Fence) (n : Nat) (h10 : F.fn 57) (hro : F.round = none) (hn : 1 ≤ n) (Bm m : Nat) (M : List (PfI × Value)) (w : World) (hBm : Bm < w.heap.size) (hm : w.cell? ⟨Bm, 0, none⟩ = some (.map (some m))) (hown : MpIs (fun p => pfR p) w m M) :
    SeqStopsK F n Tryz.prog 57 #[.pointer (some ⟨Bm, 0, none⟩)] (fun p : PfI => #[pfR p]) KeepsWalks (fun ss => ss.Perm (M.map Prod.fst)) (fun _ => True) M.length w := fun l J Jx W hW hJ _ hY h0 =>
  keys1_in F n h10 hro hn l Bm m M J Jx hY W hJ ((hW.cell (p := ⟨Bm, 0, none⟩) hBm).trans hm) (hown.tch (Tch.of_below [] hW) (by simp)) h0
set_option maxRecDepth 100000 in
set_option maxHeartbeats 1000000 in
theorem keysP (m : Nat) (w : World) : Calls Tryz.prog 36 #[.map (some m)] w fun e w' => e = .returned (.func (.func 57) #[] #[.pointer (some ⟨w.heap.size, 0, none⟩)]) ∧ w' = w.alloc (.cells #[.map (some m)] 59) := by
  go_enter Tryz.func36, Tryz.ntmps36
  go_wp2
  go_ret
  exact ⟨rfl, rfl⟩
end Go.Proofs.YtjlmgkdieffjcaaGreatDoor

namespace Go.Proofs.YtjlmgkdieffjcaaGreatDoor
open Go.RowKit Go.Shelf
set_option linter.unusedVariables false
set_option linter.unusedSectionVars false
attribute [local go_sem] Oper.semAt_some

/-- What has come so far, in the call's own row, the slice in a box; nothing that lay before has turned. -/
def CoI (w : World) (Bs : Nat) (ss : List PfI) (W : World) : Prop :=
  (∃ v, Boxed W Bs 44 v ∧ W.ownsRow w.heap.size 32 4 v ss.length (ss.flatMap pfC) ∧ (v = .slice none 0 0 ↔ ss = [])) ∧ Below w.heap.size w W
theorem CoI.own (w : World) (Bs B : Nat) (hB : w.heap.size ≤ B) : OwnFrom B (CoI w Bs) :=
  OwnFrom.and (Own.from (holdsRow_own _ _ _ _ 4 (fun ss : List PfI => ss.length) (fun ss : List PfI => ss.flatMap pfC) (fun ss v => v = .slice none 0 0 ↔ ss = [])) _) (ownFrom_below (Nat.le_refl _) hB)
def CoX (Bs : Nat) (f : Nat → Act) (x : PfI) (a : Act) (W : World) : Prop :=
  ∃ Bx, Bs < Bx ∧ W.heap[Bx]? = some (.cells (pfC x).toArray 32 (0, 0)) ∧ a = f Bx
theorem CoX.own (Bs B : Nat) (f : Nat → Act) (x : PfI) (a : Act) : OwnFrom B (fun (_ : Unit) W => CoX Bs f x a W) := by
  rintro _ X Y row ⟨Bx, h1, h2, h3⟩ hg hr
  refine ⟨Bx, h1, (hg.block Bx (Array.getElem?_eq_some_iff.1 h2).1 (fun e => ?_)).trans h2, h3⟩
  obtain ⟨_, o, ho, hc⟩ := hr Bx e.symm
  rw [h2] at ho; cases ho; cases hc
theorem pfC_len (x : PfI) : (pfC x).length = 4 := by obtain ⟨⟨a, b, c⟩, d⟩ := x; rfl
theorem pfC_flat (l : List PfI) : (l.flatMap pfC).length = l.length * 4 := by
  induction l with
  | nil => rfl
  | cons a l ih => rw [List.flatMap_cons, List.length_append, pfC_len, ih, List.length_cons]; omega
theorem pfInfo : (Tryz.prog.info? 32).map (fun i => (i.zero, i.size, i.bytes)) = some (some (.agg #[.bool false, .int .u64 0, .int .u64 0, .int .i64 0]), 4, 32) := by kernel_rfl
set_option maxRecDepth 100000 in
set_option maxHeartbeats 2000000 in
theorem appSeq_in (F : Fence) (n : Nat) (h11 : F.fn 79) (hro : F.round = none) (hn : 2 ≤ n) (g : Nat) (lb : Array Value) (hFg : F.fn g) (eg : ∀ args w, (callFunc g args).run Tryz.prog w = .ok (.enter g args) w)
    (S : List PfI → Prop) (N : Nat) (hN : N ≤ 100000) (w : World) (hseq : SeqStopsK F (n - 1) Tryz.prog g lb (fun p : PfI => #[pfR p]) KeepsWalks S (fun _ => True) N w) :
    CallsIn F n Tryz.prog 79 #[.slice none 0 0, .func (.func g) #[] lb] w fun e w' => ∃ (v : Value) (ss : List PfI), e = .returned v ∧ S ss ∧ w'.ownsRow w.heap.size 32 4 v ss.length (ss.flatMap pfC) ∧ (v = .slice none 0 0 ↔ ss = []) ∧ Below w.heap.size w w' := by
  have h1 : 1 ≤ n := by omega
  obtain ⟨i0, hi, hz0, hz1, hz2⟩ := info_parts pfInfo
  refine callsIn_of_wp_marks Tryz.func79 rfl h11 ?_ hro
  simp only [Tryz.ntmps79, List.size_toArray, List.length_cons, List.length_nil, Nat.reduceAdd, Nat.reduceSub, Array.replicate_succ, Array.replicate_zero, List.push_toArray, List.append_toArray, List.nil_append, List.cons_append]
  gi_wp2
  have bS := Boxed.new w 44 (.slice none 0 0)
  have hB0 : Below w.heap.size w (w.alloc (.cells #[.slice none 0 0] 44)) := (Below.refl _ w).alloc (Nat.le_refl _) _
  have hsz : (w.alloc (.cells #[.slice none 0 0] 44)).heap.size = w.heap.size + 1 := by simp
  obtain ⟨W0, hW0⟩ : ∃ W0, w.alloc (.cells #[.slice none 0 0] 44) = W0 := ⟨_, rfl⟩
  rw [hW0] at bS hB0 hsz ⊢
  clear hW0
  refine wpIn_rangeFunc_ownH hro h1 (gf := g) (lb := lb) rfl hFg eg hseq walksK_t (fun W l o o' hl h h2 h3 => walksK_b (w := W0) W l o o' hl h h2 h3) hB0 (fun _ => rfl)
    (CoI w w.heap.size) (fun _ _ _ => False) (CoI.own w _ _ (by omega)) (fun _ _ _ _ _ hs _ _ => hs)
    ⟨⟨_, bS, ⟨rfl, .inl ⟨rfl, rfl⟩⟩, by simp⟩, hB0⟩
    (fun x a' W => CoX w.heap.size (fun Bx => { tmps := #[.slice none 0 0, .func (.func g) #[] lb, .pointer (some ⟨w.heap.size, 0, none⟩), undef, .slice none 0 0, .pointer (some ⟨Bx, 0, none⟩), .func (.func g) #[] lb, pfR x, undef, undef, undef, undef, undef], defers := [] }) x a' W)
    (fun x a' => CoX.own _ _ _ x a')
    ?assign ?body ?done ?stop
  case assign =>
    rintro l pre ⟨⟨xs, xh, xl⟩, xn⟩ W K hI hK
    gi_wp2
    exact hK _ _ ((KeepsOthers.alloc _ _).from _) (KeepsWalks.alloc _ _) ((CoI.own w _ _ (Nat.le_refl _)).alloc _ hI) ⟨W.heap.size, by obtain ⟨⟨v, hv, _⟩, _⟩ := hI; exact hv.lt, World.alloc_heap_new W _, rfl⟩
  case body =>
    rintro l pre ⟨⟨xs, xh, xl⟩, xn⟩ a' W hl ⟨r, hr⟩ ⟨⟨v, bV, hrow, hnil⟩, hBW⟩ ⟨Bx, hBx, hX, rfl⟩ hlt
    have cV := bV.cell
    have bX : Blk W Bx 32 (pfC ((xs, xh, xl), xn)).toArray := hX
    have bX' : Blk W Bx 32 #[.bool xs, .int .u64 (xh : Int), .int .u64 (xl : Int), .int .i64 xn] := bX
    obtain ⟨x0, x1, x2, x3⟩ := bX'.c4
    have hne : 44 ≠ 32 := by decide
    clear hX bX bX'
    gi_wp2_with (first
      | (gi_at_builtin; refine wpListIn_append_own _ rfl _ _ 44 rfl w.heap.size 32 i0 (.agg #[.bool false, .int .u64 0, .int .u64 0, .int .i64 0]) 4 32 Tryz.underlying44 hi hz0 hz1 hz2 rfl (by decide) _ _ _ rfl (hrow.alloc _) ⟨W.heap.size, 0, none⟩ 1 1 (pfC ((xs, xh, xl), xn)) rfl rfl (src_new W _ _) (by intro u hu; simp [pfC] at hu; rcases hu with rfl | rfl | rfl | rfl <;> rfl) (by simp only [maxLen]; omega) (by omega) (by have := hBW.size; simp; omega) ?_; intro v' w3 hown' hg3 hnil3; obtain ⟨bV1, bV2, hr2, hko, hb2⟩ := bV.appended hne hrow hBW.size (Nat.le_refl _) hown' hg3; obtain ⟨g', cap', rfl⟩ := ownsRow_succ hown'; have cV1 := bV1.cell; have fV1 := bV1.frozen)
      | gi_in)
    exact ⟨hko.from _, hko.walks, ⟨_, bV2, by simpa [List.flatMap_append] using hr2, by simp⟩, hBW.trans hb2⟩
  case done =>
    rintro D ss W hD hS ⟨⟨v, bV, hrow, hnil⟩, hBW⟩ hK
    have cV := bV.cell
    gi_wp2
    refine ⟨by simp, .inl ⟨_, _, rfl, run_takeDeferred hK, ?_⟩⟩
    have hnD : ∀ k, v.ownBlock = some k → D ≠ k := by
      rintro k hk rfl
      rcases hrow.2 with ⟨rfl, _⟩ | ⟨g, cap, cur, rfl, _, hgb, _⟩
      · simp [Value.ownBlock] at hk
      · have : g = D := by simpa [Value.ownBlock] using hk
        subst this; rw [hgb] at hK; cases hK
    exact ⟨_, results_tmp rfl _ _ _, v, ss, rfl, hS, hrow.kept (grownBy_putObj' _ _ _) (.inr fun e => hnD D e rfl), hnil, hBW.grown (grownBy_putObj' _ _ _) hBW.size (fun k e => by cases e; omega)⟩
  case stop =>
    rintro D c pre W _ _ h _
    exact h.elim
set_option maxRecDepth 100000 in
set_option maxHeartbeats 1000000 in
theorem collect_in (F : Fence) (n : Nat) (h8 : F.fn 56) (h11 : F.fn 79) (hro : F.round = none) (hn : 3 ≤ n) (g : Nat) (lb : Array Value) (hFg : F.fn g) (eg : ∀ args w, (callFunc g args).run Tryz.prog w = .ok (.enter g args) w)
    (S : List PfI → Prop) (N : Nat) (hN : N ≤ 100000) (w : World) (hseq : SeqStopsK F (n - 1 - 1) Tryz.prog g lb (fun p : PfI => #[pfR p]) KeepsWalks S (fun _ => True) N w) :
    CallsIn F n Tryz.prog 56 #[.func (.func g) #[] lb] w fun e w' => ∃ (v : Value) (ss : List PfI), e = .returned v ∧ S ss ∧ w'.ownsRow w.heap.size 32 4 v ss.length (ss.flatMap pfC) ∧ (v = .slice none 0 0 ↔ ss = []) ∧ Below w.heap.size w w' := by
  have h1 : 1 ≤ n := by omega
  refine callsIn_of_wp Tryz.func56 rfl h8 ?_ hro
  simp only [Tryz.ntmps56, List.size_toArray, List.length_cons, List.length_nil, Nat.reduceAdd, Nat.reduceSub, Array.replicate_succ, Array.replicate_zero, List.push_toArray, List.append_toArray, List.nil_append, List.cons_append]
  gi_wp2_with (gi_at_call 79; refine (appSeq_in F (n - 1) h11 hro (by omega) g lb hFg eg S N hN _ hseq).mono ?_; rintro e w' ⟨v, ss, rfl, hS, hrow, hnil, hb⟩)
  go_ret
  exact ⟨v, ss, rfl, hS, hrow, hnil, hb⟩
/-- slices.Collect of what maps.Keys hands back. -/
theorem collectP (Bm m : Nat) (M : List (PfI × Value)) (hM : M.length ≤ 100000) (w : World) (hBm : Bm < w.heap.size) (hm : w.cell? ⟨Bm, 0, none⟩ = some (.map (some m))) (hown : MpIs (fun p => pfR p) w m M) :
    Calls Tryz.prog 56 #[.func (.func 57) #[] #[.pointer (some ⟨Bm, 0, none⟩)]] w fun e w' => ∃ (v : Value) (ss : List PfI), e = .returned v ∧ ss.Perm (M.map Prod.fst) ∧ w'.ownsRow w.heap.size 32 4 v ss.length (ss.flatMap pfC) ∧ (v = .slice none 0 0 ↔ ss = []) ∧ Below w.heap.size w w' :=
  callsIn_wide.1 (collect_in Fence.wide 5 trivial trivial rfl (by decide) _ _ trivial (enters_of Tryz.func57 (by kernel_rfl) rfl) _ _ hM w (keys_stops Fence.wide _ trivial rfl (by decide) Bm m M w hBm hm hown))
end Go.Proofs.YtjlmgkdieffjcaaGreatDoor
