/-
  Several texts in one: RpJ, RpR.
-/
import Derived.Test.YtgfkmgbcajdcdaaGreatDoorZak
import Derived.Test.YtgfkmgbcajdcdaaGreatDoorZad
import Derived.Test.YtgfkmgbcajdcdaaGreatDoorZag
import Derived.Test.YtgfkmgbcajdcdaaGreatDoorZaa
set_option linter.unusedVariables false
set_option maxRecDepth 100000
set_option maxHeartbeats 16000000
namespace Go.Proofs.YtgfkmgbcajdcdaaGreatDoor
open Go.RowKit

theorem way_mem {L : List TdI} {p : PfI} {x : PaI} (h : wayI L p x = 0) : (p, x) ∉ L := fun hm => by
 have := wayI_zero.1 h _ hm
 simp [isW, sameW_refl] at this
theorem put_row {L : List TdI} (h : InvB L) {p : PfI} {x : PaI} (h2 : InvB (putR L p x).1) (hr : rightI p x = true) {l : List PaI} (hl : pathsI L p = l) :
  (∀ j, fndI (fun y => sameW x y) l = j + 1 → (putR L p x).2 = 0 ∧ pathsI (putR L p x).1 p = insP (l.eraseIdx j) x ∧ ∀ q, ¬ q = p → pathsI (putR L p x).1 q = pathsI L q) ∧
  (fndI (fun y => sameW x y) l = 0 → (l.length = 4 ∨ (l.length = 0 ∧ (prefsI L).length = 90)) → putR L p x = (L, 141)) ∧
  (fndI (fun y => sameW x y) l = 0 → ¬ (l.length = 4 ∨ (l.length = 0 ∧ (prefsI L).length = 90)) → (putR L p x).2 = 0 ∧ pathsI (putR L p x).1 p = insP l x ∧ ∀ q, ¬ q = p → pathsI (putR L p x).1 q = pathsI L q) := by
 have hW := way_row L p x
 have h4 := h.four p
 have h9 := h.ninety
 rw [hl] at hW h4
 have er : ¬ rightI p x = false := by rw [hr]; simp
 refine ⟨fun j hj => ?_, fun h0 hf => ?_, fun h0 hf => ?_⟩
 ·have hw0 : ¬ wayI L p x = 0 := fun e => by have := hW.1.1 e; omega
  obtain ⟨w1, w2⟩ := hW.2 hw0
  rw [hj, Nat.add_sub_cancel] at w1
  have e : putR L p x = (insI (L.eraseIdx (wayI L p x - 1)) (p, x), 0) := by unfold putR; rw [if_neg er, if_pos hw0]
  rw [e] at h2 ⊢
  have hi1 := h.inv.sub (List.eraseIdx_sublist L (wayI L p x - 1))
  obtain ⟨r1, r2⟩ := ins_row hi1 h2.inv (way_mem (erase_way h.inv.way hw0))
  exact ⟨rfl, by rw [r1, w1], fun q hq => (r2 q hq).trans (w2 q hq)⟩
 ·unfold putR
  rw [if_neg er, if_neg (by rw [hW.1.2 h0]; simp), if_pos (by rw [hl]; omega)]
 ·have hw0 := hW.1.2 h0
  have e : putR L p x = (insI L (p, x), 0) := by unfold putR; rw [if_neg er, if_neg (by rw [hw0]; simp), if_neg (by rw [hl]; omega)]
  rw [e] at h2 ⊢
  obtain ⟨r1, r2⟩ := ins_row h.inv h2.inv (way_mem hw0)
  exact ⟨rfl, by rw [r1, hl], r2⟩
theorem put_ok {L : List TdI} {p : PfI} {x : PaI} (h : ∀ u ∈ L, PfOk u.1 ∧ PaOk u.2) (hp : PfOk p) (hx : PaOk x) : ∀ u ∈ (putR L p x).1, PfOk u.1 ∧ PaOk u.2 := by
 intro u hu
 unfold putR at hu
 split at hu
 ·exact h u hu
 ·split at hu
  ·rcases (insI_mem _ _ _).1 hu with e | e
   ·rw [e]; exact ⟨hp, hx⟩
   ·exact h u ((List.eraseIdx_sublist _ _).subset e)
  ·split at hu
   ·exact h u hu
   ·rcases (insI_mem _ _ _).1 hu with e | e
    ·rw [e]; exact ⟨hp, hx⟩
    ·exact h u e
def InsQ (w W : World) (t m : Nat) (M : List (PfI × Value)) (S R : List Nat) (L' : List TdI) (p : PfI) (n : Nat) (e : Ending) (w' : World) : Prop :=
 ∃ A' c', e = .returned (.slice A' (n + 1) c') ∧ Tch W w' R ∧ MpIs (fun p => pfR p) w' m M ∧ ∀ w4, MpIs (fun p => pfR p) w4 m (mpPut M p (.slice A' (n + 1) c')) → Tch w' w4 [m] → ∃ S', RbP w4 t S' L' ∧ Goes w w4 S S'
theorem putP (t : Nat) (S : List Nat) (L : List TdI) (p : PfI) (x : PaI) (hp : PfOk p) (hx : PaOk x) (w : World) (hE : EnvR w) (hg : 0 ∉ S) (h : RbP w t S L) :
  Calls Tryz.prog 40 #[.pointer (some ⟨t, 0, none⟩), pfR p, paR x] w fun e w' => e = .returned (.int .i64 (putR L p x).2) ∧ ∃ S', RbP w' t S' (putR L p x).1 ∧ Goes w w' S S' := by
 have HP := lH h
 obtain ⟨m, M, hr⟩ := h
 obtain ⟨A, c, he, ho, hlk⟩ := hr.look p
 have hI := hr.inv.put p x hp.1 hx.2.2.1
 have hok := put_ok (p := p) (x := x) hr.ok hp hx
 have hPR := fun hright => put_row hr.inv hI hright (l := pathsI L p) rfl
 have hBad : rightI p x = false → putR L p x = (L, 140) := fun e => by unfold putR; rw [if_pos e]
 obtain ⟨D, hD⟩ : ∃ D, putR L p x = D := ⟨_, rfl⟩
 have hn4 := hr.inv.four p
 have hml := hr.len
 have hm9 := hr.inv.ninety
 obtain ⟨l, hl⟩ : ∃ l, pathsI L p = l := ⟨_, rfl⟩
 obtain ⟨n, hn⟩ : ∃ n, l.length = n := ⟨_, rfl⟩
 obtain ⟨k, hk⟩ : ∃ k, fndI (fun y => sameW x y) l = k := ⟨_, rfl⟩
 obtain ⟨N, hN⟩ : ∃ N, M.length = N := ⟨_, rfl⟩
 obtain ⟨R, hR⟩ : ∃ R, obI (mpV M p nilS) = R := ⟨_, rfl⟩
 obtain ⟨b, hb⟩ : ∃ b, rightI p x = b := ⟨_, rfl⟩
 have hkn : k ≤ n := by rw [← hk, ← hn]; exact fndI_le _ _
 rw [hl, hn] at he ho hlk hn4
 rw [hl, hk, hn, ← hml, hN, hD, hb] at hPR
 rw [← hml, hN] at hm9
 rw [hD, hb] at hBad
 rw [hD] at hI hok ⊢
 have HFind := lH (fun W (hT : Tch w W []) => find_any x A n c l hn (by omega) W (own_tch ho hT (by simp)))
 rw [hk] at HFind
 have HVal := lH (fun W => valid_p p x hp.1 hx.2.2.1 W)
 rw [hb] at HVal
 have HPR := lH hPR
 have HBad := lH hBad
 have HeR : Hid (obI (.slice A n c) = R) := lH (by rw [← hR, he])
 have HIns : Hid (∀ (B : Option Addr) (n' c' : Nat) (l' : List PaI) (W : World), obI (.slice B n' c') = R → l'.length = n' → n' ≤ 1000 → Tch w W R → W.ownsRow 0 49 7 (.slice B n' c') n' (l'.flatMap paC) → pathsI D.1 p = insP l' x → (∀ q, ¬ q = p → pathsI D.1 q = pathsI L q) →
   Calls Tryz.prog 83 #[.slice B n' c', paR x] W (InsQ w W t m M S R D.1 p n')) := lH (fun B n' c' l' W hB hl' hn' hT hrow hins hq => by
  have hgR : 0 ∉ R := fun hm => hg (hr.sub_ p _ (by rw [hR]; exact hm)).1
  refine (insert_any B n' c' l' hl' hn' x W (hE.tch hT hgR) hrow).mono ?_
  rintro e w' ⟨A', c9, rfl, h1, h2, h3⟩
  rw [hB] at h2 h3
  have hlen : (insP l' x).length = n' + 1 := by
   have := h1.1
   rw [flatk_len pa_seven] at this
   omega
  have hT' := hT.trans h2
  refine ⟨A', c9, rfl, h2, hr.mp.tch hT' (fun hm => (hr.sub_ p m (by rw [hR]; exact hm)).2.2 rfl), fun w4 hM4 hT4 => ?_⟩
  refine hr.set_ (by rw [hR]; exact hT') ⟨A', c9, by rw [hins, hlen], by rw [hins, hlen]; exact h1⟩ (by rw [hins, hlen]; omega) (fun s hs => ?_) hq hI hok hM4 hT4
  rw [hR]
  rcases h3 s hs with e | e
  ·exact .inl e
  ·exact .inr (Nat.le_trans hT.size e))
 have HDel := lH (fun g j W (hj : j < n) (hT : Tch w W []) (hA : A = some ⟨g, 0, none⟩) => delete_pa g n c j l hn (by omega) hj W (by have := own_tch ho hT (by simp); rw [hA] at this; exact this))
 have HSl : Hid (0 < n → ∃ g, A = some ⟨g, 0, none⟩) := lH (fun h0 => slice_some ho h0)
 have HRow := lH (fun W (hT : Tch w W []) => own_tch ho hT (by simp))
 have HLn := lH hn
 have hRn0 : ∀ s ∈ R, s < w.heap.size ∧ s ≠ t := fun s hs => by
  have := hr.sub_ p s (by rw [hR]; exact hs)
  exact ⟨hr.lt s this.1, this.2.1⟩
 have hMn0 : m < w.heap.size ∧ m ≠ t := ⟨hr.mp.lt, fun e => by have := hr.nod; rw [hr.eS, e] at this; simp at this⟩
 have hlen0 : ∀ W, Tch w W [] → ∀ ty, (Builtin.len_ #[121] ty #[.map (some m)]).run Tryz.prog W = .ok (goInt N) W := fun W hT ty => by
  rw [(hr.mp.tch hT (by simp)).len Tryz.underlying121 ty, hN]
 have HLen := lH hlen0
 obtain ⟨⟨ps, ph, pl⟩, pb⟩ := p
 obtain ⟨pr, me, ⟨vs, vh, vl⟩, po, aw⟩ := x
 obtain ⟨W0, hW0⟩ : ∃ W, (w.alloc (.cells #[.bool ps, .int .u64 (ph : Int), .int .u64 (pl : Int), .int .i64 pb] 30)).alloc (.cells #[.int .i64 pr, .int .i64 me, .bool vs, .int .u64 (vh : Int), .int .u64 (vl : Int), .int .i64 po, .bool aw] 49) = W := ⟨_, rfl⟩
 obtain ⟨xb, hxb⟩ : ∃ xb, w.heap.size = xb := ⟨_, rfl⟩
 obtain ⟨yb, hyb⟩ : ∃ yb, xb + 1 = yb := ⟨_, rfl⟩
 have hX : Blk W0 xb 30 #[.bool ps, .int .u64 (ph : Int), .int .u64 (pl : Int), .int .i64 pb] := hW0 ▸ hxb ▸ (Blk.new w _ _).alloc _
 have hY : Blk W0 yb 49 #[.int .i64 pr, .int .i64 me, .bool vs, .int .u64 (vh : Int), .int .u64 (vl : Int), .int .i64 po, .bool aw] := by
  have := Blk.new (w.alloc (.cells #[.bool ps, .int .u64 (ph : Int), .int .u64 (pl : Int), .int .i64 pb] 30)) 49 #[.int .i64 pr, .int .i64 me, .bool vs, .int .u64 (vh : Int), .int .u64 (vl : Int), .int .i64 po, .bool aw]
  rw [zA, hxb, hyb, hW0] at this
  exact this
 have hT0 : Tch w W0 [] := hW0 ▸ ((Tch.refl w []).alloc _).alloc _
 have HT0 := lH hT0
 have hbt := hT0.blk hr.bt (by simp)
 rw [hxb] at hRn0 hMn0
 have HRn := lH hRn0
 have HMn := lH hMn0
 have HCells : Hid (∀ W T, Tch W0 W T → (∀ s ∈ T, s < xb ∧ s ≠ t) → W.cell? ⟨t, 0, none⟩ = some (Value.map (some m)) ∧ W.cell? ⟨xb, 0, none⟩ = some (Value.bool ps) ∧ W.cell? ⟨xb, 1, none⟩ = some (Value.int .u64 (ph : Int)) ∧ W.cell? ⟨xb, 2, none⟩ = some (Value.int .u64 (pl : Int)) ∧ W.cell? ⟨xb, 3, none⟩ = some (Value.int .i64 pb) ∧ W.cell? ⟨yb, 0, none⟩ = some (Value.int .i64 pr) ∧ W.cell? ⟨yb, 1, none⟩ = some (Value.int .i64 me) ∧ W.cell? ⟨yb, 2, none⟩ = some (Value.bool vs) ∧ W.cell? ⟨yb, 3, none⟩ = some (Value.int .u64 (vh : Int)) ∧ W.cell? ⟨yb, 4, none⟩ = some (Value.int .u64 (vl : Int)) ∧ W.cell? ⟨yb, 5, none⟩ = some (Value.int .i64 po) ∧ W.cell? ⟨yb, 6, none⟩ = some (Value.bool aw)) := lH (fun W T hT hs =>
  ⟨((hT.blk hbt (fun hm => (hs _ hm).2 rfl)).cell 0).trans rfl, (hT.blk hX (fun hm => by have := hs _ hm; omega)).c4.1, (hT.blk hX (fun hm => by have := hs _ hm; omega)).c4.2.1, (hT.blk hX (fun hm => by have := hs _ hm; omega)).c4.2.2.1, (hT.blk hX (fun hm => by have := hs _ hm; omega)).c4.2.2.2, (hT.blk hY (fun hm => by have := hs _ hm; omega)).p7⟩)
 have HLook : Hid (∀ W, Tch w W [] → ∀ q, (Instr.lookup 121 (.map (some m)) (.agg #[.bool ps, .int .u64 (ph : Int), .int .u64 (pl : Int), .int .i64 pb]) false).run Tryz.prog (W.drewN q) = .ok (.slice A n c) (W.drewN q)) := lH (fun W hT q => hlk _ (hT.drewN q))
 obtain ⟨z, x0, x1, x2, x3, y0, y1, y2, y3, y4, y5, y6⟩ := HCells.out W0 [] (Tch.refl _ _) (by simp)
 clear hX hY hT0 hbt hRn0 hMn0 hr hlk he ho hI hok hD hl hn hk hp hx hPR hBad hml hN hR hb hlen0 hE hg
 go_enter Tryz.func40, Tryz.ntmps40
 go_wp2_with fail
 refine cZm (HVal.out W0) ?_
 rintro e w1 ⟨rfl, hT⟩
 have HT01 := lH hT
 have HT1 := lH (HT0.out.trans hT)
 clear hT z x0 x1 x2 x3 y0 y1 y2 y3 y4 y5 y6 hW0 hxb hyb
 cases b with
 | false =>
  have HD := lH (HBad.out rfl)
  go_wp2
  go_ret
  rw [HD.out]
  exact ⟨rfl, S, HP.out.tch HT1.out (by simp), Goes.of_tch (HT1.out.mono (by simp))⟩
 | true =>
  obtain ⟨z, x0, x1, x2, x3, y0, y1, y2, y3, y4, y5, y6⟩ := HCells.out w1 [] HT01.out (by simp)
  have hlk0 := HLook.out w1 HT1.out
  obtain ⟨hq1, hq2, hq3⟩ := HPR.out rfl
  have HQ1 := lH hq1
  have HQ2 := lH hq2
  have HQ3 := lH hq3
  clear hq1 hq2 hq3
  go_wp2
  go_quiet (fail)
  obtain ⟨W1, hW1⟩ : ∃ W1, w1.drewN nq = W1 := ⟨_, rfl⟩
  rw [hW1]
  have HT01 : Hid (Tch W0 W1 []) := lH (hW1 ▸ HT01.out.drewN nq)
  have HT1 : Hid (Tch w W1 []) := lH (hW1 ▸ HT1.out.drewN nq)
  clear z x0 x1 x2 x3 y0 y1 y2 y3 y4 y5 y6 hlk0 hW1
  obtain ⟨z, x0, x1, x2, x3, y0, y1, y2, y3, y4, y5, y6⟩ := HCells.out W1 [] HT01.out (by simp)
  go_wp2_with fail
  refine cZm (HFind.out W1 HT1.out) ?_
  rintro e w2 ⟨rfl, hT⟩
  have HT2 := lH (HT1.out.trans hT)
  have HT02 := lH (HT01.out.trans hT)
  clear hT z x0 x1 x2 x3 y0 y1 y2 y3 y4 y5 y6
  rcases Nat.eq_zero_or_pos k with h0 | h0
  ·subst h0
   have i0 : ¬ (0 : Int) ≤ ((0 : Nat) : Int) - 1 := by omega
   have HX2 := lH (HCells.out w2 [] HT02.out (by simp))
   have HX2d := lH (HCells.out w2.drew [] HT02.out.drew (by simp))
   obtain ⟨z, x0, x1, x2, x3, y0, y1, y2, y3, y4, y5, y6⟩ := HX2.out
   have hlen := HLen.out w2 HT2.out
   by_cases h4 : n = 4
   ·subst h4
    have HD := lH (HQ2.out rfl (.inl rfl))
    clear hkn hn4 hm9
    go_wp2
    go_ret
    rw [HD.out]
    exact ⟨rfl, S, HP.out.tch HT2.out (by simp), Goes.of_tch (HT2.out.mono (by simp))⟩
   ·have b4 : ((n : Int) == 4) = false := by simp; omega
    have HInc := fun h => lH (HIns.out A n c l w2.drew HeR.out HLn.out (by omega) (HT2.out.drew.mono (by simp)) (HRow.out _ HT2.out.drew) (HQ3.out rfl h).2.1 (HQ3.out rfl h).2.2)
    by_cases hn0 : n = 0
    ·subst hn0
     by_cases h9 : N = 90
     ·subst h9
      have HD := lH (HQ2.out rfl (.inr ⟨rfl, rfl⟩))
      clear hkn hn4 hm9 HInc h4
      go_wp2
      go_ret
      rw [HD.out]
      exact ⟨rfl, S, HP.out.tch HT2.out (by simp), Goes.of_tch (HT2.out.mono (by simp))⟩
     ·have b9 : ((N : Int) == 90) = false := by simp; omega
      have hno : ¬ (0 = 4 ∨ (0 = 0 ∧ N = 90)) := by omega
      have HD2 := lH (HQ3.out rfl hno).1
      have HC9 := HInc hno
      clear hkn hn4 hm9 HInc h4 h9 hno
      go_wp2
      refine wp_region_held_drew (S := (fun W => W.cell? ⟨t, 0, none⟩ = some (Value.map (some m)) ∧ W.cell? ⟨xb, 0, none⟩ = some (Value.bool ps) ∧ W.cell? ⟨xb, 1, none⟩ = some (Value.int .u64 (ph : Int)) ∧ W.cell? ⟨xb, 2, none⟩ = some (Value.int .u64 (pl : Int)) ∧ W.cell? ⟨xb, 3, none⟩ = some (Value.int .i64 pb) ∧ W.cell? ⟨yb, 0, none⟩ = some (Value.int .i64 pr) ∧ W.cell? ⟨yb, 1, none⟩ = some (Value.int .i64 me) ∧ W.cell? ⟨yb, 2, none⟩ = some (Value.bool vs) ∧ W.cell? ⟨yb, 3, none⟩ = some (Value.int .u64 (vh : Int)) ∧ W.cell? ⟨yb, 4, none⟩ = some (Value.int .u64 (vl : Int)) ∧ W.cell? ⟨yb, 5, none⟩ = some (Value.int .i64 po) ∧ W.cell? ⟨yb, 6, none⟩ = some (Value.bool aw))) (by kernel_rfl) ?_ (fun hHeld => ?_)
      ·(first | exact HX2.out | exact HX2d.out | exact HX4.out | exact HX3.out)
      refine tkH 0 ?_
      refine tkH 1 ?_
      refine tkH 2 ?_
      refine tkH 3 ?_
      refine tkH 4 ?_
      refine tkH 5 ?_
      refine tkH 6 ?_
      refine wpAnyH_ready (rs := [7]) (by kernel_rfl) (by simp) ?_
      refine AllReadyH.cons (o := { dst := some 52, op := Go.Op.call { callee := Go.Callee.value (Go.Operand.func 83), args := #[Go.Operand.tmp 50, Go.Operand.tmp 51], argTypes := #[118, 49] }, type := 118, pos := "rib.go:34", after := #[{ on := 5, ground := Go.Ground.data }, { on := 6, ground := Go.Ground.data }], guard := none }) rfl (fun K hK => ?_) AllReadyH.nil
      go_simp
      (go_at_call 83; (with_reducible refine cZm HC9.out ?_); rintro e w3 ⟨A9, c9, rfl, hT3, hM3, hF3⟩; have HM3 := lH hM3; have HF3 := lH hF3; have HX3 := lH (HCells.out _ R ((HT02.out.drew.mono (by simp)).trans hT3) HRn.out); have HT30 := lH ((HT02.out.drew.mono (T := R) (by simp)).trans hT3); clear hT3 hM3 hF3)
      go_wp2_with fail
      refine hK.out _ _ ?_ (fun hHeld => ?_)
      ·(first | exact HX2.out | exact HX2d.out | exact HX4.out | exact HX3.out)
      clear hK K
      try simp only [Act.put, List.setIfInBounds_toArray, List.set_cons_zero, List.set_cons_succ]
      refine wpAnyH_ready (rs := [8]) (by kernel_rfl) (by simp) ?_
      refine AllReadyH.cons (o := { dst := none, op := Go.Op.mapUpdate 121 (Go.Operand.tmp 48) (Go.Operand.tmp 49) (Go.Operand.tmp 52), type := 0, pos := "rib.go:34", after := #[{ on := 3, ground := Go.Ground.data }, { on := 4, ground := Go.Ground.data }, { on := 7, ground := Go.Ground.data }, { on := 7, ground := Go.Ground.chain }, { on := 0, ground := Go.Ground.phase }, { on := 1, ground := Go.Ground.phase }, { on := 2, ground := Go.Ground.phase }, { on := 3, ground := Go.Ground.phase }, { on := 4, ground := Go.Ground.phase }, { on := 5, ground := Go.Ground.phase }, { on := 6, ground := Go.Ground.phase }, { on := 7, ground := Go.Ground.phase }], guard := none }) rfl (fun K hK => ?_) AllReadyH.nil
      rw [if_pos (by rfl)]
      refine wpo_mset keyPf (.tmp 48) (.tmp 49) (.tmp 52) 121 118 rfl Tryz.underlying121 rfl ((ps, ph, pl), pb) rfl (.slice A9 (0 + 1) c9) rfl HM3.out (fun w4 hM4 hT4 hs4 => ?_)
      have HF4 := lH (HF3.out w4 hM4 hT4)
      have HX4 := lH (HCells.out _ (m :: R) ((HT30.out.mono (fun s hs => List.mem_cons_of_mem _ hs)).trans (hT4.mono (by simp))) (by intro s hs; rcases List.mem_cons.1 hs with e | e; rw [e]; exact HMn.out; exact HRn.out s e))
      clear hM4 hT4 hs4
      refine hK.out _ _ ?_ (fun hHeld => ?_)
      ·(first | exact HX2.out | exact HX2d.out | exact HX4.out | exact HX3.out)
      clear hK K
      try simp only [Act.put]
      refine wpAnyH_done (by kernel_rfl) ?_ _
      go_wp2
      go_ret
      obtain ⟨S', r1, r2⟩ := HF4.out
      exact ⟨by rw [HD2.out]; rfl, S', r1, r2⟩
    ·have b0 : ((n : Int) == 0) = false := by simp; omega
     have hno : ¬ (n = 4 ∨ (n = 0 ∧ N = 90)) := by omega
     have HD2 := lH (HQ3.out rfl hno).1
     have HC9 := HInc hno
     clear hkn hn4 hm9 HInc h4 hn0 hno
     go_wp2
     refine wp_region_held_drew (S := (fun W => W.cell? ⟨t, 0, none⟩ = some (Value.map (some m)) ∧ W.cell? ⟨xb, 0, none⟩ = some (Value.bool ps) ∧ W.cell? ⟨xb, 1, none⟩ = some (Value.int .u64 (ph : Int)) ∧ W.cell? ⟨xb, 2, none⟩ = some (Value.int .u64 (pl : Int)) ∧ W.cell? ⟨xb, 3, none⟩ = some (Value.int .i64 pb) ∧ W.cell? ⟨yb, 0, none⟩ = some (Value.int .i64 pr) ∧ W.cell? ⟨yb, 1, none⟩ = some (Value.int .i64 me) ∧ W.cell? ⟨yb, 2, none⟩ = some (Value.bool vs) ∧ W.cell? ⟨yb, 3, none⟩ = some (Value.int .u64 (vh : Int)) ∧ W.cell? ⟨yb, 4, none⟩ = some (Value.int .u64 (vl : Int)) ∧ W.cell? ⟨yb, 5, none⟩ = some (Value.int .i64 po) ∧ W.cell? ⟨yb, 6, none⟩ = some (Value.bool aw))) (by kernel_rfl) ?_ (fun hHeld => ?_)
     ·(first | exact HX2.out | exact HX2d.out | exact HX4.out | exact HX3.out)
     refine tkH 0 ?_
     refine tkH 1 ?_
     refine tkH 2 ?_
     refine tkH 3 ?_
     refine tkH 4 ?_
     refine tkH 5 ?_
     refine tkH 6 ?_
     refine wpAnyH_ready (rs := [7]) (by kernel_rfl) (by simp) ?_
     refine AllReadyH.cons (o := { dst := some 52, op := Go.Op.call { callee := Go.Callee.value (Go.Operand.func 83), args := #[Go.Operand.tmp 50, Go.Operand.tmp 51], argTypes := #[118, 49] }, type := 118, pos := "rib.go:34", after := #[{ on := 5, ground := Go.Ground.data }, { on := 6, ground := Go.Ground.data }], guard := none }) rfl (fun K hK => ?_) AllReadyH.nil
     go_simp
     (go_at_call 83; (with_reducible refine cZm HC9.out ?_); rintro e w3 ⟨A9, c9, rfl, hT3, hM3, hF3⟩; have HM3 := lH hM3; have HF3 := lH hF3; have HX3 := lH (HCells.out _ R ((HT02.out.drew.mono (by simp)).trans hT3) HRn.out); have HT30 := lH ((HT02.out.drew.mono (T := R) (by simp)).trans hT3); clear hT3 hM3 hF3)
     go_wp2_with fail
     refine hK.out _ _ ?_ (fun hHeld => ?_)
     ·(first | exact HX2.out | exact HX2d.out | exact HX4.out | exact HX3.out)
     clear hK K
     try simp only [Act.put, List.setIfInBounds_toArray, List.set_cons_zero, List.set_cons_succ]
     refine wpAnyH_ready (rs := [8]) (by kernel_rfl) (by simp) ?_
     refine AllReadyH.cons (o := { dst := none, op := Go.Op.mapUpdate 121 (Go.Operand.tmp 48) (Go.Operand.tmp 49) (Go.Operand.tmp 52), type := 0, pos := "rib.go:34", after := #[{ on := 3, ground := Go.Ground.data }, { on := 4, ground := Go.Ground.data }, { on := 7, ground := Go.Ground.data }, { on := 7, ground := Go.Ground.chain }, { on := 0, ground := Go.Ground.phase }, { on := 1, ground := Go.Ground.phase }, { on := 2, ground := Go.Ground.phase }, { on := 3, ground := Go.Ground.phase }, { on := 4, ground := Go.Ground.phase }, { on := 5, ground := Go.Ground.phase }, { on := 6, ground := Go.Ground.phase }, { on := 7, ground := Go.Ground.phase }], guard := none }) rfl (fun K hK => ?_) AllReadyH.nil
     rw [if_pos (by rfl)]
     refine wpo_mset keyPf (.tmp 48) (.tmp 49) (.tmp 52) 121 118 rfl Tryz.underlying121 rfl ((ps, ph, pl), pb) rfl (.slice A9 (n + 1) c9) rfl HM3.out (fun w4 hM4 hT4 hs4 => ?_)
     have HF4 := lH (HF3.out w4 hM4 hT4)
     have HX4 := lH (HCells.out _ (m :: R) ((HT30.out.mono (fun s hs => List.mem_cons_of_mem _ hs)).trans (hT4.mono (by simp))) (by intro s hs; rcases List.mem_cons.1 hs with e | e; rw [e]; exact HMn.out; exact HRn.out s e))
     clear hM4 hT4 hs4
     refine hK.out _ _ ?_ (fun hHeld => ?_)
     ·(first | exact HX2.out | exact HX2d.out | exact HX4.out | exact HX3.out)
     clear hK K
     try simp only [Act.put]
     refine wpAnyH_done (by kernel_rfl) ?_ _
     go_wp2
     go_ret
     obtain ⟨S', r1, r2⟩ := HF4.out
     exact ⟨by rw [HD2.out]; rfl, S', r1, r2⟩
  ·obtain ⟨j, rfl⟩ : ∃ j, k = j + 1 := ⟨k - 1, by omega⟩
   have e0 : ((j + 1 : Nat) : Int) - 1 = (j : Int) := by omega
   rw [e0]
   have i0 : (0 : Int) ≤ (j : Int) := by omega
   have i1 : IntKind.i64.wrap ((j : Int) + 1) = (j : Int) + 1 := by rw [IntKind.wrap_i64]; omega
   have hjn : j < n := by omega
   obtain ⟨g, rfl⟩ := HSl.out (by omega)
   have HDc := lH (HDel.out g j w2 hjn HT2.out rfl)
   have HD2 := lH (HQ1.out j rfl).1
   have HeR1 : Hid (R = [g]) := lH (by rw [← HeR.out]; rfl)
   have HLe : Hid ((l.eraseIdx j).length = n - 1 ∧ n - 1 ≤ 1000) := lH (by rw [List.length_eraseIdx, if_pos (by rw [HLn.out]; exact hjn), HLn.out]; omega)
   have HInc := lH (fun W (hT : Tch w W R) hrow => HIns.out (some ⟨g, 0, none⟩) (n - 1) c (l.eraseIdx j) W (by rw [HeR1.out]; rfl) HLe.out.1 HLe.out.2 hT hrow (HQ1.out j rfl).2.1 (HQ1.out j rfl).2.2)
   clear e0 h0 hkn hn4 hm9
   go_wp2_with fail
   refine cZm HDc.out ?_
   rintro e w9 ⟨rfl, hro, hT⟩
   have HTd : Hid (Tch w w9 R) := lH (by rw [HeR1.out]; exact (HT2.out.mono (by simp)).trans hT)
   have HT02 : Hid (Tch W0 w9 R) := lH (by rw [HeR1.out]; exact (HT02.out.mono (by simp)).trans hT)
   have HC9 := lH (HInc.out w9.drew HTd.out.drew (by have := own_tch (T := []) hro (Tch.refl w9 []).drew (by simp); exact this))
   obtain ⟨n1, hn1⟩ : ∃ n1, n - 1 = n1 := ⟨_, rfl⟩
   rw [hn1] at HC9
   rw [hn1]
   have HX2 := lH (HCells.out w9 R HT02.out HRn.out)
   have HX2d := lH (HCells.out w9.drew R HT02.out.drew HRn.out)
   obtain ⟨z, x0, x1, x2, x3, y0, y1, y2, y3, y4, y5, y6⟩ := HX2.out
   clear hT hro hn1 hjn
   go_wp2
   refine wp_region_held_drew (S := (fun W => W.cell? ⟨t, 0, none⟩ = some (Value.map (some m)) ∧ W.cell? ⟨xb, 0, none⟩ = some (Value.bool ps) ∧ W.cell? ⟨xb, 1, none⟩ = some (Value.int .u64 (ph : Int)) ∧ W.cell? ⟨xb, 2, none⟩ = some (Value.int .u64 (pl : Int)) ∧ W.cell? ⟨xb, 3, none⟩ = some (Value.int .i64 pb) ∧ W.cell? ⟨yb, 0, none⟩ = some (Value.int .i64 pr) ∧ W.cell? ⟨yb, 1, none⟩ = some (Value.int .i64 me) ∧ W.cell? ⟨yb, 2, none⟩ = some (Value.bool vs) ∧ W.cell? ⟨yb, 3, none⟩ = some (Value.int .u64 (vh : Int)) ∧ W.cell? ⟨yb, 4, none⟩ = some (Value.int .u64 (vl : Int)) ∧ W.cell? ⟨yb, 5, none⟩ = some (Value.int .i64 po) ∧ W.cell? ⟨yb, 6, none⟩ = some (Value.bool aw))) (by kernel_rfl) ?_ (fun hHeld => ?_)
   ·(first | exact HX2.out | exact HX2d.out | exact HX4.out | exact HX3.out)
   refine tkH 0 ?_
   refine tkH 1 ?_
   refine tkH 2 ?_
   refine tkH 3 ?_
   refine tkH 4 ?_
   refine tkH 5 ?_
   refine tkH 6 ?_
   refine wpAnyH_ready (rs := [7]) (by kernel_rfl) (by simp) ?_
   refine AllReadyH.cons (o := { dst := some 52, op := Go.Op.call { callee := Go.Callee.value (Go.Operand.func 83), args := #[Go.Operand.tmp 50, Go.Operand.tmp 51], argTypes := #[118, 49] }, type := 118, pos := "rib.go:34", after := #[{ on := 5, ground := Go.Ground.data }, { on := 6, ground := Go.Ground.data }], guard := none }) rfl (fun K hK => ?_) AllReadyH.nil
   go_simp
   (go_at_call 83; (with_reducible refine cZm HC9.out ?_); rintro e w3 ⟨A9, c9, rfl, hT3, hM3, hF3⟩; have HM3 := lH hM3; have HF3 := lH hF3; have HX3 := lH (HCells.out _ R ((HT02.out.drew).trans hT3) HRn.out); have HT30 := lH ((HT02.out.drew).trans hT3); clear hT3 hM3 hF3)
   go_wp2_with fail
   refine hK.out _ _ ?_ (fun hHeld => ?_)
   ·(first | exact HX2.out | exact HX2d.out | exact HX4.out | exact HX3.out)
   clear hK K
   try simp only [Act.put, List.setIfInBounds_toArray, List.set_cons_zero, List.set_cons_succ]
   refine wpAnyH_ready (rs := [8]) (by kernel_rfl) (by simp) ?_
   refine AllReadyH.cons (o := { dst := none, op := Go.Op.mapUpdate 121 (Go.Operand.tmp 48) (Go.Operand.tmp 49) (Go.Operand.tmp 52), type := 0, pos := "rib.go:34", after := #[{ on := 3, ground := Go.Ground.data }, { on := 4, ground := Go.Ground.data }, { on := 7, ground := Go.Ground.data }, { on := 7, ground := Go.Ground.chain }, { on := 0, ground := Go.Ground.phase }, { on := 1, ground := Go.Ground.phase }, { on := 2, ground := Go.Ground.phase }, { on := 3, ground := Go.Ground.phase }, { on := 4, ground := Go.Ground.phase }, { on := 5, ground := Go.Ground.phase }, { on := 6, ground := Go.Ground.phase }, { on := 7, ground := Go.Ground.phase }], guard := none }) rfl (fun K hK => ?_) AllReadyH.nil
   rw [if_pos (by rfl)]
   refine wpo_mset keyPf (.tmp 48) (.tmp 49) (.tmp 52) 121 118 rfl Tryz.underlying121 rfl ((ps, ph, pl), pb) rfl (.slice A9 (n1 + 1) c9) rfl HM3.out (fun w4 hM4 hT4 hs4 => ?_)
   have HF4 := lH (HF3.out w4 hM4 hT4)
   have HX4 := lH (HCells.out _ (m :: R) ((HT30.out.mono (fun s hs => List.mem_cons_of_mem _ hs)).trans (hT4.mono (by simp))) (by intro s hs; rcases List.mem_cons.1 hs with e | e; rw [e]; exact HMn.out; exact HRn.out s e))
   clear hM4 hT4 hs4
   refine hK.out _ _ ?_ (fun hHeld => ?_)
   ·(first | exact HX2.out | exact HX2d.out | exact HX4.out | exact HX3.out)
   clear hK K
   try simp only [Act.put]
   refine wpAnyH_done (by kernel_rfl) ?_ _
   go_wp2
   go_ret
   obtain ⟨S', r1, r2⟩ := HF4.out
   exact ⟨by rw [HD2.out]; rfl, S', r1, r2⟩
end Go.Proofs.YtgfkmgbcajdcdaaGreatDoor

namespace Go.Proofs.YtgfkmgbcajdcdaaGreatDoor
open Go.RowKit

theorem sta_set {w w' : World} {g n c i : Nat} {X : List PaI} {y : PaI} {cur : Array Value} (h : w.ownsRow 0 49 7 (.slice (some ⟨g, 0, none⟩) n c) n (X.flatMap paC)) (hl : X.length = n) (hi : i < n)
  (hB : Blk w g 49 cur) (hs : Sta w w' g (i * 7) 49 cur (paC y).toArray) : w'.ownsRow 0 49 7 (.slice (some ⟨g, 0, none⟩) n c) n ((X.set i y).flatMap paC) := by
 obtain ⟨cu, hb, h1, h2, h3, h4⟩ := own_openN h
 obtain rfl : cu = cur := by have := hb.symm.trans hB; injection this with e; injection e
 obtain ⟨c2, b2, s2, o2, k2⟩ := hs.blk
 have h7 : (paC y).toArray.size = 7 := by rw [List.size_toArray]; exact pa_seven y
 rw [h7] at o2 k2
 refine ⟨by rw [flatk_len pa_seven, List.length_set, hl], .inr ⟨g, c, c2, rfl, Nat.zero_le _, b2, h1, h2, by rw [s2]; exact h3, ?_⟩⟩
 refine List.ext_getElem? fun p => ?_
 by_cases hp : p < n * 7
 ·rw [List.getElem?_take_of_lt hp, Array.getElem?_toList]
  have hq : p / 7 < n := by omega
  have hr : p % 7 < 7 := Nat.mod_lt _ (by decide)
  have hpe : p / 7 * 7 + p % 7 = p := by omega
  by_cases hqi : p / 7 = i
  ·have hx : (X.set i y)[p / 7]? = some y := by rw [hqi, List.getElem?_set_self (by omega)]
   have e := flatk_at pa_seven hx hr
   rw [hpe] at e
   rw [e]
   have := k2 (p % 7) hr
   rw [show i * 7 + p % 7 = p by omega] at this
   rw [this, List.getElem?_toArray]
  ·rw [o2 p (by omega)]
   have e1 : cu[p]? = (X.flatMap paC)[p]? := by rw [← h4, List.getElem?_take_of_lt hp, Array.getElem?_toList]
   obtain ⟨z, hz⟩ : ∃ z, X[p / 7]? = some z := ⟨_, List.getElem?_eq_getElem (by omega)⟩
   have hx : (X.set i y)[p / 7]? = some z := by rw [List.getElem?_set_ne (by omega)]; exact hz
   have e2 := flatk_at pa_seven hz hr
   have e3 := flatk_at pa_seven hx hr
   rw [hpe] at e2 e3
   rw [e1, e2, e3]
 ·rw [List.getElem?_eq_none (by rw [List.length_take]; omega), List.getElem?_eq_none (by rw [flatk_len pa_seven, List.length_set, hl]; omega)]
theorem take_filter_no {l : List PaI} {K : PaI → Bool} {j : Nat} {y : PaI} (h : l[j]? = some y) (hk : K y = false) : (l.take (j + 1)).filter K = (l.take j).filter K := by
 rw [List.take_add_one, h, List.filter_append]; simp [hk]
theorem take_filter_yes {l : List PaI} {K : PaI → Bool} {j : Nat} {y : PaI} (h : l[j]? = some y) (hk : K y = true) : (l.take (j + 1)).filter K = (l.take j).filter K ++ [y] := by
 rw [List.take_add_one, h, List.filter_append]; simp [hk]
theorem delfn_any (pr0 : Int) (xb : Nat) (A : Option Addr) (n c : Nat) (l : List PaI) (hl : l.length = n) (hn : n ≤ 1000) (w : World) (h : w.ownsRow 0 49 7 (.slice A n c) n (l.flatMap paC)) (hB : w.cell? ⟨xb, 0, none⟩ = some (.int .i64 pr0)) (hx : xb ∉ obI (.slice A n c)) :
  Calls Tryz.prog 167 #[.slice A n c, .func (.func 168) #[] #[.pointer (some ⟨xb, 0, none⟩)]] w fun e w' =>
   e = .returned (.slice A (l.filter fun y => !decide (y.1 = pr0)).length c) ∧ w'.ownsRow 0 49 7 (.slice A (l.filter fun y => !decide (y.1 = pr0)).length c) (l.filter fun y => !decide (y.1 = pr0)).length ((l.filter fun y => !decide (y.1 = pr0)).flatMap paC) ∧ Tch w w' (obI (.slice A n c)) := by
 have HI := lH (idx_pro pr0 xb A n c l hl hn w h hB)
 have hbl := World.block_lt_of_cell? w _ hB
 have HF := lH (fun (y : PaI) W (hT : Tch w W (obI (.slice A n c))) => flush1_any pr0 xb y W ((hT.cell (p := ⟨xb, 0, none⟩) hbl hx).trans hB))
 obtain ⟨K, hK⟩ : ∃ K : PaI → Bool, (fun y : PaI => !decide (y.1 = pr0)) = K := ⟨_, rfl⟩
 have HKe : Hid (∀ y : PaI, decide (y.1 = pr0) = !(K y)) := lH (fun y => by rw [← hK]; simp)
 rw [hK]
 obtain ⟨f, hf⟩ : ∃ f, fndI (fun y : PaI => decide (y.1 = pr0)) l = f := ⟨_, rfl⟩
 rw [hf] at HI
 have HL := lH hl
 have HO := lH h
 have HN := lH hn
 clear hK hB hbl hx
 cases f with
 | zero =>
  have HE : Hid (l.filter K = l) := lH (List.filter_eq_self.2 fun y hy => by
   obtain ⟨j, hj⟩ := List.getElem?_of_mem hy
   have h1 := fndI_zero.1 hf j y hj
   have h2 := HKe.out y
   simp only [h1] at h2
   cases hk : K y with
   | true => rfl
   | false => rw [hk] at h2; simp at h2)
  rw [HE.out, HL.out]
  clear hf h hl hn
  go_enter Tryz.func167, Tryz.ntmps167
  go_wp2_with fail
  refine cZm HI.out ?_
  rintro e w1 ⟨rfl, hT⟩
  have HT := lH hT
  clear hT
  go_wp2
  go_ret
  exact ⟨rfl, own_tch HO.out HT.out (by simp), HT.out.mono (by simp)⟩
 | succ k0 =>
  obtain ⟨⟨y0, hy0, hp0⟩, hbe⟩ := fndI_succ.1 hf
  have hk0 : k0 < n := by rw [← hl]; exact (List.getElem?_eq_some_iff.1 hy0).1
  obtain ⟨g, rfl⟩ := slice_some h (by omega)
  have hnc : n ≤ c := by obtain ⟨cur, -, h1, -⟩ := own_openN h; exact h1
  have ht0 : (l.take (k0 + 1)).filter K = l.take k0 := by
   rw [take_filter_no hy0 (by have := HKe.out y0; simp only [hp0] at this; cases hk : K y0 with
    | true => rw [hk] at this; simp at this
    | false => rfl)]
   refine List.filter_eq_self.2 fun y hy => ?_
   obtain ⟨j, hj⟩ := List.getElem?_of_mem hy
   have hjl : j < k0 := by have := (List.getElem?_eq_some_iff.1 hj).1; rw [List.length_take] at this; omega
   rw [List.getElem?_take_of_lt hjl] at hj
   have h1 := hbe j y hjl hj
   have h2 := HKe.out y
   simp only [h1] at h2
   cases hk : K y with
   | true => rfl
   | false => rw [hk] at h2; simp at h2
  have HT0 := lH ht0
  have hob : obI (.slice (some ⟨g, 0, none⟩) n c) = [g] := rfl
  rw [hob] at HF ⊢
  have e0 : (((k0 + 1 : Nat) : Int) - 1 == -1) = false := by simp
  have e1 : ((k0 + 1 : Nat) : Int) - 1 = (k0 : Int) := by omega
  have hw0 : IntKind.i64.wrap ((k0 : Int) + 1) = (k0 : Int) + 1 := by rw [IntKind.wrap_i64]; omega
  rw [e1] at HI
  have e2 : ((k0 : Int) == -1) = false := by simp
  have HK0 : Hid (k0 < n) := lH hk0
  clear hf h hl hy0 hp0 hbe ht0 hob e0 e1
  go_enter Tryz.func167, Tryz.ntmps167
  go_wp2_with fail
  refine cZm HI.out ?_
  rintro e w1 ⟨rfl, hT⟩
  have HT1 := lH hT
  have HO1 := lH (own_tch HO.out hT (by simp))
  clear hT
  go_wp2
  go_loopw [5, 6] (fun iv jv wr => ∃ (i j : Nat) (X : List PaI), iv = .int .i64 (i : Int) ∧ jv = .int .i64 (j : Int) ∧ i < j ∧ j ≤ n ∧ Hid (X.length = n) ∧ Hid (((l.take j).filter K).length = i) ∧ Hid (X.take i = (l.take j).filter K) ∧ Hid (X.drop j = l.drop j) ∧ Hid (wr.ownsRow 0 49 7 (.slice (some ⟨g, 0, none⟩) n c) n (X.flatMap paC)) ∧ Hid (Tch w wr [g])) (fun _ jv _ => n - (intOf jv).toNat)
  case atStart => exact ⟨k0, k0 + 1, l, rfl, by go_num, by omega, by omega, HL, lH (by rw [HT0.out, List.length_take, HL.out]; omega), lH HT0.out.symm, lH rfl, HO1, lH (HT1.out.mono (by simp))⟩
  case round =>
   obtain ⟨i, j, X, rfl, rfl, hij, hjn, hXl, hFl, hXt, hXd, hO, hT⟩ := hrel
   have j1 : IntKind.i64.wrap ((j : Int) + 1) = (j : Int) + 1 := by rw [IntKind.wrap_i64]; omega
   have i1 : IntKind.i64.wrap ((i : Int) + 1) = (i : Int) + 1 := by rw [IntKind.wrap_i64]; omega
   clear hw0 e2 hk0
   by_cases hjl : j < n
   ·have jI : (j : Int) < (n : Int) := by omega
    have j0 : (0 : Int) ≤ (j : Int) := by omega
    have i0 : (0 : Int) ≤ (i : Int) := by omega
    have iI : (i : Int) < (n : Int) := by omega
    obtain ⟨y, hy⟩ : ∃ y, l[j]? = some y := ⟨_, List.getElem?_eq_getElem (by rw [HL.out]; exact hjl)⟩
    have hyX : X[j]? = some y := by
     have e1 : (X.drop j)[0]? = (l.drop j)[0]? := by rw [hXd.out]
     rw [List.getElem?_drop, List.getElem?_drop, Nat.add_zero] at e1
     rw [e1]; exact hy
    obtain ⟨y0, y1, y2, y3, y4, y5, y6⟩ := pa_cells hO.out hyX
    have Hy := lH hy
    have HyX := lH hyX
    obtain ⟨b, hb⟩ : ∃ b, K y = b := ⟨_, rfl⟩
    have HC : Hid (∀ W, Tch w W [g] → Calls Tryz.prog 168 _ W fun e w' => e = .returned (.bool (!b)) ∧ Tch W w' []) := lH (fun W hW => by rw [← hb, ← HKe.out y]; exact HF.out y W hW)
    have HBb := lH hb
    obtain ⟨pr, me, ⟨vs, vh, vl⟩, po, aw⟩ := y
    obtain ⟨vb, hvb⟩ : ∃ vb, wr.heap.size = vb := ⟨_, rfl⟩
    obtain ⟨W2, hW2⟩ : ∃ W, wr.alloc (.cells #[.int .i64 pr, .int .i64 me, .bool vs, .int .u64 (vh : Int), .int .u64 (vl : Int), .int .i64 po, .bool aw] 49) = W := ⟨_, rfl⟩
    have HV2 : Hid (Blk W2 vb 49 #[.int .i64 pr, .int .i64 me, .bool vs, .int .u64 (vh : Int), .int .u64 (vl : Int), .int .i64 po, .bool aw]) := lH (hW2 ▸ hvb ▸ Blk.new wr _ _)
    have hT2 : Tch wr W2 [] := hW2 ▸ (Tch.refl wr []).alloc _
    have HT2 := lH (hT.out.trans_fre hT2 (by simp))
    have HO2 := lH (own_tch hO.out hT2 (by simp))
    have HWs := lH (And.intro hW2 hvb)
    clear hy hyX hb hT2 hW2 hvb
    go_wp2_with fail
    rw [HWs.out.1, HWs.out.2]
    refine cZm (HC.out W2 HT2.out) ?_
    rintro e w5 ⟨rfl, hT5⟩
    have HV5 := lH (hT5.blk HV2.out (by simp))
    have HO5 := lH (own_tch HO2.out hT5 (by simp))
    have HT5 := lH (HT2.out.trans_fre hT5 (by simp))
    clear hT5 y0 y1 y2 y3 y4 y5 y6
    obtain ⟨y0, y1, y2, y3, y4, y5, y6⟩ := HV5.out.p7
    cases b with
    | false =>
     have HFn := lH (take_filter_no Hy.out HBb.out)
     go_wp2
     go_roundw
     case rel => exact ⟨i, j + 1, X, rfl, by go_num, by omega, hjl, hXl, lH (by rw [HFn.out]; exact hFl.out), lH (by rw [HFn.out]; exact hXt.out), lH (by rw [← List.drop_drop, hXd.out, List.drop_drop]), HO5, HT5⟩
     case measure => simp [intOf]; omega
    | true =>
     have HFn := lH (take_filter_yes Hy.out HBb.out)
     obtain ⟨cur, hcur, hb1, hb2, hb3, hb4⟩ := own_openN HO5.out
     have HCu := lH hcur
     have HFit : Hid (i * 7 + 7 ≤ cur.size) := lH (by rw [hb3]; omega)
     clear hcur hb1 hb2 hb3 hb4
     go_wp2_with (refine wpList_sta rfl 49 (.tmp 33) (.tmp 32) rfl g (i * 7) #[.int .i64 pr, .int .i64 me, .bool vs, .int .u64 (vh : Int), .int .u64 (vl : Int), .int .i64 po, .bool aw] rfl rfl 49 cur HCu.out 7 paSz rfl HFit.out (by simp [Value.oneCell']) ?_; intro w6 hs6; have HS6 := lH hs6; clear hs6)
     have HO6 := lH (sta_set (y := (pr, me, (vs, vh, vl), po, aw)) HO5.out hXl.out (by omega) HCu.out HS6.out)
     go_roundw
     case rel => exact ⟨i + 1, j + 1, X.set i (pr, me, (vs, vh, vl), po, aw), by go_num, by go_num, by omega, hjl, lH (by rw [List.length_set]; exact hXl.out), lH (by rw [HFn.out, List.length_append, hFl.out]; rfl), lH (by
      rw [HFn.out, ← hXt.out, List.take_add_one, List.getElem?_set_self (by rw [hXl.out]; omega), List.take_set_of_le (Nat.le_refl _)]; rfl), lH (by rw [List.drop_set_of_lt (by omega), ← List.drop_drop, hXd.out, List.drop_drop]), HO6, lH (HT5.out.trans_fre HS6.out.tch (by simp))⟩
     case measure => simp [intOf]; omega
   ·obtain rfl : j = n := by omega
    have jI : ¬ (j : Int) < (j : Int) := by omega
    have hFe : (l.take j).filter K = l.filter K := by rw [List.take_of_length_le (by rw [HL.out]; exact Nat.le_refl _)]
    rw [hFe] at hFl hXt
    obtain ⟨cur, hcur, hb1, hb2, hb3, hb4⟩ := own_openN hO.out
    obtain ⟨zs, hzl, -, hclr0⟩ := run_clear_k wr 118 49 0 _ Tryz.underlying118 zeroPa paZ rfl (by simp [Value.oneCell']) g (i * 7) (j - i) (c - i) 49 cur hcur (by simp; rw [hb3]; omega)
    have hclr : ∀ ty, (Builtin.clear_ #[118] ty #[.slice (some ⟨g, i * 7, none⟩) (j - i) (c - i)]).run Tryz.prog wr = .ok (.tuple #[]) (wr.setRow g (cur.toList.take (i * 7) ++ zs ++ cur.toList.drop (i * 7 + zs.length)).toArray) := fun ty => hclr0
    simp at hzl
    obtain ⟨cur2, hcur2⟩ : ∃ cur2, (cur.toList.take (i * 7) ++ zs ++ cur.toList.drop (i * 7 + zs.length)).toArray = cur2 := ⟨_, rfl⟩
    rw [hcur2] at hclr
    have hcl : cur.toList.length = c * 7 := by rw [Array.length_toList]; exact hb3
    have HFin : Hid ((wr.setRow g cur2).ownsRow 0 49 7 (.slice (some ⟨g, 0, none⟩) i c) i ((l.filter K).flatMap paC) ∧ Tch w (wr.setRow g cur2) [g]) := lH (by
     refine ⟨⟨by rw [flatk_len pa_seven, hFl.out], .inr ⟨g, c, _, rfl, Nat.zero_le _, setRow_blk hcur, by omega, hb2, ?_, ?_⟩⟩, hT.out.trans_fre (setRow_tch wr g _) (by simp)⟩
     ·rw [← hcur2]
      simp only [List.size_toArray, List.length_append, List.length_take, List.length_drop, hcl, hzl]
      omega
     ·rw [← hcur2, List.toList_toArray, List.append_assoc, List.take_left' (by rw [List.length_take, hcl]; omega), take_cut hb4 (by omega), ← hXt.out]
      rw [← List.take_append_drop i X, List.flatMap_append, List.take_left' (by rw [flatk_len pa_seven, List.length_take, hXl.out]; omega)]
      rw [List.take_append_drop])
    have hic : i ≤ c := by omega
    have hci : ¬ c = i := by omega
    have hib : (0 : Int) ≤ (i : Int) ∧ (i : Int) ≤ (j : Int) := by omega
    have hib2 : (i : Int) ≤ (c : Int) := by omega
    have HFl := lH hFl.out
    clear hclr0 hcur2 hjl hb1 hb2 hb3 hb4 hcl hzl hcur hFe
    go_wp2
    go_ret
    exact ⟨by rw [HFl.out]; rfl, by rw [HFl.out]; exact HFin.out.1, HFin.out.2⟩
end Go.Proofs.YtgfkmgbcajdcdaaGreatDoor
