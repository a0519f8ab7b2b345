/-
  Several texts in one: RpJ.
-/
import Derived.Test.YtgfkmgbcajdcdaaGreatDoorKak
namespace Go.Proofs.YtgfkmgbcajdcdaaGreatDoor
open Go.RowKit
set_option linter.unusedVariables false

theorem way_mem {L : List TdI} {p : PfI} {x : PaI} (h : wayI L p x = 0) : (p, x) ∉ L := fun hm => by
  have := wayI_zero.1 h _ hm
  simp [isW, sameW_refl] at this
/-- What Put leaves, by the prefix's own row. -/
theorem put_row {L : List TdI} (h : InvB L) {p : PfI} {x : PaI} (h2 : InvB (putR L p x).1) (hr : rightI p x = true) {l : List PaI} (hl : pathsI L p = l) :
    (∀ j, fndI (fun y => sameW x y) l = j + 1 → (putR L p x).2 = 0 ∧ pathsI (putR L p x).1 p = insP (l.eraseIdx j) x ∧ ∀ q, ¬ q = p → pathsI (putR L p x).1 q = pathsI L q) ∧
    (fndI (fun y => sameW x y) l = 0 → (l.length = 4 ∨ (l.length = 0 ∧ (prefsI L).length = 90)) → putR L p x = (L, 141)) ∧
    (fndI (fun y => sameW x y) l = 0 → ¬ (l.length = 4 ∨ (l.length = 0 ∧ (prefsI L).length = 90)) → (putR L p x).2 = 0 ∧ pathsI (putR L p x).1 p = insP l x ∧ ∀ q, ¬ q = p → pathsI (putR L p x).1 q = pathsI L q) := by
  have hW := way_row L p x
  have h4 := h.four p
  have h9 := h.ninety
  rw [hl] at hW h4
  have er : ¬ rightI p x = false := by rw [hr]; simp
  refine ⟨fun j hj => ?_, fun h0 hf => ?_, fun h0 hf => ?_⟩
  · have hw0 : ¬ wayI L p x = 0 := fun e => by have := hW.1.1 e; omega
    obtain ⟨w1, w2⟩ := hW.2 hw0
    rw [hj, Nat.add_sub_cancel] at w1
    have e : putR L p x = (insI (L.eraseIdx (wayI L p x - 1)) (p, x), 0) := by unfold putR; rw [if_neg er, if_pos hw0]
    rw [e] at h2 ⊢
    have hi1 := h.inv.sub (List.eraseIdx_sublist L (wayI L p x - 1))
    obtain ⟨r1, r2⟩ := ins_row hi1 h2.inv (way_mem (erase_way h.inv.way hw0))
    exact ⟨rfl, by rw [r1, w1], fun q hq => (r2 q hq).trans (w2 q hq)⟩
  · unfold putR
    rw [if_neg er, if_neg (by rw [hW.1.2 h0]; simp), if_pos (by rw [hl]; omega)]
  · have hw0 := hW.1.2 h0
    have e : putR L p x = (insI L (p, x), 0) := by unfold putR; rw [if_neg er, if_neg (by rw [hw0]; simp), if_neg (by rw [hl]; omega)]
    rw [e] at h2 ⊢
    obtain ⟨r1, r2⟩ := ins_row h.inv h2.inv (way_mem hw0)
    exact ⟨rfl, by rw [r1, hl], r2⟩
theorem put_ok {L : List TdI} {p : PfI} {x : PaI} (h : ∀ u ∈ L, PfOk u.1 ∧ PaOk u.2) (hp : PfOk p) (hx : PaOk x) : ∀ u ∈ (putR L p x).1, PfOk u.1 ∧ PaOk u.2 := by
  intro u hu
  unfold putR at hu
  split at hu
  · exact h u hu
  · split at hu
    · rcases (insI_mem _ _ _).1 hu with e | e
      · rw [e]; exact ⟨hp, hx⟩
      · exact h u ((List.eraseIdx_sublist _ _).subset e)
    · split at hu
      · exact h u hu
      · rcases (insI_mem _ _ _).1 hu with e | e
        · rw [e]; exact ⟨hp, hx⟩
        · exact h u e
/-- What insert leaves, and what a map set behind it leaves. -/
def InsQ (w W : World) (t m : Nat) (M : List (PfI × Value)) (S R : List Nat) (L' : List TdI) (p : PfI) (n : Nat) (e : Ending) (w' : World) : Prop :=
  ∃ A' c', e = .returned (.slice A' (n + 1) c') ∧ Tch W w' R ∧ MpIs (fun p => pfR p) w' m M ∧ ∀ w4, MpIs (fun p => pfR p) w4 m (mpPut M p (.slice A' (n + 1) c')) → Tch w' w4 [m] → ∃ S', RbP w4 t S' L' ∧ Goes w w4 S S'
set_option maxRecDepth 100000 in
set_option maxHeartbeats 4000000 in
theorem putP (t : Nat) (S : List Nat) (L : List TdI) (p : PfI) (x : PaI) (hp : PfOk p) (hx : PaOk x) (w : World) (hE : EnvR w) (hg : 0 ∉ S) (h : RbP w t S L) :
    Calls Tryz.prog 40 #[.pointer (some ⟨t, 0, none⟩), pfR p, paR x] w fun e w' => e = .returned (.int .i64 (putR L p x).2) ∧ ∃ S', RbP w' t S' (putR L p x).1 ∧ Goes w w' S S' := by
  have HP := Lib.hid h
  obtain ⟨m, M, hr⟩ := h
  obtain ⟨A, c, he, ho, hlk⟩ := hr.look p
  have hI := hr.inv.put p x hp.1 hx.2.2.1
  have hok := put_ok (p := p) (x := x) hr.ok hp hx
  have hPR := fun hright => put_row hr.inv hI hright (l := pathsI L p) rfl
  have hBad : rightI p x = false → putR L p x = (L, 140) := fun e => by unfold putR; rw [if_pos e]
  obtain ⟨D, hD⟩ : ∃ D, putR L p x = D := ⟨_, rfl⟩
  have hn4 := hr.inv.four p
  have hml := hr.len
  have hm9 := hr.inv.ninety
  obtain ⟨l, hl⟩ : ∃ l, pathsI L p = l := ⟨_, rfl⟩
  obtain ⟨n, hn⟩ : ∃ n, l.length = n := ⟨_, rfl⟩
  obtain ⟨k, hk⟩ : ∃ k, fndI (fun y => sameW x y) l = k := ⟨_, rfl⟩
  obtain ⟨N, hN⟩ : ∃ N, M.length = N := ⟨_, rfl⟩
  obtain ⟨R, hR⟩ : ∃ R, obI (mpV M p nilS) = R := ⟨_, rfl⟩
  obtain ⟨b, hb⟩ : ∃ b, rightI p x = b := ⟨_, rfl⟩
  have hkn : k ≤ n := by rw [← hk, ← hn]; exact fndI_le _ _
  rw [hl, hn] at he ho hlk hn4
  rw [hl, hk, hn, ← hml, hN, hD, hb] at hPR
  rw [← hml, hN] at hm9
  rw [hD, hb] at hBad
  rw [hD] at hI hok ⊢
  have HFind := Lib.hid (fun W (hT : Tch w W []) => find_any x A n c l hn (by omega) W (own_tch ho hT (by simp)))
  rw [hk] at HFind
  have HVal := Lib.hid (fun W => valid_p p x hp.1 hx.2.2.1 W)
  rw [hb] at HVal
  have HPR := Lib.hid hPR
  have HBad := Lib.hid hBad
  have HeR : Hid (obI (.slice A n c) = R) := Lib.hid (by rw [← hR, he])
  have HIns : Hid (∀ (B : Option Addr) (n' c' : Nat) (l' : List PaI) (W : World), obI (.slice B n' c') = R → l'.length = n' → n' ≤ 1000 → Tch w W R → W.ownsRow 0 49 7 (.slice B n' c') n' (l'.flatMap paC) → pathsI D.1 p = insP l' x → (∀ q, ¬ q = p → pathsI D.1 q = pathsI L q) →
      Calls Tryz.prog 83 #[.slice B n' c', paR x] W (InsQ w W t m M S R D.1 p n')) := Lib.hid (fun B n' c' l' W hB hl' hn' hT hrow hins hq => by
    have hgR : 0 ∉ R := fun hm => hg (hr.sub_ p _ (by rw [hR]; exact hm)).1
    refine (insert_any B n' c' l' hl' hn' x W (hE.tch hT hgR) hrow).mono ?_
    rintro e w' ⟨A', c9, rfl, h1, h2, h3⟩
    rw [hB] at h2 h3
    have hlen : (insP l' x).length = n' + 1 := by
      have := h1.1
      rw [flatk_len pa_seven] at this
      omega
    have hT' := hT.trans h2
    refine ⟨A', c9, rfl, h2, hr.mp.tch hT' (fun hm => (hr.sub_ p m (by rw [hR]; exact hm)).2.2 rfl), fun w4 hM4 hT4 => ?_⟩
    refine hr.set_ (by rw [hR]; exact hT') ⟨A', c9, by rw [hins, hlen], by rw [hins, hlen]; exact h1⟩ (by rw [hins, hlen]; omega) (fun s hs => ?_) hq hI hok hM4 hT4
    rw [hR]
    rcases h3 s hs with e | e
    · exact .inl e
    · exact .inr (Nat.le_trans hT.size e))
  have HDel := Lib.hid (fun g j W (hj : j < n) (hT : Tch w W []) (hA : A = some ⟨g, 0, none⟩) => delete_pa g n c j l hn (by omega) hj W (by have := own_tch ho hT (by simp); rw [hA] at this; exact this))
  have HSl : Hid (0 < n → ∃ g, A = some ⟨g, 0, none⟩) := Lib.hid (fun h0 => slice_some ho h0)
  have HRow := Lib.hid (fun W (hT : Tch w W []) => own_tch ho hT (by simp))
  have HLn := Lib.hid hn
  have hRn0 : ∀ s ∈ R, s < w.heap.size ∧ s ≠ t := fun s hs => by
    have := hr.sub_ p s (by rw [hR]; exact hs)
    exact ⟨hr.lt s this.1, this.2.1⟩
  have hMn0 : m < w.heap.size ∧ m ≠ t := ⟨hr.mp.lt, fun e => by have := hr.nod; rw [hr.eS, e] at this; simp at this⟩
  have hlen0 : ∀ W, Tch w W [] → ∀ ty, (Builtin.len_ #[121] ty #[.map (some m)]).run Tryz.prog W = .ok (goInt N) W := fun W hT ty => by
    rw [(hr.mp.tch hT (by simp)).len Tryz.underlying121 ty, hN]
  have HLen := Lib.hid hlen0
  obtain ⟨⟨ps, ph, pl⟩, pb⟩ := p
  obtain ⟨pr, me, ⟨vs, vh, vl⟩, po, aw⟩ := x
  obtain ⟨W0, hW0⟩ : ∃ W, (w.alloc (.cells #[.bool ps, .int .u64 (ph : Int), .int .u64 (pl : Int), .int .i64 pb] 30)).alloc (.cells #[.int .i64 pr, .int .i64 me, .bool vs, .int .u64 (vh : Int), .int .u64 (vl : Int), .int .i64 po, .bool aw] 49) = W := ⟨_, rfl⟩
  obtain ⟨xb, hxb⟩ : ∃ xb, w.heap.size = xb := ⟨_, rfl⟩
  obtain ⟨yb, hyb⟩ : ∃ yb, xb + 1 = yb := ⟨_, rfl⟩
  have hX : Blk W0 xb 30 #[.bool ps, .int .u64 (ph : Int), .int .u64 (pl : Int), .int .i64 pb] := hW0 ▸ hxb ▸ (Blk.new w _ _).alloc _
  have hY : Blk W0 yb 49 #[.int .i64 pr, .int .i64 me, .bool vs, .int .u64 (vh : Int), .int .u64 (vl : Int), .int .i64 po, .bool aw] := by
    have := Blk.new (w.alloc (.cells #[.bool ps, .int .u64 (ph : Int), .int .u64 (pl : Int), .int .i64 pb] 30)) 49 #[.int .i64 pr, .int .i64 me, .bool vs, .int .u64 (vh : Int), .int .u64 (vl : Int), .int .i64 po, .bool aw]
    rw [World.size_alloc, hxb, hyb, hW0] at this
    exact this
  have hT0 : Tch w W0 [] := hW0 ▸ ((Tch.refl w []).alloc _).alloc _
  have HT0 := Lib.hid hT0
  have hbt := hT0.blk hr.bt (by simp)
  rw [hxb] at hRn0 hMn0
  have HRn := Lib.hid hRn0
  have HMn := Lib.hid hMn0
  have HCells : Hid (∀ W T, Tch W0 W T → (∀ s ∈ T, s < xb ∧ s ≠ t) → W.cell? ⟨t, 0, none⟩ = some (Value.map (some m)) ∧ W.cell? ⟨xb, 0, none⟩ = some (Value.bool ps) ∧ W.cell? ⟨xb, 1, none⟩ = some (Value.int .u64 (ph : Int)) ∧ W.cell? ⟨xb, 2, none⟩ = some (Value.int .u64 (pl : Int)) ∧ W.cell? ⟨xb, 3, none⟩ = some (Value.int .i64 pb) ∧ W.cell? ⟨yb, 0, none⟩ = some (Value.int .i64 pr) ∧ W.cell? ⟨yb, 1, none⟩ = some (Value.int .i64 me) ∧ W.cell? ⟨yb, 2, none⟩ = some (Value.bool vs) ∧ W.cell? ⟨yb, 3, none⟩ = some (Value.int .u64 (vh : Int)) ∧ W.cell? ⟨yb, 4, none⟩ = some (Value.int .u64 (vl : Int)) ∧ W.cell? ⟨yb, 5, none⟩ = some (Value.int .i64 po) ∧ W.cell? ⟨yb, 6, none⟩ = some (Value.bool aw)) := Lib.hid (fun W T hT hs =>
    ⟨((hT.blk hbt (fun hm => (hs _ hm).2 rfl)).cell 0).trans rfl, (hT.blk hX (fun hm => by have := hs _ hm; omega)).c4.1, (hT.blk hX (fun hm => by have := hs _ hm; omega)).c4.2.1, (hT.blk hX (fun hm => by have := hs _ hm; omega)).c4.2.2.1, (hT.blk hX (fun hm => by have := hs _ hm; omega)).c4.2.2.2, (hT.blk hY (fun hm => by have := hs _ hm; omega)).p7⟩)
  have HLook : Hid (∀ W, Tch w W [] → ∀ q, (Instr.lookup 121 (.map (some m)) (.agg #[.bool ps, .int .u64 (ph : Int), .int .u64 (pl : Int), .int .i64 pb]) false).run Tryz.prog (W.drewN q) = .ok (.slice A n c) (W.drewN q)) := Lib.hid (fun W hT q => hlk _ (hT.drewN q))
  obtain ⟨z, x0, x1, x2, x3, y0, y1, y2, y3, y4, y5, y6⟩ := HCells.out W0 [] (Tch.refl _ _) (by simp)
  clear hX hY hT0 hbt hRn0 hMn0 hr hlk he ho hI hok hD hl hn hk hp hx hPR hBad hml hN hR hb hlen0 hE hg
  go_enter Tryz.func40, Tryz.ntmps40
  go_wp2_with fail
  refine Calls.mono (HVal.out W0) ?_
  rintro e w1 ⟨rfl, hT⟩
  have HT01 := Lib.hid hT
  have HT1 := Lib.hid (HT0.out.trans hT)
  clear hT z x0 x1 x2 x3 y0 y1 y2 y3 y4 y5 y6 hW0 hxb hyb
  cases b with
  | false =>
    have HD := Lib.hid (HBad.out rfl)
    go_wp2
    go_ret
    rw [HD.out]
    exact ⟨rfl, S, HP.out.tch HT1.out (by simp), Goes.of_tch (HT1.out.mono (by simp))⟩
  | true =>
    obtain ⟨z, x0, x1, x2, x3, y0, y1, y2, y3, y4, y5, y6⟩ := HCells.out w1 [] HT01.out (by simp)
    have hlk0 := HLook.out w1 HT1.out
    obtain ⟨hq1, hq2, hq3⟩ := HPR.out rfl
    have HQ1 := Lib.hid hq1
    have HQ2 := Lib.hid hq2
    have HQ3 := Lib.hid hq3
    clear hq1 hq2 hq3
    go_wp2
    go_quiet (fail)
    obtain ⟨W1, hW1⟩ : ∃ W1, w1.drewN nq = W1 := ⟨_, rfl⟩
    rw [hW1]
    have HT01 : Hid (Tch W0 W1 []) := Lib.hid (hW1 ▸ HT01.out.drewN nq)
    have HT1 : Hid (Tch w W1 []) := Lib.hid (hW1 ▸ HT1.out.drewN nq)
    clear z x0 x1 x2 x3 y0 y1 y2 y3 y4 y5 y6 hlk0 hW1
    obtain ⟨z, x0, x1, x2, x3, y0, y1, y2, y3, y4, y5, y6⟩ := HCells.out W1 [] HT01.out (by simp)
    go_wp2_with fail
    refine Calls.mono (HFind.out W1 HT1.out) ?_
    rintro e w2 ⟨rfl, hT⟩
    have HT2 := Lib.hid (HT1.out.trans hT)
    have HT02 := Lib.hid (HT01.out.trans hT)
    clear hT z x0 x1 x2 x3 y0 y1 y2 y3 y4 y5 y6
    rcases Nat.eq_zero_or_pos k with h0 | h0
    · subst h0
      have i0 : ¬ (0 : Int) ≤ ((0 : Nat) : Int) - 1 := by omega
      have HX2 := Lib.hid (HCells.out w2 [] HT02.out (by simp))
      have HX2d := Lib.hid (HCells.out w2.drew [] HT02.out.drew (by simp))
      obtain ⟨z, x0, x1, x2, x3, y0, y1, y2, y3, y4, y5, y6⟩ := HX2.out
      have hlen := HLen.out w2 HT2.out
      by_cases h4 : n = 4
      · subst h4
        have HD := Lib.hid (HQ2.out rfl (.inl rfl))
        clear hkn hn4 hm9
        go_wp2
        go_ret
        rw [HD.out]
        exact ⟨rfl, S, HP.out.tch HT2.out (by simp), Goes.of_tch (HT2.out.mono (by simp))⟩
      · have b4 : ((n : Int) == 4) = false := by simp; omega
        have HInc := fun h => Lib.hid (HIns.out A n c l w2.drew HeR.out HLn.out (by omega) (HT2.out.drew.mono (by simp)) (HRow.out _ HT2.out.drew) (HQ3.out rfl h).2.1 (HQ3.out rfl h).2.2)
        by_cases hn0 : n = 0
        · subst hn0
          by_cases h9 : N = 90
          · subst h9
            have HD := Lib.hid (HQ2.out rfl (.inr ⟨rfl, rfl⟩))
            clear hkn hn4 hm9 HInc h4
            go_wp2
            go_ret
            rw [HD.out]
            exact ⟨rfl, S, HP.out.tch HT2.out (by simp), Goes.of_tch (HT2.out.mono (by simp))⟩
          · have b9 : ((N : Int) == 90) = false := by simp; omega
            have hno : ¬ (0 = 4 ∨ (0 = 0 ∧ N = 90)) := by omega
            have HD2 := Lib.hid (HQ3.out rfl hno).1
            have HC9 := HInc hno
            clear hkn hn4 hm9 HInc h4 h9 hno
            go_wp2
            refine wp_region_held_drew (S := (fun W => W.cell? ⟨t, 0, none⟩ = some (Value.map (some m)) ∧ W.cell? ⟨xb, 0, none⟩ = some (Value.bool ps) ∧ W.cell? ⟨xb, 1, none⟩ = some (Value.int .u64 (ph : Int)) ∧ W.cell? ⟨xb, 2, none⟩ = some (Value.int .u64 (pl : Int)) ∧ W.cell? ⟨xb, 3, none⟩ = some (Value.int .i64 pb) ∧ W.cell? ⟨yb, 0, none⟩ = some (Value.int .i64 pr) ∧ W.cell? ⟨yb, 1, none⟩ = some (Value.int .i64 me) ∧ W.cell? ⟨yb, 2, none⟩ = some (Value.bool vs) ∧ W.cell? ⟨yb, 3, none⟩ = some (Value.int .u64 (vh : Int)) ∧ W.cell? ⟨yb, 4, none⟩ = some (Value.int .u64 (vl : Int)) ∧ W.cell? ⟨yb, 5, none⟩ = some (Value.int .i64 po) ∧ W.cell? ⟨yb, 6, none⟩ = some (Value.bool aw))) (by kernel_rfl) ?_ (fun hHeld => ?_)
            · (first | exact HX2.out | exact HX2d.out | exact HX4.out | exact HX3.out)
            refine wpAnyH_take (i := 0) (oi := { dst := some 45, op := Go.Op.move (Go.Operand.tmp 0), type := 32, pos := "rib.go:34", after := #[], guard := none }) (v := ?_) rfl (by kernel_rfl) (by kernel_rfl) (by kernel_rfl) (fun _ _ _ h => h) (Or.inl ⟨by rfl, ?_⟩) (by assumption) ?_
            rotate_left
            · intro w hSw
              (try dsimp only at hSw)
              go_simp
              try (with_reducible rfl)
            try simp only [Act.put, List.setIfInBounds_toArray, List.set_cons_zero, List.set_cons_succ]
            refine wpAnyH_take (i := 1) (oi := { dst := some 46, op := Go.Op.nilCheck (Go.Operand.tmp 45), type := 0, pos := "rib.go:34", after := #[{ on := 0, ground := Go.Ground.data }], guard := none }) (v := ?_) rfl (by kernel_rfl) (by kernel_rfl) (by kernel_rfl) (fun _ _ _ h => h) (Or.inl ⟨by rfl, ?_⟩) (by assumption) ?_
            rotate_left
            · intro w hSw
              (try dsimp only at hSw)
              go_simp
              try (with_reducible rfl)
            try simp only [Act.put, List.setIfInBounds_toArray, List.set_cons_zero, List.set_cons_succ]
            refine wpAnyH_take (i := 2) (oi := { dst := some 47, op := Go.Op.fieldAddr 123 (Go.Operand.tmp 46) 0, type := 0, pos := "rib.go:34", after := #[{ on := 1, ground := Go.Ground.data }], guard := none }) (v := ?_) rfl (by kernel_rfl) (by kernel_rfl) (by kernel_rfl) (fun _ _ _ h => h) (Or.inl ⟨by rfl, ?_⟩) (by assumption) ?_
            rotate_left
            · intro w hSw
              (try dsimp only at hSw)
              go_simp
              try (with_reducible rfl)
            try simp only [Act.put, List.setIfInBounds_toArray, List.set_cons_zero, List.set_cons_succ]
            refine wpAnyH_take (i := 3) (oi := { dst := some 48, op := Go.Op.load 121 (Go.Operand.tmp 47), type := 121, pos := "rib.go:34", after := #[{ on := 2, ground := Go.Ground.data }], guard := none }) (v := ?_) rfl (by kernel_rfl) (by kernel_rfl) (by kernel_rfl) (fun _ _ _ h => h) (Or.inl ⟨by rfl, ?_⟩) (by assumption) ?_
            rotate_left
            · intro w hSw
              (try dsimp only at hSw)
              go_simp
              try (with_reducible rfl)
            try simp only [Act.put, List.setIfInBounds_toArray, List.set_cons_zero, List.set_cons_succ]
            refine wpAnyH_take (i := 4) (oi := { dst := some 49, op := Go.Op.load 30 (Go.Operand.tmp 4), type := 30, pos := "rib.go:34", after := #[], guard := none }) (v := ?_) rfl (by kernel_rfl) (by kernel_rfl) (by kernel_rfl) (fun _ _ _ h => h) (Or.inl ⟨by rfl, ?_⟩) (by assumption) ?_
            rotate_left
            · intro w hSw
              (try dsimp only at hSw)
              go_simp
              try (with_reducible rfl)
            try simp only [Act.put, List.setIfInBounds_toArray, List.set_cons_zero, List.set_cons_succ]
            refine wpAnyH_take (i := 5) (oi := { dst := some 50, op := Go.Op.move (Go.Operand.tmp 7), type := 118, pos := "rib.go:34", after := #[], guard := none }) (v := ?_) rfl (by kernel_rfl) (by kernel_rfl) (by kernel_rfl) (fun _ _ _ h => h) (Or.inl ⟨by rfl, ?_⟩) (by assumption) ?_
            rotate_left
            · intro w hSw
              (try dsimp only at hSw)
              go_simp
              try (with_reducible rfl)
            try simp only [Act.put, List.setIfInBounds_toArray, List.set_cons_zero, List.set_cons_succ]
            refine wpAnyH_take (i := 6) (oi := { dst := some 51, op := Go.Op.load 49 (Go.Operand.tmp 5), type := 49, pos := "rib.go:34", after := #[], guard := none }) (v := ?_) rfl (by kernel_rfl) (by kernel_rfl) (by kernel_rfl) (fun _ _ _ h => h) (Or.inl ⟨by rfl, ?_⟩) (by assumption) ?_
            rotate_left
            · intro w hSw
              (try dsimp only at hSw)
              go_simp
              try (with_reducible rfl)
            try simp only [Act.put, List.setIfInBounds_toArray, List.set_cons_zero, List.set_cons_succ]
            refine wpAnyH_ready (rs := [7]) (by kernel_rfl) (by simp) ?_
            refine AllReadyH.cons (o := { dst := some 52, op := Go.Op.call { callee := Go.Callee.value (Go.Operand.func 83), args := #[Go.Operand.tmp 50, Go.Operand.tmp 51], argTypes := #[118, 49] }, type := 118, pos := "rib.go:34", after := #[{ on := 5, ground := Go.Ground.data }, { on := 6, ground := Go.Ground.data }], guard := none }) rfl (fun K hK => ?_) AllReadyH.nil
            go_simp
            (go_at_call 83; (with_reducible refine Calls.mono HC9.out ?_); rintro e w3 ⟨A9, c9, rfl, hT3, hM3, hF3⟩; have HM3 := Lib.hid hM3; have HF3 := Lib.hid hF3; have HX3 := Lib.hid (HCells.out _ R ((HT02.out.drew.mono (by simp)).trans hT3) HRn.out); have HT30 := Lib.hid ((HT02.out.drew.mono (T := R) (by simp)).trans hT3); clear hT3 hM3 hF3)
            go_wp2_with fail
            refine hK.out _ _ ?_ (fun hHeld => ?_)
            · (first | exact HX2.out | exact HX2d.out | exact HX4.out | exact HX3.out)
            clear hK K
            try simp only [Act.put, List.setIfInBounds_toArray, List.set_cons_zero, List.set_cons_succ]
            refine wpAnyH_ready (rs := [8]) (by kernel_rfl) (by simp) ?_
            refine AllReadyH.cons (o := { dst := none, op := Go.Op.mapUpdate 121 (Go.Operand.tmp 48) (Go.Operand.tmp 49) (Go.Operand.tmp 52), type := 0, pos := "rib.go:34", after := #[{ on := 3, ground := Go.Ground.data }, { on := 4, ground := Go.Ground.data }, { on := 7, ground := Go.Ground.data }, { on := 7, ground := Go.Ground.chain }, { on := 0, ground := Go.Ground.phase }, { on := 1, ground := Go.Ground.phase }, { on := 2, ground := Go.Ground.phase }, { on := 3, ground := Go.Ground.phase }, { on := 4, ground := Go.Ground.phase }, { on := 5, ground := Go.Ground.phase }, { on := 6, ground := Go.Ground.phase }, { on := 7, ground := Go.Ground.phase }], guard := none }) rfl (fun K hK => ?_) AllReadyH.nil
            rw [if_pos (by rfl)]
            refine wpo_mset keyPf (.tmp 48) (.tmp 49) (.tmp 52) 121 118 rfl Tryz.underlying121 rfl ((ps, ph, pl), pb) rfl (.slice A9 (0 + 1) c9) rfl HM3.out (fun w4 hM4 hT4 hs4 => ?_)
            have HF4 := Lib.hid (HF3.out w4 hM4 hT4)
            have HX4 := Lib.hid (HCells.out _ (m :: R) ((HT30.out.mono (fun s hs => List.mem_cons_of_mem _ hs)).trans (hT4.mono (by simp))) (by intro s hs; rcases List.mem_cons.1 hs with e | e; rw [e]; exact HMn.out; exact HRn.out s e))
            clear hM4 hT4 hs4
            refine hK.out _ _ ?_ (fun hHeld => ?_)
            · (first | exact HX2.out | exact HX2d.out | exact HX4.out | exact HX3.out)
            clear hK K
            try simp only [Act.put]
            refine wpAnyH_done (by kernel_rfl) ?_ _
            go_wp2
            go_ret
            obtain ⟨S', r1, r2⟩ := HF4.out
            exact ⟨by rw [HD2.out]; rfl, S', r1, r2⟩
        · have b0 : ((n : Int) == 0) = false := by simp; omega
          have hno : ¬ (n = 4 ∨ (n = 0 ∧ N = 90)) := by omega
          have HD2 := Lib.hid (HQ3.out rfl hno).1
          have HC9 := HInc hno
          clear hkn hn4 hm9 HInc h4 hn0 hno
          go_wp2
          refine wp_region_held_drew (S := (fun W => W.cell? ⟨t, 0, none⟩ = some (Value.map (some m)) ∧ W.cell? ⟨xb, 0, none⟩ = some (Value.bool ps) ∧ W.cell? ⟨xb, 1, none⟩ = some (Value.int .u64 (ph : Int)) ∧ W.cell? ⟨xb, 2, none⟩ = some (Value.int .u64 (pl : Int)) ∧ W.cell? ⟨xb, 3, none⟩ = some (Value.int .i64 pb) ∧ W.cell? ⟨yb, 0, none⟩ = some (Value.int .i64 pr) ∧ W.cell? ⟨yb, 1, none⟩ = some (Value.int .i64 me) ∧ W.cell? ⟨yb, 2, none⟩ = some (Value.bool vs) ∧ W.cell? ⟨yb, 3, none⟩ = some (Value.int .u64 (vh : Int)) ∧ W.cell? ⟨yb, 4, none⟩ = some (Value.int .u64 (vl : Int)) ∧ W.cell? ⟨yb, 5, none⟩ = some (Value.int .i64 po) ∧ W.cell? ⟨yb, 6, none⟩ = some (Value.bool aw))) (by kernel_rfl) ?_ (fun hHeld => ?_)
          · (first | exact HX2.out | exact HX2d.out | exact HX4.out | exact HX3.out)
          refine wpAnyH_take (i := 0) (oi := { dst := some 45, op := Go.Op.move (Go.Operand.tmp 0), type := 32, pos := "rib.go:34", after := #[], guard := none }) (v := ?_) rfl (by kernel_rfl) (by kernel_rfl) (by kernel_rfl) (fun _ _ _ h => h) (Or.inl ⟨by rfl, ?_⟩) (by assumption) ?_
          rotate_left
          · intro w hSw
            (try dsimp only at hSw)
            go_simp
            try (with_reducible rfl)
          try simp only [Act.put, List.setIfInBounds_toArray, List.set_cons_zero, List.set_cons_succ]
          refine wpAnyH_take (i := 1) (oi := { dst := some 46, op := Go.Op.nilCheck (Go.Operand.tmp 45), type := 0, pos := "rib.go:34", after := #[{ on := 0, ground := Go.Ground.data }], guard := none }) (v := ?_) rfl (by kernel_rfl) (by kernel_rfl) (by kernel_rfl) (fun _ _ _ h => h) (Or.inl ⟨by rfl, ?_⟩) (by assumption) ?_
          rotate_left
          · intro w hSw
            (try dsimp only at hSw)
            go_simp
            try (with_reducible rfl)
          try simp only [Act.put, List.setIfInBounds_toArray, List.set_cons_zero, List.set_cons_succ]
          refine wpAnyH_take (i := 2) (oi := { dst := some 47, op := Go.Op.fieldAddr 123 (Go.Operand.tmp 46) 0, type := 0, pos := "rib.go:34", after := #[{ on := 1, ground := Go.Ground.data }], guard := none }) (v := ?_) rfl (by kernel_rfl) (by kernel_rfl) (by kernel_rfl) (fun _ _ _ h => h) (Or.inl ⟨by rfl, ?_⟩) (by assumption) ?_
          rotate_left
          · intro w hSw
            (try dsimp only at hSw)
            go_simp
            try (with_reducible rfl)
          try simp only [Act.put, List.setIfInBounds_toArray, List.set_cons_zero, List.set_cons_succ]
          refine wpAnyH_take (i := 3) (oi := { dst := some 48, op := Go.Op.load 121 (Go.Operand.tmp 47), type := 121, pos := "rib.go:34", after := #[{ on := 2, ground := Go.Ground.data }], guard := none }) (v := ?_) rfl (by kernel_rfl) (by kernel_rfl) (by kernel_rfl) (fun _ _ _ h => h) (Or.inl ⟨by rfl, ?_⟩) (by assumption) ?_
          rotate_left
          · intro w hSw
            (try dsimp only at hSw)
            go_simp
            try (with_reducible rfl)
          try simp only [Act.put, List.setIfInBounds_toArray, List.set_cons_zero, List.set_cons_succ]
          refine wpAnyH_take (i := 4) (oi := { dst := some 49, op := Go.Op.load 30 (Go.Operand.tmp 4), type := 30, pos := "rib.go:34", after := #[], guard := none }) (v := ?_) rfl (by kernel_rfl) (by kernel_rfl) (by kernel_rfl) (fun _ _ _ h => h) (Or.inl ⟨by rfl, ?_⟩) (by assumption) ?_
          rotate_left
          · intro w hSw
            (try dsimp only at hSw)
            go_simp
            try (with_reducible rfl)
          try simp only [Act.put, List.setIfInBounds_toArray, List.set_cons_zero, List.set_cons_succ]
          refine wpAnyH_take (i := 5) (oi := { dst := some 50, op := Go.Op.move (Go.Operand.tmp 7), type := 118, pos := "rib.go:34", after := #[], guard := none }) (v := ?_) rfl (by kernel_rfl) (by kernel_rfl) (by kernel_rfl) (fun _ _ _ h => h) (Or.inl ⟨by rfl, ?_⟩) (by assumption) ?_
          rotate_left
          · intro w hSw
            (try dsimp only at hSw)
            go_simp
            try (with_reducible rfl)
          try simp only [Act.put, List.setIfInBounds_toArray, List.set_cons_zero, List.set_cons_succ]
          refine wpAnyH_take (i := 6) (oi := { dst := some 51, op := Go.Op.load 49 (Go.Operand.tmp 5), type := 49, pos := "rib.go:34", after := #[], guard := none }) (v := ?_) rfl (by kernel_rfl) (by kernel_rfl) (by kernel_rfl) (fun _ _ _ h => h) (Or.inl ⟨by rfl, ?_⟩) (by assumption) ?_
          rotate_left
          · intro w hSw
            (try dsimp only at hSw)
            go_simp
            try (with_reducible rfl)
          try simp only [Act.put, List.setIfInBounds_toArray, List.set_cons_zero, List.set_cons_succ]
          refine wpAnyH_ready (rs := [7]) (by kernel_rfl) (by simp) ?_
          refine AllReadyH.cons (o := { dst := some 52, op := Go.Op.call { callee := Go.Callee.value (Go.Operand.func 83), args := #[Go.Operand.tmp 50, Go.Operand.tmp 51], argTypes := #[118, 49] }, type := 118, pos := "rib.go:34", after := #[{ on := 5, ground := Go.Ground.data }, { on := 6, ground := Go.Ground.data }], guard := none }) rfl (fun K hK => ?_) AllReadyH.nil
          go_simp
          (go_at_call 83; (with_reducible refine Calls.mono HC9.out ?_); rintro e w3 ⟨A9, c9, rfl, hT3, hM3, hF3⟩; have HM3 := Lib.hid hM3; have HF3 := Lib.hid hF3; have HX3 := Lib.hid (HCells.out _ R ((HT02.out.drew.mono (by simp)).trans hT3) HRn.out); have HT30 := Lib.hid ((HT02.out.drew.mono (T := R) (by simp)).trans hT3); clear hT3 hM3 hF3)
          go_wp2_with fail
          refine hK.out _ _ ?_ (fun hHeld => ?_)
          · (first | exact HX2.out | exact HX2d.out | exact HX4.out | exact HX3.out)
          clear hK K
          try simp only [Act.put, List.setIfInBounds_toArray, List.set_cons_zero, List.set_cons_succ]
          refine wpAnyH_ready (rs := [8]) (by kernel_rfl) (by simp) ?_
          refine AllReadyH.cons (o := { dst := none, op := Go.Op.mapUpdate 121 (Go.Operand.tmp 48) (Go.Operand.tmp 49) (Go.Operand.tmp 52), type := 0, pos := "rib.go:34", after := #[{ on := 3, ground := Go.Ground.data }, { on := 4, ground := Go.Ground.data }, { on := 7, ground := Go.Ground.data }, { on := 7, ground := Go.Ground.chain }, { on := 0, ground := Go.Ground.phase }, { on := 1, ground := Go.Ground.phase }, { on := 2, ground := Go.Ground.phase }, { on := 3, ground := Go.Ground.phase }, { on := 4, ground := Go.Ground.phase }, { on := 5, ground := Go.Ground.phase }, { on := 6, ground := Go.Ground.phase }, { on := 7, ground := Go.Ground.phase }], guard := none }) rfl (fun K hK => ?_) AllReadyH.nil
          rw [if_pos (by rfl)]
          refine wpo_mset keyPf (.tmp 48) (.tmp 49) (.tmp 52) 121 118 rfl Tryz.underlying121 rfl ((ps, ph, pl), pb) rfl (.slice A9 (n + 1) c9) rfl HM3.out (fun w4 hM4 hT4 hs4 => ?_)
          have HF4 := Lib.hid (HF3.out w4 hM4 hT4)
          have HX4 := Lib.hid (HCells.out _ (m :: R) ((HT30.out.mono (fun s hs => List.mem_cons_of_mem _ hs)).trans (hT4.mono (by simp))) (by intro s hs; rcases List.mem_cons.1 hs with e | e; rw [e]; exact HMn.out; exact HRn.out s e))
          clear hM4 hT4 hs4
          refine hK.out _ _ ?_ (fun hHeld => ?_)
          · (first | exact HX2.out | exact HX2d.out | exact HX4.out | exact HX3.out)
          clear hK K
          try simp only [Act.put]
          refine wpAnyH_done (by kernel_rfl) ?_ _
          go_wp2
          go_ret
          obtain ⟨S', r1, r2⟩ := HF4.out
          exact ⟨by rw [HD2.out]; rfl, S', r1, r2⟩
    · obtain ⟨j, rfl⟩ : ∃ j, k = j + 1 := ⟨k - 1, by omega⟩
      have e0 : ((j + 1 : Nat) : Int) - 1 = (j : Int) := by omega
      rw [e0]
      have i0 : (0 : Int) ≤ (j : Int) := by omega
      have i1 : IntKind.i64.wrap ((j : Int) + 1) = (j : Int) + 1 := by rw [IntKind.wrap_i64]; omega
      have hjn : j < n := by omega
      obtain ⟨g, rfl⟩ := HSl.out (by omega)
      have HDc := Lib.hid (HDel.out g j w2 hjn HT2.out rfl)
      have HD2 := Lib.hid (HQ1.out j rfl).1
      have HeR1 : Hid (R = [g]) := Lib.hid (by rw [← HeR.out]; rfl)
      have HLe : Hid ((l.eraseIdx j).length = n - 1 ∧ n - 1 ≤ 1000) := Lib.hid (by rw [List.length_eraseIdx, if_pos (by rw [HLn.out]; exact hjn), HLn.out]; omega)
      have HInc := Lib.hid (fun W (hT : Tch w W R) hrow => HIns.out (some ⟨g, 0, none⟩) (n - 1) c (l.eraseIdx j) W (by rw [HeR1.out]; rfl) HLe.out.1 HLe.out.2 hT hrow (HQ1.out j rfl).2.1 (HQ1.out j rfl).2.2)
      clear e0 h0 hkn hn4 hm9
      go_wp2_with fail
      refine Calls.mono HDc.out ?_
      rintro e w9 ⟨rfl, hro, hT⟩
      have HTd : Hid (Tch w w9 R) := Lib.hid (by rw [HeR1.out]; exact (HT2.out.mono (by simp)).trans hT)
      have HT02 : Hid (Tch W0 w9 R) := Lib.hid (by rw [HeR1.out]; exact (HT02.out.mono (by simp)).trans hT)
      have HC9 := Lib.hid (HInc.out w9.drew HTd.out.drew (by have := own_tch (T := []) hro (Tch.refl w9 []).drew (by simp); exact this))
      obtain ⟨n1, hn1⟩ : ∃ n1, n - 1 = n1 := ⟨_, rfl⟩
      rw [hn1] at HC9
      rw [hn1]
      have HX2 := Lib.hid (HCells.out w9 R HT02.out HRn.out)
      have HX2d := Lib.hid (HCells.out w9.drew R HT02.out.drew HRn.out)
      obtain ⟨z, x0, x1, x2, x3, y0, y1, y2, y3, y4, y5, y6⟩ := HX2.out
      clear hT hro hn1 hjn
      go_wp2
      refine wp_region_held_drew (S := (fun W => W.cell? ⟨t, 0, none⟩ = some (Value.map (some m)) ∧ W.cell? ⟨xb, 0, none⟩ = some (Value.bool ps) ∧ W.cell? ⟨xb, 1, none⟩ = some (Value.int .u64 (ph : Int)) ∧ W.cell? ⟨xb, 2, none⟩ = some (Value.int .u64 (pl : Int)) ∧ W.cell? ⟨xb, 3, none⟩ = some (Value.int .i64 pb) ∧ W.cell? ⟨yb, 0, none⟩ = some (Value.int .i64 pr) ∧ W.cell? ⟨yb, 1, none⟩ = some (Value.int .i64 me) ∧ W.cell? ⟨yb, 2, none⟩ = some (Value.bool vs) ∧ W.cell? ⟨yb, 3, none⟩ = some (Value.int .u64 (vh : Int)) ∧ W.cell? ⟨yb, 4, none⟩ = some (Value.int .u64 (vl : Int)) ∧ W.cell? ⟨yb, 5, none⟩ = some (Value.int .i64 po) ∧ W.cell? ⟨yb, 6, none⟩ = some (Value.bool aw))) (by kernel_rfl) ?_ (fun hHeld => ?_)
      · (first | exact HX2.out | exact HX2d.out | exact HX4.out | exact HX3.out)
      refine wpAnyH_take (i := 0) (oi := { dst := some 45, op := Go.Op.move (Go.Operand.tmp 0), type := 32, pos := "rib.go:34", after := #[], guard := none }) (v := ?_) rfl (by kernel_rfl) (by kernel_rfl) (by kernel_rfl) (fun _ _ _ h => h) (Or.inl ⟨by rfl, ?_⟩) (by assumption) ?_
      rotate_left
      · intro w hSw
        (try dsimp only at hSw)
        go_simp
        try (with_reducible rfl)
      try simp only [Act.put, List.setIfInBounds_toArray, List.set_cons_zero, List.set_cons_succ]
      refine wpAnyH_take (i := 1) (oi := { dst := some 46, op := Go.Op.nilCheck (Go.Operand.tmp 45), type := 0, pos := "rib.go:34", after := #[{ on := 0, ground := Go.Ground.data }], guard := none }) (v := ?_) rfl (by kernel_rfl) (by kernel_rfl) (by kernel_rfl) (fun _ _ _ h => h) (Or.inl ⟨by rfl, ?_⟩) (by assumption) ?_
      rotate_left
      · intro w hSw
        (try dsimp only at hSw)
        go_simp
        try (with_reducible rfl)
      try simp only [Act.put, List.setIfInBounds_toArray, List.set_cons_zero, List.set_cons_succ]
      refine wpAnyH_take (i := 2) (oi := { dst := some 47, op := Go.Op.fieldAddr 123 (Go.Operand.tmp 46) 0, type := 0, pos := "rib.go:34", after := #[{ on := 1, ground := Go.Ground.data }], guard := none }) (v := ?_) rfl (by kernel_rfl) (by kernel_rfl) (by kernel_rfl) (fun _ _ _ h => h) (Or.inl ⟨by rfl, ?_⟩) (by assumption) ?_
      rotate_left
      · intro w hSw
        (try dsimp only at hSw)
        go_simp
        try (with_reducible rfl)
      try simp only [Act.put, List.setIfInBounds_toArray, List.set_cons_zero, List.set_cons_succ]
      refine wpAnyH_take (i := 3) (oi := { dst := some 48, op := Go.Op.load 121 (Go.Operand.tmp 47), type := 121, pos := "rib.go:34", after := #[{ on := 2, ground := Go.Ground.data }], guard := none }) (v := ?_) rfl (by kernel_rfl) (by kernel_rfl) (by kernel_rfl) (fun _ _ _ h => h) (Or.inl ⟨by rfl, ?_⟩) (by assumption) ?_
      rotate_left
      · intro w hSw
        (try dsimp only at hSw)
        go_simp
        try (with_reducible rfl)
      try simp only [Act.put, List.setIfInBounds_toArray, List.set_cons_zero, List.set_cons_succ]
      refine wpAnyH_take (i := 4) (oi := { dst := some 49, op := Go.Op.load 30 (Go.Operand.tmp 4), type := 30, pos := "rib.go:34", after := #[], guard := none }) (v := ?_) rfl (by kernel_rfl) (by kernel_rfl) (by kernel_rfl) (fun _ _ _ h => h) (Or.inl ⟨by rfl, ?_⟩) (by assumption) ?_
      rotate_left
      · intro w hSw
        (try dsimp only at hSw)
        go_simp
        try (with_reducible rfl)
      try simp only [Act.put, List.setIfInBounds_toArray, List.set_cons_zero, List.set_cons_succ]
      refine wpAnyH_take (i := 5) (oi := { dst := some 50, op := Go.Op.move (Go.Operand.tmp 7), type := 118, pos := "rib.go:34", after := #[], guard := none }) (v := ?_) rfl (by kernel_rfl) (by kernel_rfl) (by kernel_rfl) (fun _ _ _ h => h) (Or.inl ⟨by rfl, ?_⟩) (by assumption) ?_
      rotate_left
      · intro w hSw
        (try dsimp only at hSw)
        go_simp
        try (with_reducible rfl)
      try simp only [Act.put, List.setIfInBounds_toArray, List.set_cons_zero, List.set_cons_succ]
      refine wpAnyH_take (i := 6) (oi := { dst := some 51, op := Go.Op.load 49 (Go.Operand.tmp 5), type := 49, pos := "rib.go:34", after := #[], guard := none }) (v := ?_) rfl (by kernel_rfl) (by kernel_rfl) (by kernel_rfl) (fun _ _ _ h => h) (Or.inl ⟨by rfl, ?_⟩) (by assumption) ?_
      rotate_left
      · intro w hSw
        (try dsimp only at hSw)
        go_simp
        try (with_reducible rfl)
      try simp only [Act.put, List.setIfInBounds_toArray, List.set_cons_zero, List.set_cons_succ]
      refine wpAnyH_ready (rs := [7]) (by kernel_rfl) (by simp) ?_
      refine AllReadyH.cons (o := { dst := some 52, op := Go.Op.call { callee := Go.Callee.value (Go.Operand.func 83), args := #[Go.Operand.tmp 50, Go.Operand.tmp 51], argTypes := #[118, 49] }, type := 118, pos := "rib.go:34", after := #[{ on := 5, ground := Go.Ground.data }, { on := 6, ground := Go.Ground.data }], guard := none }) rfl (fun K hK => ?_) AllReadyH.nil
      go_simp
      (go_at_call 83; (with_reducible refine Calls.mono HC9.out ?_); rintro e w3 ⟨A9, c9, rfl, hT3, hM3, hF3⟩; have HM3 := Lib.hid hM3; have HF3 := Lib.hid hF3; have HX3 := Lib.hid (HCells.out _ R ((HT02.out.drew).trans hT3) HRn.out); have HT30 := Lib.hid ((HT02.out.drew).trans hT3); clear hT3 hM3 hF3)
      go_wp2_with fail
      refine hK.out _ _ ?_ (fun hHeld => ?_)
      · (first | exact HX2.out | exact HX2d.out | exact HX4.out | exact HX3.out)
      clear hK K
      try simp only [Act.put, List.setIfInBounds_toArray, List.set_cons_zero, List.set_cons_succ]
      refine wpAnyH_ready (rs := [8]) (by kernel_rfl) (by simp) ?_
      refine AllReadyH.cons (o := { dst := none, op := Go.Op.mapUpdate 121 (Go.Operand.tmp 48) (Go.Operand.tmp 49) (Go.Operand.tmp 52), type := 0, pos := "rib.go:34", after := #[{ on := 3, ground := Go.Ground.data }, { on := 4, ground := Go.Ground.data }, { on := 7, ground := Go.Ground.data }, { on := 7, ground := Go.Ground.chain }, { on := 0, ground := Go.Ground.phase }, { on := 1, ground := Go.Ground.phase }, { on := 2, ground := Go.Ground.phase }, { on := 3, ground := Go.Ground.phase }, { on := 4, ground := Go.Ground.phase }, { on := 5, ground := Go.Ground.phase }, { on := 6, ground := Go.Ground.phase }, { on := 7, ground := Go.Ground.phase }], guard := none }) rfl (fun K hK => ?_) AllReadyH.nil
      rw [if_pos (by rfl)]
      refine wpo_mset keyPf (.tmp 48) (.tmp 49) (.tmp 52) 121 118 rfl Tryz.underlying121 rfl ((ps, ph, pl), pb) rfl (.slice A9 (n1 + 1) c9) rfl HM3.out (fun w4 hM4 hT4 hs4 => ?_)
      have HF4 := Lib.hid (HF3.out w4 hM4 hT4)
      have HX4 := Lib.hid (HCells.out _ (m :: R) ((HT30.out.mono (fun s hs => List.mem_cons_of_mem _ hs)).trans (hT4.mono (by simp))) (by intro s hs; rcases List.mem_cons.1 hs with e | e; rw [e]; exact HMn.out; exact HRn.out s e))
      clear hM4 hT4 hs4
      refine hK.out _ _ ?_ (fun hHeld => ?_)
      · (first | exact HX2.out | exact HX2d.out | exact HX4.out | exact HX3.out)
      clear hK K
      try simp only [Act.put]
      refine wpAnyH_done (by kernel_rfl) ?_ _
      go_wp2
      go_ret
      obtain ⟨S', r1, r2⟩ := HF4.out
      exact ⟨by rw [HD2.out]; rfl, S', r1, r2⟩
end Go.Proofs.YtgfkmgbcajdcdaaGreatDoor
