/-
  Several texts in one: RpG, RpH, RpI.
-/
import Derived.Test.YtgfkmgbcajdcdaaGreatDoorKah
import Derived.Test.YtgfkmgbcajdcdaaGreatDoorKai
import Derived.Test.YtgfkmgbcajdcdaaGreatDoorKaj
import Derived.BigQuiet
namespace Go.Proofs.YtgfkmgbcajdcdaaGreatDoor
open Go.RowKit
set_option linter.unusedVariables false

set_option maxRecDepth 100000 in
set_option maxHeartbeats 2000000 in
theorem nb_any (p : PfI) (x : PaI) (ha : N64 x.2.2.1.2.1 ∧ N64 x.2.2.1.2.2) (w : World) : Calls Tryz.prog 121 #[pfR p, paR x] w fun e w' => e = .returned (.bool (nbI p x.2.2.1 x.2.2.2.1)) ∧ Tch w w' [] := by
  obtain ⟨R, hR⟩ : ∃ R, nbI p x.2.2.1 x.2.2.2.1 = R := ⟨_, rfl⟩
  rw [hR]
  unfold nbI at hR
  obtain ⟨c, hc⟩ : ∃ c, clsR x.2.2.1 = c := ⟨_, rfl⟩
  rw [hc] at hR
  obtain ⟨⟨ps, ph, pl⟩, pb⟩ := p
  obtain ⟨pr, me, ⟨s, ah, al⟩, po, aw⟩ := x
  have ha : N64 ah ∧ N64 al := ha
  have hc' : clsV s (ah : Int) (al : Int) = c := hc
  have HC := Lib.hid (fun W => class_at s (ah : Int) (al : Int) (by unfold U6; have := ha.1; unfold N64 at this; omega) (by unfold U6; have := ha.2; unfold N64 at this; omega) hc' W)
  have hR : (decide (s = ps) && (decide (c = 5) || (decide (c = 2) && !decide (po = 0)))) = R := hR
  obtain ⟨W2, hW2⟩ : ∃ W2, (w.alloc (.cells #[.bool ps, .int .u64 (ph : Int), .int .u64 (pl : Int), .int .i64 pb] 30)).alloc (.cells #[.int .i64 pr, .int .i64 me, .bool s, .int .u64 (ah : Int), .int .u64 (al : Int), .int .i64 po, .bool aw] 49) = W2 := ⟨_, rfl⟩
  obtain ⟨xb, hxb⟩ : ∃ xb, w.heap.size = xb := ⟨_, rfl⟩
  obtain ⟨yb, hyb⟩ : ∃ yb, xb + 1 = yb := ⟨_, rfl⟩
  have hX : Blk W2 xb 30 #[.bool ps, .int .u64 (ph : Int), .int .u64 (pl : Int), .int .i64 pb] := hW2 ▸ hxb ▸ (Blk.new w _ _).alloc _
  have hY : Blk W2 yb 49 #[.int .i64 pr, .int .i64 me, .bool s, .int .u64 (ah : Int), .int .u64 (al : Int), .int .i64 po, .bool aw] := by
    have := Blk.new (w.alloc (.cells #[.bool ps, .int .u64 (ph : Int), .int .u64 (pl : Int), .int .i64 pb] 30)) 49 #[.int .i64 pr, .int .i64 me, .bool s, .int .u64 (ah : Int), .int .u64 (al : Int), .int .i64 po, .bool aw]
    rw [World.size_alloc, hxb, hyb, hW2] at this
    exact this
  have HX := Lib.hid hX
  have HY := Lib.hid hY
  have HT2 : Hid (Tch w W2 []) := Lib.hid (hW2 ▸ ((Tch.refl w []).alloc _).alloc _)
  have HW2 := Lib.hid (And.intro hW2 (And.intro hxb hyb))
  have HR := Lib.hid hR
  have hcs : (s = ps ∧ c = 5) ∨ (s = ps ∧ c = 2) ∨ (s = ps ∧ ¬ c = 5 ∧ ¬ c = 2) ∨ ¬ s = ps := by
    by_cases e : s = ps
    · by_cases e5 : c = 5
      · exact .inl ⟨e, e5⟩
      · by_cases e2 : c = 2
        · exact .inr (.inl ⟨e, e2⟩)
        · exact .inr (.inr (.inl ⟨e, e5, e2⟩))
    · exact .inr (.inr (.inr e))
  obtain ⟨x0, x1, x2, x3⟩ := hX.c4
  obtain ⟨y0, y1, y2, y3, y4, y5, y6⟩ := hY.p7
  clear hc hc' ha hX hY hR
  by_cases hs : s = ps
  · subst hs
    have be : (s != s) = false := by simp
    have HY' := HY.out
    go_enter Tryz.func121, Tryz.ntmps121
    go_wp2_with fail
    refine Calls.mono (HC.out _) ?_
    rintro e w1 ⟨rfl, hb1⟩
    have hT1 := Tch.of_below [] hb1
    have z5 := ((hT1.blk HY.out (by simp)).cell 5).trans (show _ = some (Value.int .i64 po) by rfl)
    have HT1 := Lib.hid (HT2.out.trans hT1)
    clear hb1 hT1 x0 x1 x2 x3 y0 y1 y2 y3 y4 y5 y6 HY'
    rcases hcs with ⟨-, rfl⟩ | ⟨-, rfl⟩ | ⟨-, h5, h2⟩ | hs
    · have HE : Hid (R = true) := Lib.hid (by rw [← HR.out]; simp)
      go_wp2
      go_ret
      exact ⟨by rw [HE.out]; rfl, HT1.out⟩
    · have HE : Hid (R = (po != 0)) := Lib.hid (by rw [← HR.out]; by_cases e : po = 0 <;> simp [e])
      go_wp2
      go_ret
      exact ⟨by rw [HE.out]; rfl, HT1.out⟩
    · have b5 : (c == 5) = false := by simpa using h5
      have b2 : (c == 2) = false := by simpa using h2
      have HE : Hid (R = false) := Lib.hid (by rw [← HR.out, decide_eq_false h5, decide_eq_false h2]; simp)
      clear h5 h2
      go_wp2
      go_ret
      exact ⟨by rw [HE.out]; rfl, HT1.out⟩
    · exact (hs trivial).elim
  · have HE : Hid (R = false) := Lib.hid (by rw [← HR.out, decide_eq_false hs]; rfl)
    clear hcs
    cases s <;> cases ps
    all_goals first
      | exact absurd rfl hs
      | (clear hs
         go_enter Tryz.func121, Tryz.ntmps121
         go_wp2
         go_ret
         exact ⟨by rw [HE.out]; rfl, HT2.out⟩)
set_option maxRecDepth 100000 in
set_option maxHeartbeats 4000000 in
theorem valid_p (p : PfI) (x : PaI) (hp : N64 p.1.2.1 ∧ N64 p.1.2.2) (hx : N64 x.2.2.1.2.1 ∧ N64 x.2.2.1.2.2) (w : World) : Calls Tryz.prog 80 #[pfR p, paR x] w fun e w' => e = .returned (.bool (rightI p x)) ∧ Tch w w' [] := by
  obtain ⟨V, hV⟩ : ∃ V, pvI p = V := ⟨_, rfl⟩
  have HV := Lib.hid (fun W => pvalid_at p.1.1 p.1.2.1 p.1.2.2 p.2 hp.1 hp.2 hV W)
  have HNb := Lib.hid (fun W => nb_any p x hx W)
  obtain ⟨Z, hZ⟩ : ∃ Z, decide (x.2.2.1 = zeroA) = Z := ⟨_, rfl⟩
  have HQ := eqA_eql 28 _ _ (eq_adR x.2.2.1 zeroA hZ)
  have HBad := Lib.hid (right_bad (p := p) (x := x))
  have HAw := Lib.hid (right_away (p := p) (x := x))
  have HNn := Lib.hid (right_nb (p := p) (x := x))
  have HPo := Lib.hid (right_po (p := p) (x := x))
  rw [hV] at HBad HAw HNn HPo
  rw [hZ] at HAw HPo
  obtain ⟨R, hR⟩ : ∃ R, rightI p x = R := ⟨_, rfl⟩
  rw [hR] at HBad HAw HNn HPo ⊢
  obtain ⟨⟨ps, ph, pl⟩, pb⟩ := p
  obtain ⟨pr, me, ⟨s, ah, al⟩, po, aw⟩ := x
  have HQ : ∀ W, (binOp .eql 28 (.agg #[.bool s, .int .u64 (ah : Int), .int .u64 (al : Int)]) (.agg #[.bool false, .int .u64 0, .int .u64 0])).run Tryz.prog W = .ok (.bool Z) W := HQ
  obtain ⟨W2, hW2⟩ : ∃ W2, (w.alloc (.cells #[.bool ps, .int .u64 (ph : Int), .int .u64 (pl : Int), .int .i64 pb] 30)).alloc (.cells #[.int .i64 pr, .int .i64 me, .bool s, .int .u64 (ah : Int), .int .u64 (al : Int), .int .i64 po, .bool aw] 49) = W2 := ⟨_, rfl⟩
  obtain ⟨xb, hxb⟩ : ∃ xb, w.heap.size = xb := ⟨_, rfl⟩
  obtain ⟨yb, hyb⟩ : ∃ yb, xb + 1 = yb := ⟨_, rfl⟩
  have hX : Blk W2 xb 30 #[.bool ps, .int .u64 (ph : Int), .int .u64 (pl : Int), .int .i64 pb] := hW2 ▸ hxb ▸ (Blk.new w _ _).alloc _
  have hY : Blk W2 yb 49 #[.int .i64 pr, .int .i64 me, .bool s, .int .u64 (ah : Int), .int .u64 (al : Int), .int .i64 po, .bool aw] := by
    have := Blk.new (w.alloc (.cells #[.bool ps, .int .u64 (ph : Int), .int .u64 (pl : Int), .int .i64 pb] 30)) 49 #[.int .i64 pr, .int .i64 me, .bool s, .int .u64 (ah : Int), .int .u64 (al : Int), .int .i64 po, .bool aw]
    rw [World.size_alloc, hxb, hyb, hW2] at this
    exact this
  have HX := Lib.hid hX
  have HY := Lib.hid hY
  have HT2 : Hid (Tch w W2 []) := Lib.hid (hW2 ▸ ((Tch.refl w []).alloc _).alloc _)
  obtain ⟨x0, x1, x2, x3⟩ := hX.c4
  clear hp hx hV hZ hR hX hY
  go_enter Tryz.func80, Tryz.ntmps80
  go_wp2_with fail
  refine Calls.mono (HV.out _) ?_
  rintro e w1 ⟨rfl, hb1⟩
  have hT1 := Tch.of_below [] hb1
  have hX1 := hT1.blk HX.out (by simp)
  have hY1 := hT1.blk HY.out (by simp)
  have HT1 := Lib.hid (HT2.out.trans hT1)
  obtain ⟨y0, y1, y2, y3, y4, y5, y6⟩ := hY1.p7
  clear x0 x1 x2 x3 hW2 hxb hyb
  obtain ⟨x0, x1, x2, x3⟩ := hX1.c4
  clear hb1 hT1 hX1 hY1
  cases V with
  | false =>
    have HE : Hid (R = false) := Lib.hid (HBad.out (.inl rfl))
    go_wp2
    go_ret
    exact ⟨by rw [HE.out]; rfl, HT1.out⟩
  | true =>
    by_cases h1 : 0 ≤ pr ∧ pr < 5
    case neg =>
      have HE : Hid (R = false) := Lib.hid (HBad.out (by
        by_cases h : pr < 0
        · exact .inr (.inl h)
        · exact .inr (.inr (.inl (by omega)))))
      have HPr := Lib.hid (isProto_at pr (b := false) (by by_cases h0 : 0 ≤ pr <;> by_cases h5 : pr < 5 <;> simp [h0, h5]; exact h1 ⟨h0, h5⟩) w1)
      clear h1
      go_wp2_with (go_at_call 120; refine Calls.mono HPr.out ?_; rintro e w' ⟨rfl, rfl⟩)
      go_ret
      exact ⟨by rw [HE.out]; rfl, HT1.out⟩
    have HPr := Lib.hid (isProto_at pr (b := true) (by simp [h1.1, h1.2]) w1)
    by_cases h3 : me < 0
    · have HE : Hid (R = false) := Lib.hid (HBad.out (.inr (.inr (.inr (.inl h3)))))
      go_wp2_with (go_at_call 120; refine Calls.mono HPr.out ?_; rintro e w' ⟨rfl, rfl⟩)
      go_ret
      exact ⟨by rw [HE.out]; rfl, HT1.out⟩
    by_cases h4 : 65535 < me
    · have HE : Hid (R = false) := Lib.hid (HBad.out (.inr (.inr (.inr (.inr h4)))))
      go_wp2_with (go_at_call 120; refine Calls.mono HPr.out ?_; rintro e w' ⟨rfl, rfl⟩)
      go_ret
      exact ⟨by rw [HE.out]; rfl, HT1.out⟩
    have hok : ¬ (true = false ∨ pr < 0 ∨ 4 < pr ∨ me < 0 ∨ 65535 < me) := by
      rintro (h | h | h | h | h)
      · cases h
      all_goals omega
    cases aw with
    | true =>
      have HE := Lib.hid (HAw.out hok rfl)
      by_cases h5 : po = 0
      · have b5 : (po == 0) = true := by simpa using h5
        have HE2 : Hid (R = Z) := Lib.hid (by rw [HE.out]; show (decide (po = 0) && Z) = Z; rw [decide_eq_true h5]; rfl)
        clear hok h5
        go_wp2_with (go_at_call 120; refine Calls.mono HPr.out ?_; rintro e w' ⟨rfl, rfl⟩)
        go_ret
        exact ⟨by rw [HE2.out]; rfl, HT1.out⟩
      · have b5 : (po == 0) = false := by simpa using h5
        have HE2 : Hid (R = false) := Lib.hid (by rw [HE.out]; show (decide (po = 0) && Z) = false; rw [decide_eq_false h5]; rfl)
        clear hok h5
        go_wp2_with (go_at_call 120; refine Calls.mono HPr.out ?_; rintro e w' ⟨rfl, rfl⟩)
        go_ret
        exact ⟨by rw [HE2.out]; rfl, HT1.out⟩
    | false =>
      by_cases h5 : po = 0
      · have b5 : (po == 0) = true := by simpa using h5
        have HE : Hid (R = _) := Lib.hid (HNn.out hok rfl h5)
        have HNc := Lib.hid (HNb.out w1)
        subst h5
        clear hok HNb
        go_wp2_with (first | (go_at_call 120; refine Calls.mono HPr.out ?_; rintro e w' ⟨rfl, rfl⟩) | (go_at_call 121; refine Calls.mono HNc.out ?_; rintro e w5 ⟨rfl, hT5⟩; have HT5 := Lib.hid hT5; clear hT5))
        go_ret
        exact ⟨by rw [HE.out]; rfl, HT1.out.trans HT5.out⟩
      · have b5 : (po == 0) = false := by simpa using h5
        have HE := Lib.hid (HPo.out hok rfl h5)
        have HE1 : Hid (R = (decide (1 ≤ po) && (decide (po ≤ 8) && (Z || nbI ((ps, ph, pl), pb) (s, ah, al) po)))) := HE
        have HNc := Lib.hid (HNb.out w1)
        clear hok HE HNb
        by_cases h6 : 0 < po
        · by_cases h7 : po ≤ 8
          · cases Z with
            | true =>
              have HE2 : Hid (R = true) := Lib.hid (by rw [HE1.out, decide_eq_true (show 1 ≤ po by omega), decide_eq_true h7]; rfl)
              clear h5
              go_wp2_with (go_at_call 120; refine Calls.mono HPr.out ?_; rintro e w' ⟨rfl, rfl⟩)
              go_ret
              exact ⟨by rw [HE2.out]; rfl, HT1.out⟩
            | false =>
              have HE2 : Hid (R = nbI ((ps, ph, pl), pb) (s, ah, al) po) := Lib.hid (by rw [HE1.out, decide_eq_true (show 1 ≤ po by omega), decide_eq_true h7]; rfl)
              clear h5
              go_wp2_with (first | (go_at_call 120; refine Calls.mono HPr.out ?_; rintro e w' ⟨rfl, rfl⟩) | (go_at_call 121; refine Calls.mono HNc.out ?_; rintro e w5 ⟨rfl, hT5⟩; have HT5 := Lib.hid hT5; clear hT5))
              go_ret
              exact ⟨by rw [HE2.out]; rfl, HT1.out.trans HT5.out⟩
          · have HE2 : Hid (R = false) := Lib.hid (by rw [HE1.out, decide_eq_false h7]; simp)
            clear h5
            go_wp2_with (go_at_call 120; refine Calls.mono HPr.out ?_; rintro e w' ⟨rfl, rfl⟩)
            go_ret
            exact ⟨by rw [HE2.out]; rfl, HT1.out⟩
        · have HE2 : Hid (R = false) := Lib.hid (by rw [HE1.out, decide_eq_false (show ¬ 1 ≤ po by omega)]; rfl)
          clear h5
          go_wp2_with (go_at_call 120; refine Calls.mono HPr.out ?_; rintro e w' ⟨rfl, rfl⟩)
          go_ret
          exact ⟨by rw [HE2.out]; rfl, HT1.out⟩
end Go.Proofs.YtgfkmgbcajdcdaaGreatDoor

namespace Go.Proofs.YtgfkmgbcajdcdaaGreatDoor
open Go.RowKit
set_option linter.unusedVariables false

set_option maxRecDepth 100000 in
set_option maxHeartbeats 4000000 in
theorem keep_any (t m : Nat) (M : List (PfI × Value)) (p : PfI) (A : Option Addr) (n c : Nat) (w : World) (hb : Blk w t 123 #[.map (some m)]) (hM : MpIs (fun p => pfR p) w m M) :
    Calls Tryz.prog 166 #[.pointer (some ⟨t, 0, none⟩), pfR p, .slice A n c] w fun e w' => e = .returned (.tuple #[]) ∧ MpIs (fun p => pfR p) w' m (if n = 0 then mpDel M p else mpPut M p (.slice A n c)) ∧ Tch w w' [m] := by
  obtain ⟨⟨ps, ph, pl⟩, pb⟩ := p
  obtain ⟨W0, hW0⟩ : ∃ W, w.alloc (.cells #[.bool ps, .int .u64 (ph : Int), .int .u64 (pl : Int), .int .i64 pb] 30) = W := ⟨_, rfl⟩
  obtain ⟨xb, hxb⟩ : ∃ xb, w.heap.size = xb := ⟨_, rfl⟩
  have hX : Blk W0 xb 30 #[.bool ps, .int .u64 (ph : Int), .int .u64 (pl : Int), .int .i64 pb] := hW0 ▸ hxb ▸ Blk.new w _ _
  have hT0 : Tch w W0 [] := hW0 ▸ (Tch.refl w []).alloc _
  have ht := ((hT0.blk hb (by simp)).cell 0).trans (show _ = some (Value.map (some m)) by rfl)
  have HM : Hid (MpIs (fun p : PfI => pfR p) W0.drew m M) := Lib.hid (hM.tch hT0.drew (by simp))
  have HT0 : Hid (Tch w W0.drew []) := Lib.hid hT0.drew
  have HCells : Hid (∀ W, Tch W0.drew W [m] → W.cell? ⟨t, 0, none⟩ = some (Value.map (some m)) ∧ W.cell? ⟨xb, 0, none⟩ = some (Value.bool ps) ∧ W.cell? ⟨xb, 1, none⟩ = some (Value.int .u64 (ph : Int)) ∧ W.cell? ⟨xb, 2, none⟩ = some (Value.int .u64 (pl : Int)) ∧ W.cell? ⟨xb, 3, none⟩ = some (Value.int .i64 pb)) := Lib.hid (fun W hT => by
    have htm : t ≠ m := fun e => by
      obtain ⟨es, clock, h1, -⟩ := hM
      unfold Blk at hb
      rw [e, h1] at hb
      cases hb
    have hlt := hM.lt
    refine ⟨((hT.blk (hT0.blk hb (by simp)).drew (by simpa using htm)).cell 0).trans rfl, ?_⟩
    exact (hT.blk hX.drew (by simp; omega)).c4)
  obtain ⟨x0, x1, x2, x3⟩ := hX.c4
  clear hX hT0 hb hM
  cases n with
  | zero =>
    rw [if_pos rfl]
    go_enter Tryz.func166, Tryz.ntmps166
    go_wp2
    go_region_law (refine step_mdel rfl keyPf (.tmp 12) (.tmp 13) 121 118 rfl Tryz.underlying121 (by simp [Act.eval]) ((ps, ph, pl), pb) (by simp [Act.eval]) HM.out ?_; intro w2 hM2 hT2 hs2; have HH := Lib.hid (And.intro hM2 hT2); clear hM2 hT2 hs2)
    all_goals
      go_wp2
      refine bodyPost_ret (results_none rfl _ _ _) rfl ?_
      exact ⟨rfl, HH.out.1, (HT0.out.mono (by simp)).trans HH.out.2⟩
  | succ k =>
    rw [if_neg (Nat.succ_ne_zero k)]
    have k0 : (((k : Int) + 1) == 0) = false := by simp; omega
    go_enter Tryz.func166, Tryz.ntmps166
    go_wp2
    refine wp_region_held_drew (S := (fun W => W.cell? ⟨t, 0, none⟩ = some (Value.map (some m)) ∧ W.cell? ⟨xb, 0, none⟩ = some (Value.bool ps) ∧ W.cell? ⟨xb, 1, none⟩ = some (Value.int .u64 (ph : Int)) ∧ W.cell? ⟨xb, 2, none⟩ = some (Value.int .u64 (pl : Int)) ∧ W.cell? ⟨xb, 3, none⟩ = some (Value.int .i64 pb))) (by kernel_rfl) ?_ (fun hHeld => ?_)
    · (first | exact HCells.out _ (Tch.refl _ _) | exact HCells.out _ HH.out.2)
    refine wpAnyH_take (i := 0) (oi := { dst := some 14, op := Go.Op.move (Go.Operand.tmp 0), type := 32, pos := "rib.go:77", after := #[], guard := none }) (v := ?_) rfl (by kernel_rfl) (by kernel_rfl) (by kernel_rfl) (fun _ _ _ h => h) (Or.inl ⟨by rfl, ?_⟩) (by assumption) ?_
    rotate_left
    · intro w hSw
      (try dsimp only at hSw)
      go_simp
      try (with_reducible rfl)
    try simp only [Act.put, List.setIfInBounds_toArray, List.set_cons_zero, List.set_cons_succ]
    refine wpAnyH_take (i := 1) (oi := { dst := some 15, op := Go.Op.nilCheck (Go.Operand.tmp 14), type := 0, pos := "rib.go:77", after := #[{ on := 0, ground := Go.Ground.data }], guard := none }) (v := ?_) rfl (by kernel_rfl) (by kernel_rfl) (by kernel_rfl) (fun _ _ _ h => h) (Or.inl ⟨by rfl, ?_⟩) (by assumption) ?_
    rotate_left
    · intro w hSw
      (try dsimp only at hSw)
      go_simp
      try (with_reducible rfl)
    try simp only [Act.put, List.setIfInBounds_toArray, List.set_cons_zero, List.set_cons_succ]
    refine wpAnyH_take (i := 2) (oi := { dst := some 16, op := Go.Op.fieldAddr 123 (Go.Operand.tmp 15) 0, type := 0, pos := "rib.go:77", after := #[{ on := 1, ground := Go.Ground.data }], guard := none }) (v := ?_) rfl (by kernel_rfl) (by kernel_rfl) (by kernel_rfl) (fun _ _ _ h => h) (Or.inl ⟨by rfl, ?_⟩) (by assumption) ?_
    rotate_left
    · intro w hSw
      (try dsimp only at hSw)
      go_simp
      try (with_reducible rfl)
    try simp only [Act.put, List.setIfInBounds_toArray, List.set_cons_zero, List.set_cons_succ]
    refine wpAnyH_take (i := 3) (oi := { dst := some 17, op := Go.Op.load 121 (Go.Operand.tmp 16), type := 121, pos := "rib.go:77", after := #[{ on := 2, ground := Go.Ground.data }], guard := none }) (v := ?_) rfl (by kernel_rfl) (by kernel_rfl) (by kernel_rfl) (fun _ _ _ h => h) (Or.inl ⟨by rfl, ?_⟩) (by assumption) ?_
    rotate_left
    · intro w hSw
      (try dsimp only at hSw)
      go_simp
      try (with_reducible rfl)
    try simp only [Act.put, List.setIfInBounds_toArray, List.set_cons_zero, List.set_cons_succ]
    refine wpAnyH_take (i := 4) (oi := { dst := some 18, op := Go.Op.load 30 (Go.Operand.tmp 4), type := 30, pos := "rib.go:77", after := #[], guard := none }) (v := ?_) rfl (by kernel_rfl) (by kernel_rfl) (by kernel_rfl) (fun _ _ _ h => h) (Or.inl ⟨by rfl, ?_⟩) (by assumption) ?_
    rotate_left
    · intro w hSw
      (try dsimp only at hSw)
      go_simp
      try (with_reducible rfl)
    try simp only [Act.put, List.setIfInBounds_toArray, List.set_cons_zero, List.set_cons_succ]
    refine wpAnyH_take (i := 5) (oi := { dst := some 19, op := Go.Op.move (Go.Operand.tmp 2), type := 118, pos := "rib.go:77", after := #[], guard := none }) (v := ?_) rfl (by kernel_rfl) (by kernel_rfl) (by kernel_rfl) (fun _ _ _ h => h) (Or.inl ⟨by rfl, ?_⟩) (by assumption) ?_
    rotate_left
    · intro w hSw
      (try dsimp only at hSw)
      go_simp
      try (with_reducible rfl)
    try simp only [Act.put, List.setIfInBounds_toArray, List.set_cons_zero, List.set_cons_succ]
    refine wpAnyH_ready (rs := [6]) (by kernel_rfl) (by simp) ?_
    refine AllReadyH.cons (o := { dst := none, op := Go.Op.mapUpdate 121 (Go.Operand.tmp 17) (Go.Operand.tmp 18) (Go.Operand.tmp 19), type := 0, pos := "rib.go:77", after := #[{ on := 3, ground := Go.Ground.data }, { on := 4, ground := Go.Ground.data }, { on := 5, ground := Go.Ground.data }, { on := 0, ground := Go.Ground.phase }, { on := 1, ground := Go.Ground.phase }, { on := 2, ground := Go.Ground.phase }, { on := 3, ground := Go.Ground.phase }, { on := 4, ground := Go.Ground.phase }, { on := 5, ground := Go.Ground.phase }], guard := none }) rfl (fun K hK => ?_) AllReadyH.nil
    rw [if_pos (by rfl)]
    refine wpo_mset keyPf (.tmp 17) (.tmp 18) (.tmp 19) 121 118 rfl Tryz.underlying121 rfl ((ps, ph, pl), pb) rfl (.slice A (k + 1) c) rfl HM.out (fun w2 hM2 hT2 hs2 => ?_)
    have HH := Lib.hid (And.intro hM2 hT2)
    clear hM2 hT2 hs2
    refine hK.out _ _ ?_ (fun hHeld => ?_)
    · (first | exact HCells.out _ (Tch.refl _ _) | exact HCells.out _ HH.out.2)
    clear hK K
    try simp only [Act.put]
    refine wpAnyH_done (by kernel_rfl) ?_ _
    go_wp2
    go_end0
    exact ⟨rfl, HH.out.1, (HT0.out.mono (by simp)).trans HH.out.2⟩
set_option maxRecDepth 100000 in
set_option maxHeartbeats 2000000 in
theorem newP (w : World) : Calls Tryz.prog 36 #[] w fun e w' => ∃ t S, e = .returned (.pointer (some ⟨t, 0, none⟩)) ∧ RbP w' t S [] ∧ Below w.heap.size w w' ∧ ∀ s ∈ S, w.heap.size ≤ s := by
  have HF : Hid (RbP ((w.alloc (.map #[] 0)).alloc (.cells #[.map (some w.heap.size)] 123)) (w.heap.size + 1) [w.heap.size + 1, w.heap.size] []) := Lib.hid (by
    have hb := Blk.new (w.alloc (.map #[] 0)) 123 #[.map (some w.heap.size)]
    rw [World.size_alloc] at hb
    refine ⟨w.heap.size, [], rfl, by simp, hb, ⟨#[], 0, ?_, rfl, by simp, by simp, by simp⟩, by simp, fun p hp => by simp [pathsI] at hp, InvB.nil, by simp⟩
    exact (MapKept.heap_alloc _ _).2 _ (by simp) |>.trans (MapKept.heap_alloc w _).1)
  have HB : Hid (Below w.heap.size w ((w.alloc (.map #[] 0)).alloc (.cells #[.map (some w.heap.size)] 123))) := Lib.hid (((Below.refl _ w).alloc (Nat.le_refl _) _).alloc (by simp) _)
  have hmm := @run_makeMap Tryz.prog
  go_enter Tryz.func36, Tryz.ntmps36
  go_wp2
  go_ret
  exact ⟨_, _, rfl, HF.out, HB.out, by simp⟩
end Go.Proofs.YtgfkmgbcajdcdaaGreatDoor

namespace Go.Proofs.YtgfkmgbcajdcdaaGreatDoor
open Go.RowKit
set_option linter.unusedVariables false

section
variable {w : World} {t m : Nat} {M : List (PfI × Value)} {S : List Nat} {L : List TdI}
/-- What a look-up answers in a world in which nothing has turned. -/
theorem RpM.look (h : RpM w t m M S L) (p : PfI) : ∃ A c, mpV M p nilS = .slice A (pathsI L p).length c ∧ w.ownsRow 0 49 7 (.slice A (pathsI L p).length c) (pathsI L p).length ((pathsI L p).flatMap paC) ∧
    ∀ W, Tch w W [] → (Instr.lookup 121 (.map (some m)) (pfR p) false).run Tryz.prog W = .ok (.slice A (pathsI L p).length c) W := by
  obtain ⟨A, c, e, ho⟩ := h.at_ p
  refine ⟨A, c, e, ho, fun W hT => ?_⟩
  have := (h.mp.tch hT (by simp)).lookup keyPf Tryz.underlying121 (zeroPas W) p
  rw [e] at this
  exact this
/-- A prefix's row cut short, then kept. -/
theorem RpM.kept {L' : List TdI} {p : PfI} {w3 w4 : World} {g c n : Nat} {l : List PaI} (h : RpM w t m M S L) (he : mpV M p nilS = .slice (some ⟨g, 0, none⟩) (pathsI L p).length c) (hT : Tch w w3 [g]) (hp : pathsI L' p = l) (hn : l.length = n) (ho : w3.ownsRow 0 49 7 (.slice (some ⟨g, 0, none⟩) n c) n (l.flatMap paC))
    (hq : ∀ q, ¬ q = p → pathsI L' q = pathsI L q) (hI : InvB L') (hok : ∀ u ∈ L', PfOk u.1 ∧ PaOk u.2) (hM : MpIs (fun p => pfR p) w4 m (if n = 0 then mpDel M p else mpPut M p (.slice (some ⟨g, 0, none⟩) n c))) (hT2 : Tch w3 w4 [m]) : ∃ S', RbP w4 t S' L' ∧ Goes w w4 S S' := by
  have hT' : Tch w w3 (obI (mpV M p nilS)) := by rw [he]; exact hT
  by_cases h0 : n = 0
  · rw [if_pos h0] at hM
    exact h.del_ hT' (by rw [hp, hn, h0]) hq hI hok hM hT2
  · rw [if_neg h0] at hM
    refine h.set_ hT' ⟨some ⟨g, 0, none⟩, c, by rw [hp, hn], by rw [hp, hn]; exact ho⟩ (by rw [hp, hn]; omega) (fun s hs => .inl (by rw [he]; exact hs)) hq hI hok hM hT2
theorem RpM.near (h : RpM w t m M S L) {p : PfI} {g n c : Nat} (he : mpV M p nilS = .slice (some ⟨g, 0, none⟩) n c) : g ≠ t ∧ g ≠ m ∧ g < w.heap.size := by
  have := h.sub_ p g (by rw [he]; simp [obI, Value.ownBlock])
  exact ⟨this.2.1, this.2.2, h.lt g this.1⟩
end
set_option maxRecDepth 100000 in
set_option maxHeartbeats 4000000 in
theorem dropP (t : Nat) (S : List Nat) (L : List TdI) (p : PfI) (x : PaI) (hp : PfOk p) (hx : PaOk x) (w : World) (h : RbP w t S L) :
    Calls Tryz.prog 126 #[.pointer (some ⟨t, 0, none⟩), pfR p, paR x] w fun e w' => e = .returned (.int .i64 (dropR L p x).2) ∧ ∃ S', RbP w' t S' (dropR L p x).1 ∧ Goes w w' S S' := by
  have HP := Lib.hid h
  obtain ⟨m, M, hr⟩ := h
  obtain ⟨A, c, he, ho, hlk⟩ := hr.look p
  have hW := way_row L p x
  have hI := hr.inv.drop p x
  have hok : ∀ u ∈ (dropR L p x).1, PfOk u.1 ∧ PaOk u.2 := fun u hu => hr.ok u (by
    unfold dropR at hu
    split at hu
    · exact hu
    · exact (List.eraseIdx_sublist _ _).subset hu)
  obtain ⟨D, hD⟩ : ∃ D, dropR L p x = D := ⟨_, rfl⟩
  have hn4 := hr.inv.four p
  obtain ⟨l, hl⟩ : ∃ l, pathsI L p = l := ⟨_, rfl⟩
  obtain ⟨n, hn⟩ : ∃ n, l.length = n := ⟨_, rfl⟩
  obtain ⟨k, hk⟩ : ∃ k, fndI (fun y => sameW x y) l = k := ⟨_, rfl⟩
  have hkn : k ≤ n := by rw [← hk, ← hn]; exact fndI_le _ _
  rw [hl, hk] at hW
  rw [hl, hn] at he ho hlk hn4
  rw [hD] at hI hok ⊢
  have HFind := Lib.hid (fun W (hT : Tch w W []) => find_any x A n c l hn (by omega) W (own_tch ho hT (by simp)))
  rw [hk] at HFind
  have H0 : Hid (k = 0 → D = (L, 142)) := Lib.hid (fun e => by rw [← hD]; unfold dropR; rw [if_pos (hW.1.2 e)])
  have H1 : Hid (∀ j, k = j + 1 → D.2 = 0 ∧ pathsI D.1 p = l.eraseIdx j ∧ ∀ q, ¬ q = p → pathsI D.1 q = pathsI L q) := Lib.hid (fun j e => by
    have hw0 : ¬ wayI L p x = 0 := fun h => by have := hW.1.1 h; omega
    obtain ⟨w1, w2⟩ := hW.2 hw0
    rw [e, Nat.add_sub_cancel] at w1
    rw [← hD]
    unfold dropR
    rw [if_neg hw0]
    exact ⟨rfl, w1, w2⟩)
  have HFin : Hid (∀ g j w3 w4, A = some ⟨g, 0, none⟩ → k = j + 1 → j < n → Tch w w3 [g] → w3.ownsRow 0 49 7 (.slice (some ⟨g, 0, none⟩) (n - 1) c) (n - 1) ((l.eraseIdx j).flatMap paC) → MpIs (fun p => pfR p) w4 m (if n - 1 = 0 then mpDel M p else mpPut M p (.slice (some ⟨g, 0, none⟩) (n - 1) c)) → Tch w3 w4 [m] → ∃ S', RbP w4 t S' D.1 ∧ Goes w w4 S S') := Lib.hid (fun g j w3 w4 hA hj hjn h1 h2 h3 h4 => by
    obtain ⟨-, e2, e3⟩ := H1.out j hj
    exact hr.kept (by rw [he, hl, hn, hA]) h1 e2 (by rw [List.length_eraseIdx, if_pos (by rw [hn]; exact hjn), hn]) h2 e3 hI hok h3 h4)
  have HKeep : Hid (∀ g w3 (B : Option Addr) (n' c' : Nat), A = some ⟨g, 0, none⟩ → Tch w w3 [g] → Calls Tryz.prog 166 #[.pointer (some ⟨t, 0, none⟩), pfR p, .slice B n' c'] w3 fun e w' => e = .returned (.tuple #[]) ∧ MpIs (fun p => pfR p) w' m (if n' = 0 then mpDel M p else mpPut M p (.slice B n' c')) ∧ Tch w3 w' [m]) := Lib.hid (fun g w3 B n' c' hA hT => by
    have hg := hr.near (by rw [he, hA])
    exact keep_any t m M p B n' c' w3 (hT.blk hr.bt (by simpa using hg.1.symm)) (hr.mp.tch hT (by simpa using hg.2.1.symm)))
  have HDel := Lib.hid (fun g j W (hj : j < n) (hT : Tch w W []) (hA : A = some ⟨g, 0, none⟩) => delete_pa g n c j l hn (by omega) hj W (by have := own_tch ho hT (by simp); rw [hA] at this; exact this))
  have HG : Hid (∀ g, A = some ⟨g, 0, none⟩ → g < w.heap.size) := Lib.hid (fun g hA => (hr.near (by rw [he, hA])).2.2)
  have HM : Hid (m < w.heap.size) := Lib.hid hr.mp.lt
  have HSl : Hid (0 < n → ∃ g, A = some ⟨g, 0, none⟩) := Lib.hid (fun h0 => slice_some ho h0)
  obtain ⟨⟨ps, ph, pl⟩, pb⟩ := p
  obtain ⟨pr, me, ⟨vs, vh, vl⟩, po, aw⟩ := x
  obtain ⟨W0, hW0⟩ : ∃ W, (w.alloc (.cells #[.bool ps, .int .u64 (ph : Int), .int .u64 (pl : Int), .int .i64 pb] 30)).alloc (.cells #[.int .i64 pr, .int .i64 me, .bool vs, .int .u64 (vh : Int), .int .u64 (vl : Int), .int .i64 po, .bool aw] 49) = W := ⟨_, rfl⟩
  obtain ⟨xb, hxb⟩ : ∃ xb, w.heap.size = xb := ⟨_, rfl⟩
  obtain ⟨yb, hyb⟩ : ∃ yb, xb + 1 = yb := ⟨_, rfl⟩
  have hX : Blk W0 xb 30 #[.bool ps, .int .u64 (ph : Int), .int .u64 (pl : Int), .int .i64 pb] := hW0 ▸ hxb ▸ (Blk.new w _ _).alloc _
  have hY : Blk W0 yb 49 #[.int .i64 pr, .int .i64 me, .bool vs, .int .u64 (vh : Int), .int .u64 (vl : Int), .int .i64 po, .bool aw] := by
    have := Blk.new (w.alloc (.cells #[.bool ps, .int .u64 (ph : Int), .int .u64 (pl : Int), .int .i64 pb] 30)) 49 #[.int .i64 pr, .int .i64 me, .bool vs, .int .u64 (vh : Int), .int .u64 (vl : Int), .int .i64 po, .bool aw]
    rw [World.size_alloc, hxb, hyb, hW0] at this
    exact this
  have hT0 : Tch w W0 [] := hW0 ▸ ((Tch.refl w []).alloc _).alloc _
  have HT0 := Lib.hid hT0
  have ht := ((hT0.blk hr.bt (by simp)).cell 0).trans (show _ = some (Value.map (some m)) by rfl)
  have HX := Lib.hid hX
  have HY := Lib.hid hY
  have HCells : Hid (∀ W T, Tch W0 W T → (∀ s ∈ T, s < xb) → W.cell? ⟨xb, 0, none⟩ = some (Value.bool ps) ∧ W.cell? ⟨xb, 1, none⟩ = some (Value.int .u64 (ph : Int)) ∧ W.cell? ⟨xb, 2, none⟩ = some (Value.int .u64 (pl : Int)) ∧ W.cell? ⟨xb, 3, none⟩ = some (Value.int .i64 pb)) := Lib.hid (fun W T hT hs => (hT.blk hX (fun hm => by have := hs _ hm; omega)).c4)
  have hlk0 : ∀ q, (Instr.lookup 121 (.map (some m)) (.agg #[.bool ps, .int .u64 (ph : Int), .int .u64 (pl : Int), .int .i64 pb]) false).run Tryz.prog (W0.drewN q) = .ok (.slice A n c) (W0.drewN q) := fun q => hlk _ (hT0.drewN q)
  rw [hxb] at HG HM
  obtain ⟨x0, x1, x2, x3⟩ := hX.c4
  clear hX hY hT0 hr hlk he ho hW hI hok hD hl hn hk hp hx
  go_enter Tryz.func126, Tryz.ntmps126
  go_wp2
  go_quiet (fail)
  obtain ⟨W1, hW1⟩ : ∃ W1, W0.drewN nq = W1 := ⟨_, rfl⟩
  rw [hW1]
  have hT01 : Tch W0 W1 [] := hW1 ▸ (Tch.refl W0 []).drewN nq
  have HT01 := Lib.hid hT01
  have HT1 := Lib.hid (HT0.out.trans hT01)
  obtain ⟨y0, y1, y2, y3, y4, y5, y6⟩ := (hT01.blk HY.out (by simp)).p7
  clear hT01 x0 x1 x2 x3 ht hlk0 hW1
  go_wp2_with fail
  refine Calls.mono (HFind.out W1 HT1.out) ?_
  rintro e w2 ⟨rfl, hT⟩
  have HT2 := Lib.hid (HT1.out.trans hT)
  have HT02 := Lib.hid (HT01.out.trans hT)
  clear hT y0 y1 y2 y3 y4 y5 y6
  rcases Nat.eq_zero_or_pos k with h0 | h0
  · subst h0
    have i0 : ((0 : Nat) : Int) - 1 < 0 := by omega
    have HD := Lib.hid (H0.out rfl)
    go_wp2
    go_ret
    rw [HD.out]
    exact ⟨rfl, S, HP.out.tch HT2.out (by simp), Goes.of_tch (HT2.out.mono (by simp))⟩
  · obtain ⟨j, rfl⟩ : ∃ j, k = j + 1 := ⟨k - 1, by omega⟩
    have e0 : ((j + 1 : Nat) : Int) - 1 = (j : Int) := by omega
    rw [e0]
    have i0 : ¬ (j : Int) < 0 := by omega
    have i1 : IntKind.i64.wrap ((j : Int) + 1) = (j : Int) + 1 := by rw [IntKind.wrap_i64]; omega
    have hjn : j < n := by omega
    obtain ⟨g, rfl⟩ := HSl.out (by omega)
    have HDc := Lib.hid (HDel.out g j w2.drew hjn HT2.out.drew rfl)
    have Hgl := Lib.hid (HG.out g rfl)
    have HT2d := Lib.hid HT2.out.drew
    have HX2 := Lib.hid (HCells.out _ [] HT02.out (by simp))
    have HX2d := Lib.hid (HCells.out _ [] HT02.out.drew (by simp))
    obtain ⟨x0, x1, x2, x3⟩ := HX2.out
    have HJ := Lib.hid hjn
    have HK1 := Lib.hid (H1.out j rfl).1
    clear e0 h0 hkn hjn hn4
    go_wp2
    refine wp_region_held_drew (S := (fun W => W.cell? ⟨xb, 0, none⟩ = some (Value.bool ps) ∧ W.cell? ⟨xb, 1, none⟩ = some (Value.int .u64 (ph : Int)) ∧ W.cell? ⟨xb, 2, none⟩ = some (Value.int .u64 (pl : Int)) ∧ W.cell? ⟨xb, 3, none⟩ = some (Value.int .i64 pb))) (by kernel_rfl) ?_ (fun hHeld => ?_)
    · (first | exact HX2.out | exact HX2d.out | exact HX4.out | exact HX3.out)
    refine wpAnyH_take (i := 0) (oi := { dst := some 20, op := Go.Op.move (Go.Operand.tmp 0), type := 32, pos := "rib.go:57", after := #[], guard := none }) (v := ?_) rfl (by kernel_rfl) (by kernel_rfl) (by kernel_rfl) (fun _ _ _ h => h) (Or.inl ⟨by rfl, ?_⟩) (by assumption) ?_
    rotate_left
    · intro w hSw
      (try dsimp only at hSw)
      go_simp
      try (with_reducible rfl)
    try simp only [Act.put, List.setIfInBounds_toArray, List.set_cons_zero, List.set_cons_succ]
    refine wpAnyH_take (i := 1) (oi := { dst := some 21, op := Go.Op.load 30 (Go.Operand.tmp 4), type := 30, pos := "rib.go:57", after := #[], guard := none }) (v := ?_) rfl (by kernel_rfl) (by kernel_rfl) (by kernel_rfl) (fun _ _ _ h => h) (Or.inl ⟨by rfl, ?_⟩) (by assumption) ?_
    rotate_left
    · intro w hSw
      (try dsimp only at hSw)
      go_simp
      try (with_reducible rfl)
    try simp only [Act.put, List.setIfInBounds_toArray, List.set_cons_zero, List.set_cons_succ]
    refine wpAnyH_take (i := 2) (oi := { dst := some 22, op := Go.Op.move (Go.Operand.tmp 7), type := 118, pos := "rib.go:57", after := #[], guard := none }) (v := ?_) rfl (by kernel_rfl) (by kernel_rfl) (by kernel_rfl) (fun _ _ _ h => h) (Or.inl ⟨by rfl, ?_⟩) (by assumption) ?_
    rotate_left
    · intro w hSw
      (try dsimp only at hSw)
      go_simp
      try (with_reducible rfl)
    try simp only [Act.put, List.setIfInBounds_toArray, List.set_cons_zero, List.set_cons_succ]
    refine wpAnyH_take (i := 3) (oi := { dst := some 23, op := Go.Op.move (Go.Operand.tmp 8), type := 3, pos := "rib.go:57", after := #[], guard := none }) (v := ?_) rfl (by kernel_rfl) (by kernel_rfl) (by kernel_rfl) (fun _ _ _ h => h) (Or.inl ⟨by rfl, ?_⟩) (by assumption) ?_
    rotate_left
    · intro w hSw
      (try dsimp only at hSw)
      go_simp
      try (with_reducible rfl)
    try simp only [Act.put, List.setIfInBounds_toArray, List.set_cons_zero, List.set_cons_succ]
    refine wpAnyH_take (i := 4) (oi := { dst := some 24, op := Go.Op.move (Go.Operand.tmp 8), type := 3, pos := "rib.go:57", after := #[], guard := none }) (v := ?_) rfl (by kernel_rfl) (by kernel_rfl) (by kernel_rfl) (fun _ _ _ h => h) (Or.inl ⟨by rfl, ?_⟩) (by assumption) ?_
    rotate_left
    · intro w hSw
      (try dsimp only at hSw)
      go_simp
      try (with_reducible rfl)
    try simp only [Act.put, List.setIfInBounds_toArray, List.set_cons_zero, List.set_cons_succ]
    refine wpAnyH_take (i := 5) (oi := { dst := some 25, op := Go.Op.binOp Go.BinOp.add 3 (Go.Operand.tmp 24) (Go.Operand.const (Go.Value.int Go.IntKind.i64 1)) 3, type := 3, pos := "rib.go:57", after := #[{ on := 4, ground := Go.Ground.data }], guard := none }) (v := ?_) rfl (by kernel_rfl) (by kernel_rfl) (by kernel_rfl) (fun _ _ _ h => h) (Or.inl ⟨by rfl, ?_⟩) (by assumption) ?_
    rotate_left
    · intro w hSw
      (try dsimp only at hSw)
      go_simp
      try (with_reducible rfl)
    try simp only [Act.put, List.setIfInBounds_toArray, List.set_cons_zero, List.set_cons_succ]
    refine wpAnyH_ready (rs := [6]) (by kernel_rfl) (by simp) ?_
    refine AllReadyH.cons (o := { dst := some 26, op := Go.Op.call { callee := Go.Callee.value (Go.Operand.func 82), args := #[Go.Operand.tmp 22, Go.Operand.tmp 23, Go.Operand.tmp 25], argTypes := #[118, 3, 3] }, type := 118, pos := "rib.go:57", after := #[{ on := 2, ground := Go.Ground.data }, { on := 3, ground := Go.Ground.data }, { on := 5, ground := Go.Ground.data }], guard := none }) rfl (fun K hK => ?_) AllReadyH.nil
    go_simp
    (go_at_call 82; (with_reducible refine Calls.mono HDc.out ?_); rintro e w3 ⟨rfl, ho3, hT3⟩; have HO3 := Lib.hid ho3; have HT3 := Lib.hid ((HT2d.out.mono (by simp)).trans hT3); have HX3 := Lib.hid (HCells.out _ [g] ((HT02.out.drew.mono (by simp)).trans hT3) (by simp; exact Hgl.out)); have HKc := Lib.hid (HKeep.out g w3 (some ⟨g, 0, none⟩) (n - 1) c rfl HT3.out); have HT30 := Lib.hid ((HT02.out.drew.mono (T := [g]) (by simp)).trans hT3); clear ho3 hT3)
    go_wp2_with fail
    refine hK.out _ _ ?_ (fun hHeld => ?_)
    · (first | exact HX2.out | exact HX2d.out | exact HX4.out | exact HX3.out)
    clear hK K
    try simp only [Act.put, List.setIfInBounds_toArray, List.set_cons_zero, List.set_cons_succ]
    refine wpAnyH_ready (rs := [7]) (by kernel_rfl) (by simp) ?_
    refine AllReadyH.cons (o := { dst := some 27, op := Go.Op.call { callee := Go.Callee.value (Go.Operand.func 166), args := #[Go.Operand.tmp 20, Go.Operand.tmp 21, Go.Operand.tmp 26], argTypes := #[32, 30, 118] }, type := 0, pos := "rib.go:57", after := #[{ on := 0, ground := Go.Ground.data }, { on := 1, ground := Go.Ground.data }, { on := 6, ground := Go.Ground.data }, { on := 6, ground := Go.Ground.chain }], guard := none }) rfl (fun K hK => ?_) AllReadyH.nil
    go_simp
    (go_at_call 166; (with_reducible refine Calls.mono HKc.out ?_); rintro e w4 ⟨rfl, hM4, hT4⟩; have HX4 := Lib.hid (HCells.out _ [g, m] ((HT30.out.mono (by simp)).trans (hT4.mono (by simp))) (by simp; exact ⟨Hgl.out, HM.out⟩)); have HF := Lib.hid (HFin.out g j w3 w4 rfl rfl HJ.out HT3.out HO3.out hM4 hT4); clear hM4 hT4)
    go_wp2_with fail
    refine hK.out _ _ ?_ (fun hHeld => ?_)
    · (first | exact HX2.out | exact HX2d.out | exact HX4.out | exact HX3.out)
    clear hK K
    try simp only [Act.put, List.setIfInBounds_toArray, List.set_cons_zero, List.set_cons_succ]
    refine wpAnyH_done (by kernel_rfl) ?_ _
    go_wp2
    go_ret
    obtain ⟨S', r1, r2⟩ := HF.out
    exact ⟨by rw [HK1.out]; rfl, S', r1, r2⟩
end Go.Proofs.YtgfkmgbcajdcdaaGreatDoor
