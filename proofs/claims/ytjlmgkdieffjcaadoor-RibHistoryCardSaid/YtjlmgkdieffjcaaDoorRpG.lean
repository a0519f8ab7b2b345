/-
  The program's own rib (layer 15): isNeighbour, isValid.
-/
import Derived.Test.YtjlmgkdieffjcaaDoorRpF
import Derived.Test.YtjlmgkdieffjcaaDoorECls
import Derived.Test.YtjlmgkdieffjcaaDoorMgP
namespace Go.Proofs.YtjlmgkdieffjcaaDoor
open Go.RowKit
set_option linter.unusedVariables false

theorem bne_bool (a b : Bool) : (a != b) = !decide (a = b) := by cases a <;> cases b <;> rfl
set_option maxRecDepth 100000 in
set_option maxHeartbeats 2000000 in
theorem nb_any (p : PfI) (x : PaI) (ha : N64 x.2.2.1.2.1 ∧ N64 x.2.2.1.2.2) (w : World) : Calls Tryd.prog 52 #[pfR p, paR x] w fun e w' => e = .returned (.bool (nbI p x.2.2.1 x.2.2.2.1)) ∧ Tch w w' [] := by
  obtain ⟨R, hR⟩ : ∃ R, nbI p x.2.2.1 x.2.2.2.1 = R := ⟨_, rfl⟩
  rw [hR]
  unfold nbI at hR
  obtain ⟨c, hc⟩ : ∃ c, clsR x.2.2.1 = c := ⟨_, rfl⟩
  rw [hc] at hR
  obtain ⟨⟨ps, ph, pl⟩, pb⟩ := p
  obtain ⟨pr, me, ⟨s, ah, al⟩, po, aw⟩ := x
  have ha : N64 ah ∧ N64 al := ha
  have hc' : clsV s (ah : Int) (al : Int) = c := hc
  have HC := Lib.hid (fun W => class_at s (ah : Int) (al : Int) (by unfold U6; have := ha.1; unfold N64 at this; omega) (by unfold U6; have := ha.2; unfold N64 at this; omega) hc' W)
  have hR : (decide (s = ps) && (decide (c = 5) || (decide (c = 2) && !decide (po = 0)))) = R := hR
  obtain ⟨W2, hW2⟩ : ∃ W2, (w.alloc (.cells #[.bool ps, .int .u64 (ph : Int), .int .u64 (pl : Int), .int .i64 pb] 37)).alloc (.cells #[.int .i64 pr, .int .i64 me, .bool s, .int .u64 (ah : Int), .int .u64 (al : Int), .int .i64 po, .bool aw] 26) = W2 := ⟨_, rfl⟩
  obtain ⟨xb, hxb⟩ : ∃ xb, w.heap.size = xb := ⟨_, rfl⟩
  obtain ⟨yb, hyb⟩ : ∃ yb, xb + 1 = yb := ⟨_, rfl⟩
  have hX : Blk W2 xb 37 #[.bool ps, .int .u64 (ph : Int), .int .u64 (pl : Int), .int .i64 pb] := hW2 ▸ hxb ▸ (Blk.new w _ _).alloc _
  have hY : Blk W2 yb 26 #[.int .i64 pr, .int .i64 me, .bool s, .int .u64 (ah : Int), .int .u64 (al : Int), .int .i64 po, .bool aw] := by
    have := Blk.new (w.alloc (.cells #[.bool ps, .int .u64 (ph : Int), .int .u64 (pl : Int), .int .i64 pb] 37)) 26 #[.int .i64 pr, .int .i64 me, .bool s, .int .u64 (ah : Int), .int .u64 (al : Int), .int .i64 po, .bool aw]
    rw [World.size_alloc, hxb, hyb, hW2] at this
    exact this
  have HX := Lib.hid hX
  have HY := Lib.hid hY
  have HT2 : Hid (Tch w W2 []) := Lib.hid (hW2 ▸ ((Tch.refl w []).alloc _).alloc _)
  have HW2 := Lib.hid (And.intro hW2 (And.intro hxb hyb))
  have HR := Lib.hid hR
  have hcs : (s = ps ∧ c = 5) ∨ (s = ps ∧ c = 2) ∨ (s = ps ∧ ¬ c = 5 ∧ ¬ c = 2) ∨ ¬ s = ps := by
    by_cases e : s = ps
    · by_cases e5 : c = 5
      · exact .inl ⟨e, e5⟩
      · by_cases e2 : c = 2
        · exact .inr (.inl ⟨e, e2⟩)
        · exact .inr (.inr (.inl ⟨e, e5, e2⟩))
    · exact .inr (.inr (.inr e))
  obtain ⟨x0, x1, x2, x3⟩ := hX.c4
  obtain ⟨y0, y1, y2, y3, y4, y5, y6⟩ := hY.p7
  clear hc hc' ha hX hY hR
  by_cases hs : s = ps
  · subst hs
    have be : (s != s) = false := by simp
    have HY' := HY.out
    go_enter Tryd.func52, Tryd.ntmps52
    go_wp2_with fail
    refine Calls.mono (HC.out _) ?_
    rintro e w1 ⟨rfl, hb1⟩
    have hT1 := Tch.of_below [] hb1
    have z5 := ((hT1.blk HY.out (by simp)).cell 5).trans (show _ = some (Value.int .i64 po) by rfl)
    have HT1 := Lib.hid (HT2.out.trans hT1)
    clear hb1 hT1 x0 x1 x2 x3 y0 y1 y2 y3 y4 y5 y6 HY'
    rcases hcs with ⟨-, rfl⟩ | ⟨-, rfl⟩ | ⟨-, h5, h2⟩ | hs
    · have HE : Hid (R = true) := Lib.hid (by rw [← HR.out]; simp)
      go_wp2
      go_ret
      exact ⟨by rw [HE.out]; rfl, HT1.out⟩
    · have HE : Hid (R = (po != 0)) := Lib.hid (by rw [← HR.out]; by_cases e : po = 0 <;> simp [e])
      go_wp2
      go_ret
      exact ⟨by rw [HE.out]; rfl, HT1.out⟩
    · have b5 : (c == 5) = false := by simpa using h5
      have b2 : (c == 2) = false := by simpa using h2
      have HE : Hid (R = false) := Lib.hid (by rw [← HR.out, decide_eq_false h5, decide_eq_false h2]; simp)
      clear h5 h2
      go_wp2
      go_ret
      exact ⟨by rw [HE.out]; rfl, HT1.out⟩
    · exact (hs trivial).elim
  · have HE : Hid (R = false) := Lib.hid (by rw [← HR.out, decide_eq_false hs]; rfl)
    clear hcs
    cases s <;> cases ps
    all_goals first
      | exact absurd rfl hs
      | (clear hs
         go_enter Tryd.func52, Tryd.ntmps52
         go_wp2
         go_ret
         exact ⟨by rw [HE.out]; rfl, HT2.out⟩)
set_option maxRecDepth 100000 in
set_option maxHeartbeats 4000000 in
theorem valid_p (p : PfI) (x : PaI) (hp : N64 p.1.2.1 ∧ N64 p.1.2.2) (hx : N64 x.2.2.1.2.1 ∧ N64 x.2.2.1.2.2) (w : World) : Calls Tryd.prog 32 #[pfR p, paR x] w fun e w' => e = .returned (.bool (rightI p x)) ∧ Tch w w' [] := by
  obtain ⟨V, hV⟩ : ∃ V, pvI p = V := ⟨_, rfl⟩
  have HV := Lib.hid (fun W => pvalid_at p.1.1 p.1.2.1 p.1.2.2 p.2 hp.1 hp.2 hV W)
  have HNb := Lib.hid (fun W => nb_any p x hx W)
  obtain ⟨Z, hZ⟩ : ∃ Z, decide (x.2.2.1 = zeroA) = Z := ⟨_, rfl⟩
  have HQ := eqA_eql 24 _ _ (eq_adR x.2.2.1 zeroA hZ)
  have HBad := Lib.hid (right_bad (p := p) (x := x))
  have HAw := Lib.hid (right_away (p := p) (x := x))
  have HNn := Lib.hid (right_nb (p := p) (x := x))
  have HPo := Lib.hid (right_po (p := p) (x := x))
  rw [hV] at HBad HAw HNn HPo
  rw [hZ] at HAw HPo
  obtain ⟨R, hR⟩ : ∃ R, rightI p x = R := ⟨_, rfl⟩
  rw [hR] at HBad HAw HNn HPo ⊢
  obtain ⟨⟨ps, ph, pl⟩, pb⟩ := p
  obtain ⟨pr, me, ⟨s, ah, al⟩, po, aw⟩ := x
  have HQ : ∀ W, (binOp .eql 24 (.agg #[.bool s, .int .u64 (ah : Int), .int .u64 (al : Int)]) (.agg #[.bool false, .int .u64 0, .int .u64 0])).run Tryd.prog W = .ok (.bool Z) W := HQ
  obtain ⟨W2, hW2⟩ : ∃ W2, (w.alloc (.cells #[.bool ps, .int .u64 (ph : Int), .int .u64 (pl : Int), .int .i64 pb] 37)).alloc (.cells #[.int .i64 pr, .int .i64 me, .bool s, .int .u64 (ah : Int), .int .u64 (al : Int), .int .i64 po, .bool aw] 26) = W2 := ⟨_, rfl⟩
  obtain ⟨xb, hxb⟩ : ∃ xb, w.heap.size = xb := ⟨_, rfl⟩
  obtain ⟨yb, hyb⟩ : ∃ yb, xb + 1 = yb := ⟨_, rfl⟩
  have hX : Blk W2 xb 37 #[.bool ps, .int .u64 (ph : Int), .int .u64 (pl : Int), .int .i64 pb] := hW2 ▸ hxb ▸ (Blk.new w _ _).alloc _
  have hY : Blk W2 yb 26 #[.int .i64 pr, .int .i64 me, .bool s, .int .u64 (ah : Int), .int .u64 (al : Int), .int .i64 po, .bool aw] := by
    have := Blk.new (w.alloc (.cells #[.bool ps, .int .u64 (ph : Int), .int .u64 (pl : Int), .int .i64 pb] 37)) 26 #[.int .i64 pr, .int .i64 me, .bool s, .int .u64 (ah : Int), .int .u64 (al : Int), .int .i64 po, .bool aw]
    rw [World.size_alloc, hxb, hyb, hW2] at this
    exact this
  have HX := Lib.hid hX
  have HY := Lib.hid hY
  have HT2 : Hid (Tch w W2 []) := Lib.hid (hW2 ▸ ((Tch.refl w []).alloc _).alloc _)
  obtain ⟨x0, x1, x2, x3⟩ := hX.c4
  clear hp hx hV hZ hR hX hY
  go_enter Tryd.func32, Tryd.ntmps32
  go_wp2_with fail
  refine Calls.mono (HV.out _) ?_
  rintro e w1 ⟨rfl, hb1⟩
  have hT1 := Tch.of_below [] hb1
  have hX1 := hT1.blk HX.out (by simp)
  have hY1 := hT1.blk HY.out (by simp)
  have HT1 := Lib.hid (HT2.out.trans hT1)
  obtain ⟨y0, y1, y2, y3, y4, y5, y6⟩ := hY1.p7
  clear x0 x1 x2 x3 hW2 hxb hyb
  obtain ⟨x0, x1, x2, x3⟩ := hX1.c4
  clear hb1 hT1 hX1 hY1
  cases V with
  | false =>
    have HE : Hid (R = false) := Lib.hid (HBad.out (.inl rfl))
    go_wp2
    go_ret
    exact ⟨by rw [HE.out]; rfl, HT1.out⟩
  | true =>
    by_cases h1 : 0 ≤ pr ∧ pr < 5
    case neg =>
      have HE : Hid (R = false) := Lib.hid (HBad.out (by
        by_cases h : pr < 0
        · exact .inr (.inl h)
        · exact .inr (.inr (.inl (by omega)))))
      have HPr := Lib.hid (isProto_at pr (b := false) (by by_cases h0 : 0 ≤ pr <;> by_cases h5 : pr < 5 <;> simp [h0, h5]; exact h1 ⟨h0, h5⟩) w1)
      clear h1
      go_wp2_with (go_at_call 51; refine Calls.mono HPr.out ?_; rintro e w' ⟨rfl, rfl⟩)
      go_ret
      exact ⟨by rw [HE.out]; rfl, HT1.out⟩
    have HPr := Lib.hid (isProto_at pr (b := true) (by simp [h1.1, h1.2]) w1)
    by_cases h3 : me < 0
    · have HE : Hid (R = false) := Lib.hid (HBad.out (.inr (.inr (.inr (.inl h3)))))
      go_wp2_with (go_at_call 51; refine Calls.mono HPr.out ?_; rintro e w' ⟨rfl, rfl⟩)
      go_ret
      exact ⟨by rw [HE.out]; rfl, HT1.out⟩
    by_cases h4 : 65535 < me
    · have HE : Hid (R = false) := Lib.hid (HBad.out (.inr (.inr (.inr (.inr h4)))))
      go_wp2_with (go_at_call 51; refine Calls.mono HPr.out ?_; rintro e w' ⟨rfl, rfl⟩)
      go_ret
      exact ⟨by rw [HE.out]; rfl, HT1.out⟩
    have hok : ¬ (true = false ∨ pr < 0 ∨ 4 < pr ∨ me < 0 ∨ 65535 < me) := by
      rintro (h | h | h | h | h)
      · cases h
      all_goals omega
    cases aw with
    | true =>
      have HE := Lib.hid (HAw.out hok rfl)
      by_cases h5 : po = 0
      · have b5 : (po == 0) = true := by simpa using h5
        have HE2 : Hid (R = Z) := Lib.hid (by rw [HE.out]; show (decide (po = 0) && Z) = Z; rw [decide_eq_true h5]; rfl)
        clear hok h5
        go_wp2_with (go_at_call 51; refine Calls.mono HPr.out ?_; rintro e w' ⟨rfl, rfl⟩)
        go_ret
        exact ⟨by rw [HE2.out]; rfl, HT1.out⟩
      · have b5 : (po == 0) = false := by simpa using h5
        have HE2 : Hid (R = false) := Lib.hid (by rw [HE.out]; show (decide (po = 0) && Z) = false; rw [decide_eq_false h5]; rfl)
        clear hok h5
        go_wp2_with (go_at_call 51; refine Calls.mono HPr.out ?_; rintro e w' ⟨rfl, rfl⟩)
        go_ret
        exact ⟨by rw [HE2.out]; rfl, HT1.out⟩
    | false =>
      by_cases h5 : po = 0
      · have b5 : (po == 0) = true := by simpa using h5
        have HE : Hid (R = _) := Lib.hid (HNn.out hok rfl h5)
        have HNc := Lib.hid (HNb.out w1)
        subst h5
        clear hok HNb
        go_wp2_with (first | (go_at_call 51; refine Calls.mono HPr.out ?_; rintro e w' ⟨rfl, rfl⟩) | (go_at_call 52; refine Calls.mono HNc.out ?_; rintro e w5 ⟨rfl, hT5⟩; have HT5 := Lib.hid hT5; clear hT5))
        go_ret
        exact ⟨by rw [HE.out]; rfl, HT1.out.trans HT5.out⟩
      · have b5 : (po == 0) = false := by simpa using h5
        have HE := Lib.hid (HPo.out hok rfl h5)
        have HE1 : Hid (R = (decide (1 ≤ po) && (decide (po ≤ 8) && (Z || nbI ((ps, ph, pl), pb) (s, ah, al) po)))) := HE
        have HNc := Lib.hid (HNb.out w1)
        clear hok HE HNb
        by_cases h6 : 0 < po
        · by_cases h7 : po ≤ 8
          · cases Z with
            | true =>
              have HE2 : Hid (R = true) := Lib.hid (by rw [HE1.out, decide_eq_true (show 1 ≤ po by omega), decide_eq_true h7]; rfl)
              clear h5
              go_wp2_with (go_at_call 51; refine Calls.mono HPr.out ?_; rintro e w' ⟨rfl, rfl⟩)
              go_ret
              exact ⟨by rw [HE2.out]; rfl, HT1.out⟩
            | false =>
              have HE2 : Hid (R = nbI ((ps, ph, pl), pb) (s, ah, al) po) := Lib.hid (by rw [HE1.out, decide_eq_true (show 1 ≤ po by omega), decide_eq_true h7]; rfl)
              clear h5
              go_wp2_with (first | (go_at_call 51; refine Calls.mono HPr.out ?_; rintro e w' ⟨rfl, rfl⟩) | (go_at_call 52; refine Calls.mono HNc.out ?_; rintro e w5 ⟨rfl, hT5⟩; have HT5 := Lib.hid hT5; clear hT5))
              go_ret
              exact ⟨by rw [HE2.out]; rfl, HT1.out.trans HT5.out⟩
          · have HE2 : Hid (R = false) := Lib.hid (by rw [HE1.out, decide_eq_false h7]; simp)
            clear h5
            go_wp2_with (go_at_call 51; refine Calls.mono HPr.out ?_; rintro e w' ⟨rfl, rfl⟩)
            go_ret
            exact ⟨by rw [HE2.out]; rfl, HT1.out⟩
        · have HE2 : Hid (R = false) := Lib.hid (by rw [HE1.out, decide_eq_false (show ¬ 1 ≤ po by omega)]; rfl)
          clear h5
          go_wp2_with (go_at_call 51; refine Calls.mono HPr.out ?_; rintro e w' ⟨rfl, rfl⟩)
          go_ret
          exact ⟨by rw [HE2.out]; rfl, HT1.out⟩
end Go.Proofs.YtjlmgkdieffjcaaDoor
