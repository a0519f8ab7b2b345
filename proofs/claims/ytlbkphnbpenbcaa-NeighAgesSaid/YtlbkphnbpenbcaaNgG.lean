/-
  The program's own cache of neighbours (layer 19): compareKeys, with a word on the tape: it has only gone on.
-/
import Derived.Test.YtlbkphnbpenbcaaNgB
import Derived.Test.YtlbkphnbpenbcaaSrt
namespace Go.Proofs.Ytlbkphnbpenbcaa
open Go.RowKit
set_option linter.unusedVariables false

set_option maxHeartbeats 400000 in
theorem validQ_any (s : Bool) (h l : Int) (w : World) :
    Calls Try.prog 61 #[adr s h l] w fun e w' => e = .returned (.bool (vld s h l)) ∧ BelowD w.heap.size w w' := by
  cases s
  · by_cases h0 : h = 0
    · subst h0
      by_cases hl : l ≤ 4294967295
      · go_enter Try.func61, Try.ntmps61
        go_wp2
        go_ret
        exact ⟨by simp [vld, hl], (BelowD.refl _ _).alloc (Nat.le_refl _) _⟩
      · go_enter Try.func61, Try.ntmps61
        go_wp2
        go_ret
        exact ⟨by simp [vld, hl], (BelowD.refl _ _).alloc (Nat.le_refl _) _⟩
    · go_enter Try.func61, Try.ntmps61
      go_wp2
      go_ret
      exact ⟨by simp [vld, h0], (BelowD.refl _ _).alloc (Nat.le_refl _) _⟩
  · go_enter Try.func61, Try.ntmps61
    go_wp2
    go_ret
    exact ⟨by simp [vld], (BelowD.refl _ _).alloc (Nat.le_refl _) _⟩
theorem validQ_at (s : Bool) (h l : Int) (w : World) {b : Bool} (e : vld s h l = b) :
    Calls Try.prog 61 #[adr s h l] w fun e w' => e = .returned (.bool b) ∧ BelowD w.heap.size w w' := by
  subst e; exact validQ_any s h l w
set_option maxHeartbeats 1000000 in
theorem lessQ_any (s : Bool) (h l : Int) (s' : Bool) (h' l' : Int) (w : World) :
    Calls Try.prog 60 #[adr s h l, adr s' h' l'] w fun e w' => e = .returned (.bool (lss s h l s' h' l')) ∧ BelowD w.heap.size w w' := by
  obtain ⟨V1, hV1⟩ : ∃ v, vld s h l = v := ⟨_, rfl⟩
  obtain ⟨V2, hV2⟩ : ∃ v, vld s' h' l' = v := ⟨_, rfl⟩
  obtain ⟨R, hR⟩ : ∃ v, lss s h l s' h' l' = v := ⟨_, rfl⟩
  have HR := Lib.hid hR
  rw [hR]
  have H1 := Lib.hid (fun W => validQ_at s h l W hV1)
  have H2 := Lib.hid (fun W => validQ_at s' h' l' W hV2)
  have G1 := Lib.hid hV1
  have G2 := Lib.hid hV2
  clear hR hV1 hV2
  cases V1
  · go_enter Try.func60, Try.ntmps60
    go_wp2_with fail
    refine Calls.mono (H1.out _) ?_
    rintro e w1 ⟨rfl, hb⟩
    go_wp2
    go_ret
    exact ⟨by rw [← HR.out]; simp [lss, G1.out], (((BelowD.refl _ _).alloc (Nat.le_refl _) _).alloc (by simp) _).trans (hb.mono (by simp; omega))⟩
  · cases V2
    · go_enter Try.func60, Try.ntmps60
      go_wp2_with fail
      refine Calls.mono (H1.out _) ?_
      rintro e w1 ⟨rfl, hb⟩
      obtain ⟨hc, hf⟩ := bcell hb.bel
      go_wp2_with fail
      refine Calls.mono (H2.out _) ?_
      rintro e w2 ⟨rfl, hb2⟩
      go_wp2
      go_ret
      have B1 := (((BelowD.refl _ w).alloc (Nat.le_refl _) _).alloc (by simp) _).trans (hb.mono (by simp; omega))
      exact ⟨by rw [← HR.out]; simp [lss, G1.out, G2.out], B1.trans (hb2.mono B1.size)⟩
    · rcases s with _ | _ <;> rcases s' with _ | _
      all_goals first | (by_cases hh : h = h'; subst hh) | skip
      all_goals
        go_enter Try.func60, Try.ntmps60
        go_wp2_with fail
        refine Calls.mono (H1.out _) ?_
        rintro e w1 ⟨rfl, hb⟩
        obtain ⟨hc, hf⟩ := bcell hb.bel
        go_wp2_with fail
        refine Calls.mono (H2.out _) ?_
        rintro e w2 ⟨rfl, hb2⟩
        obtain ⟨c0, c1, c2⟩ := ((((Blk.new w 30 _).alloc _).below hb.bel (by simp only [World.size_alloc]; omega)).below hb2.bel (by have := hb.size; simp at this; omega)).c3
        obtain ⟨d0, d1, d2⟩ := (((Blk.new (w.alloc _) 30 _).below hb.bel (by simp only [World.size_alloc]; omega)).below hb2.bel (by have := hb.size; simp at this ⊢; omega)).c3
        rw [World.size_alloc] at d0 d1 d2
        have B1 := Lib.hid ((((BelowD.refl _ w).alloc (Nat.le_refl _) _).alloc (by simp) _).trans (hb.mono (by simp; omega)))
        have B2 := Lib.hid (B1.out.trans (hb2.mono B1.out.size))
        go_wp2
        go_ret
        exact ⟨ret_bool (by rw [← HR.out]; simp [lss, G1.out, G2.out, *]), B2.out⟩
def cmpI (a b : Int) : Int := if a < b then -1 else if b < a then 1 else 0
theorem nan_i (a : Int) (w : World) : Calls Try.prog 69 #[.int .i64 a] w fun e w' => e = .returned (.bool false) ∧ w' = w := by
  have e0 : (a != a) = false := by simp
  go_enter Try.func69, Try.ntmps69
  go_wp2
  go_ret
  exact ⟨rfl, rfl⟩
set_option maxHeartbeats 2000000 in
theorem cmp_i (a b : Int) (w : World) : Calls Try.prog 59 #[.int .i64 a, .int .i64 b] w fun e w' => e = .returned (.int .i64 (cmpI a b)) ∧ w' = w := by
  have HA := Lib.hid (nan_i a w)
  have HB := Lib.hid (nan_i b w)
  unfold cmpI
  by_cases h1 : a < b
  · rw [if_pos h1]
    go_enter Try.func59, Try.ntmps59
    go_wp2_with fail
    refine Calls.mono HA.out ?_
    rintro e w' ⟨rfl, rfl⟩
    go_wp2_with fail
    refine Calls.mono HB.out ?_
    rintro e w' ⟨rfl, rfl⟩
    go_wp2
    go_ret
    exact ⟨rfl, rfl⟩
  · by_cases h2 : b < a
    · rw [if_neg h1, if_pos h2]
      go_enter Try.func59, Try.ntmps59
      go_wp2_with fail
      refine Calls.mono HA.out ?_
      rintro e w' ⟨rfl, rfl⟩
      go_wp2_with fail
      refine Calls.mono HB.out ?_
      rintro e w' ⟨rfl, rfl⟩
      go_wp2
      go_ret
      exact ⟨rfl, rfl⟩
    · rw [if_neg h1, if_neg h2]
      go_enter Try.func59, Try.ntmps59
      go_wp2_with fail
      refine Calls.mono HA.out ?_
      rintro e w' ⟨rfl, rfl⟩
      go_wp2_with fail
      refine Calls.mono HB.out ?_
      rintro e w' ⟨rfl, rfl⟩
      go_wp2
      go_ret
      exact ⟨rfl, rfl⟩
theorem lessQ_at (s : Bool) (h l : Int) (s' : Bool) (h' l' : Int) {b : Bool} (e : lss s h l s' h' l' = b) (w : World) :
    Calls Try.prog 60 #[adr s h l, adr s' h' l'] w fun e w' => e = .returned (.bool b) ∧ BelowD w.heap.size w w' := by subst e; exact lessQ_any s h l s' h' l' w
/-- What compareKeys answers. -/
def lsK (k q : KyI) : Bool := lss k.2.1 (k.2.2.1 : Int) (k.2.2.2 : Int) q.2.1 (q.2.2.1 : Int) (q.2.2.2 : Int)
def cmpK (k q : KyI) : Int := if k.1 = q.1 then (if lsK k q = true then -1 else if lsK q k = true then 1 else 0) else cmpI k.1 q.1
set_option maxRecDepth 100000 in
set_option maxHeartbeats 2000000 in
theorem cmpK_any (k q : KyI) (w : World) :
    Calls Try.prog 50 #[kyV k, kyV q] w fun e w' => e = .returned (.int .i64 (cmpK k q)) ∧ BelowD w.heap.size w w' := by
  obtain ⟨p, s, h, l⟩ := k
  obtain ⟨p', s', h', l'⟩ := q
  unfold cmpK lsK
  simp only
  obtain ⟨A, hA⟩ : ∃ A, lss s (h : Int) (l : Int) s' (h' : Int) (l' : Int) = A := ⟨_, rfl⟩
  obtain ⟨B, hB⟩ : ∃ B, lss s' (h' : Int) (l' : Int) s (h : Int) (l : Int) = B := ⟨_, rfl⟩
  have H1 := Lib.hid (fun w => lessQ_at s (h : Int) (l : Int) s' (h' : Int) (l' : Int) hA w)
  have H2 := Lib.hid (fun w => lessQ_at s' (h' : Int) (l' : Int) s (h : Int) (l : Int) hB w)
  have H3 := Lib.hid (fun w => cmp_i p p' w)
  rw [hA, hB]
  clear hA hB
  obtain ⟨W0, hW0⟩ : ∃ W, w.alloc (.cells #[.int .i64 p, .bool s, .int .u64 (h : Int), .int .u64 (l : Int)] 70) = W := ⟨_, rfl⟩
  obtain ⟨xb, hxb⟩ : ∃ xb, w.heap.size = xb := ⟨_, rfl⟩
  obtain ⟨W1, hW1⟩ : ∃ W, W0.alloc (.cells #[.int .i64 p', .bool s', .int .u64 (h' : Int), .int .u64 (l' : Int)] 70) = W := ⟨_, rfl⟩
  obtain ⟨yb, hyb⟩ : ∃ yb, W0.heap.size = yb := ⟨_, rfl⟩
  have h0 : W0.heap.size = w.heap.size + 1 := by rw [← hW0]; simp
  have h1 : W1.heap.size = W0.heap.size + 1 := by rw [← hW1]; simp
  have hB0 : Blk W0 xb 70 #[.int .i64 p, .bool s, .int .u64 (h : Int), .int .u64 (l : Int)] := hW0 ▸ hxb ▸ Blk.new w _ _
  have hB1 : Blk W1 yb 70 #[.int .i64 p', .bool s', .int .u64 (h' : Int), .int .u64 (l' : Int)] := hW1 ▸ hyb ▸ Blk.new W0 _ _
  have hX1 : Blk W1 xb 70 #[.int .i64 p, .bool s, .int .u64 (h : Int), .int .u64 (l : Int)] := hW1 ▸ hB0.alloc _
  have L1 : Hid (BelowD w.heap.size w W1) := Lib.hid (hW1 ▸ hW0 ▸ ((BelowD.refl _ w).alloc (Nat.le_refl _) _).alloc (by simp) _)
  have HW := Lib.hid (And.intro (And.intro hW0 hxb) (And.intro hW1 hyb))
  have HX1 := Lib.hid hX1
  have HB1 := Lib.hid hB1
  have HSz : Hid (xb < W1.heap.size ∧ yb < W1.heap.size ∧ w.heap.size ≤ W1.heap.size) := Lib.hid (by omega)
  obtain ⟨f0, f1, f2, f3⟩ := hX1.k4
  obtain ⟨g0, g1, g2, g3⟩ := hB1.k4
  clear hW0 hxb hW1 hyb h0 h1 hB0 hX1 hB1
  by_cases hp : p = p'
  · subst hp
    rw [if_pos rfl]
    have e0 : (p != p) = false := by simp
    go_enter Try.func50, Try.ntmps50
    go_wp2_with (first | (rw [HW.out.1.1, HW.out.1.2]) | (rw [HW.out.2.1, HW.out.2.2]))
    refine Calls.mono (H1.out _) ?_
    rintro e w1 ⟨rfl, hb⟩
    have L2 : Hid (BelowD w.heap.size w w1) := Lib.hid (L1.out.trans (hb.mono HSz.out.2.2))
    have K1 := Lib.hid (HX1.out.belowD hb HSz.out.1)
    have Q1 := Lib.hid (HB1.out.belowD hb HSz.out.2.1)
    clear hb f0 f1 f2 f3 g0 g1 g2 g3
    obtain ⟨f0, f1, f2, f3⟩ := K1.out.k4
    obtain ⟨g0, g1, g2, g3⟩ := Q1.out.k4
    cases A
    · go_wp2_with fail
      refine Calls.mono (H2.out _) ?_
      rintro e w2 ⟨rfl, hb2⟩
      have L3 := Lib.hid (L2.out.trans (hb2.mono L2.out.size))
      clear hb2 f0 f1 f2 f3 g0 g1 g2 g3
      cases B
      · go_wp2
        go_ret
        exact ⟨rfl, L3.out⟩
      · go_wp2
        go_ret
        exact ⟨rfl, L3.out⟩
    · go_wp2
      go_ret
      exact ⟨rfl, L2.out⟩
  · rw [if_neg hp]
    have e0 : (p != p') = true := by simp [hp]
    go_enter Try.func50, Try.ntmps50
    go_wp2_with (first | (rw [HW.out.1.1, HW.out.1.2]) | (rw [HW.out.2.1, HW.out.2.2]))
    refine Calls.mono (H3.out _) ?_
    rintro e w1 ⟨rfl, rfl⟩
    go_wp2
    go_ret
    exact ⟨rfl, L1.out⟩
end Go.Proofs.Ytlbkphnbpenbcaa
