/-
  B4, B7: addresses stand in one order, the document's: for every three addresses, right or wrong.
-/
import Derived.Test.YtdifdhcljgakhaaDoorAwaken
namespace Go.Proofs.YtdifdhcljgakhaaDoor.Orders
open Go.ChangeShapes Go.WideShapes Go.ChangeAt Go.RowKit
set_option linter.unusedVariables false

theorem lss_self (s : Bool) (h l : Int) : lss s h l s h l = false := by simp [lss]
theorem lss_not {s s' : Bool} {h l h' l' : Int} (e : lss s h l s' h' l' = true) : lss s' h' l' s h l = false := by
  cases s <;> cases s' <;> simp [lss] at e ⊢
  all_goals first
    | (intro _ _; by_cases e1 : h = h' <;> simp [e1, Ne.symm] at e ⊢ <;> omega)
    | skip
theorem lss_one {s s' : Bool} {h l h' l' : Int} (v : vld s h l = true) (v' : vld s' h' l' = true) (e : ¬ (s = s' ∧ h = h' ∧ l = l')) (x : lss s h l s' h' l' = false) : lss s' h' l' s h l = true := by
  simp only [lss, v, v', Bool.true_and] at x ⊢
  cases s <;> cases s' <;> simp at x e ⊢
  all_goals
    by_cases e1 : h = h'
    · subst e1; simp at x e ⊢; omega
    · have e2 : ¬ h' = h := fun c => e1 c.symm
      simp [e1, e2] at x ⊢; omega
theorem lss_no1 {s s' : Bool} {h l h' l' : Int} (v : vld s h l = false) : lss s h l s' h' l' = false := by simp [lss, v]
theorem lss_no2 {s s' : Bool} {h l h' l' : Int} (v : vld s' h' l' = false) : lss s h l s' h' l' = false := by simp [lss, v]
theorem lss_trans {s s' s2 : Bool} {h l h' l' h2 l2 : Int} (a : lss s h l s' h' l' = true) (b : lss s' h' l' s2 h2 l2 = true) : lss s h l s2 h2 l2 = true := by
  cases hv : vld s h l
  · rw [lss_no1 hv] at a; cases a
  cases hv' : vld s' h' l'
  · rw [lss_no2 hv'] at a; cases a
  cases hv2 : vld s2 h2 l2
  · rw [lss_no2 hv2] at b; cases b
  simp only [lss, hv, hv', hv2, Bool.true_and] at a b ⊢
  cases s <;> cases s' <;> cases s2 <;> simp at a b ⊢
  all_goals
    by_cases e1 : h = h'
    · subst e1
      by_cases e2 : h = h2
      · subst e2; simp at a b ⊢; omega
      · simp [e2] at a b ⊢; omega
    · by_cases e2 : h' = h2
      · subst e2; simp [e1] at a b ⊢; omega
      · by_cases e3 : h = h2
        · subst e3; simp [e1, e2] at a b ⊢; omega
        · simp [e1, e2, e3] at a b ⊢; omega

theorem rless_at (s : Bool) (h l : Int) (s' : Bool) (h' l' : Int) (w : World) {b : Bool} (e : lss s h l s' h' l' = b) :
    Calls Tryd.prog 27 #[adr s h l, adr s' h' l'] w fun e w' => e = .returned (.bool b) ∧ Below w.heap.size w w' := by
  subst e; exact rless_any s h l s' h' l' w

/-- Three addresses in boxes of their own, behind a call that wrote nothing that was there. -/
def In3 (w0 w : World) (a b c : Array Value) : Prop :=
  Below w0.heap.size w0 w ∧ w0.heap.size + 3 ≤ w.heap.size ∧ Blk w w0.heap.size 25 a ∧ Blk w (w0.heap.size + 1) 25 b ∧ Blk w (w0.heap.size + 1 + 1) 25 c
theorem In3.on {w0 w w' : World} {a b c : Array Value} (h : In3 w0 w a b c) (hb : Below w.heap.size w w') : In3 w0 w' a b c := by
  obtain ⟨h1, h2, h3, h4, h5⟩ := h
  have := hb.size
  exact ⟨h1.trans (hb.mono h1.size), by omega, h3.below hb (by omega), h4.below hb (by omega), h5.below hb (by omega)⟩
theorem In3.new (w : World) (a b c : Array Value) : In3 w (((w.alloc (.cells a 25)).alloc (.cells b 25)).alloc (.cells c 25)) a b c := by
  have K1 := (Blk.new (w.alloc (.cells a 25)) 25 b).alloc (.cells c 25)
  have K2 := Blk.new ((w.alloc (.cells a 25)).alloc (.cells b 25)) 25 c
  rw [World.size_alloc] at K1
  rw [World.size_alloc, World.size_alloc] at K2
  exact ⟨(((Below.refl _ w).alloc (Nat.le_refl _) _).alloc (by simp) _).alloc (by simp only [World.size_alloc]; omega) _, by simp only [World.size_alloc]; omega, ((Blk.new w _ _).alloc _).alloc _, K1, K2⟩

set_option maxRecDepth 100000 in
set_option maxHeartbeats 1000000 in
theorem walk (w : World) (hE : Env w) (a0_0 : Bool) (a0_1 : Int) (w0_1 : (Lit.int .u64 a0_1).wf = true) (a0_2 : Int) (w0_2 : (Lit.int .u64 a0_2).wf = true) (a1_0 : Bool) (a1_1 : Int) (w1_1 : (Lit.int .u64 a1_1).wf = true) (a1_2 : Int) (w1_2 : (Lit.int .u64 a1_2).wf = true) (a2_0 : Bool) (a2_1 : Int) (w2_1 : (Lit.int .u64 a2_1).wf = true) (a2_2 : Int) (w2_2 : (Lit.int .u64 a2_2).wf = true) :
    Calls Tryd.prog 8 #[.agg #[.bool a0_0, .int .u64 a0_1, .int .u64 a0_2], .agg #[.bool a1_0, .int .u64 a1_1, .int .u64 a1_2], .agg #[.bool a2_0, .int .u64 a2_1, .int .u64 a2_2]] w fun e w' => e = .returned (.bool true) ∧ Below w.heap.size w w' := by
  obtain ⟨V1, hV1⟩ : ∃ v, vld a0_0 a0_1 a0_2 = v := ⟨_, rfl⟩
  obtain ⟨V2, hV2⟩ : ∃ v, vld a1_0 a1_1 a1_2 = v := ⟨_, rfl⟩
  obtain ⟨X, hX⟩ : ∃ v, lss a0_0 a0_1 a0_2 a1_0 a1_1 a1_2 = v := ⟨_, rfl⟩
  obtain ⟨Y, hY⟩ : ∃ v, lss a1_0 a1_1 a1_2 a0_0 a0_1 a0_2 = v := ⟨_, rfl⟩
  obtain ⟨Z, hZ⟩ : ∃ v, lss a1_0 a1_1 a1_2 a2_0 a2_1 a2_2 = v := ⟨_, rfl⟩
  obtain ⟨T, hT⟩ : ∃ v, lss a0_0 a0_1 a0_2 a2_0 a2_1 a2_2 = v := ⟨_, rfl⟩
  have HA := Lib.hid (awake_yes)
  have L1 := Lib.hid (fun W => less_at a0_0 a0_1 a0_2 a1_0 a1_1 a1_2 W hX)
  have L2 := Lib.hid (fun W => less_at a1_0 a1_1 a1_2 a0_0 a0_1 a0_2 W hY)
  have L3 := Lib.hid (fun W => rless_at a0_0 a0_1 a0_2 a1_0 a1_1 a1_2 W hX)
  have L4 := Lib.hid (fun W => less_at a0_0 a0_1 a0_2 a0_0 a0_1 a0_2 W (lss_self _ _ _))
  have L5 := Lib.hid (fun W => less_at a1_0 a1_1 a1_2 a2_0 a2_1 a2_2 W hZ)
  have L6 := Lib.hid (fun W => less_at a0_0 a0_1 a0_2 a2_0 a2_1 a2_2 W hT)
  have W1 := Lib.hid (fun W => valid_at a0_0 a0_1 a0_2 W hV1)
  have W2 := Lib.hid (fun W => valid_at a1_0 a1_1 a1_2 W hV2)
  have hD : (V1 = true ∧ V2 = true ∧ ((a0_0 = a1_0 ∧ a0_1 = a1_1 ∧ a0_2 = a1_2 ∧ X = false ∧ Y = false) ∨ (¬ (a0_0 = a1_0 ∧ a0_1 = a1_1 ∧ a0_2 = a1_2) ∧ ((X = true ∧ Y = false) ∨ (X = false ∧ Y = true))))) ∨ ((V1 = false ∨ V2 = false) ∧ X = false ∧ Y = false) := by
    subst hX hY hV1 hV2
    cases hv1 : vld a0_0 a0_1 a0_2
    · exact .inr ⟨.inl rfl, lss_no1 hv1, lss_no2 hv1⟩
    cases hv2 : vld a1_0 a1_1 a1_2
    · exact .inr ⟨.inr rfl, lss_no2 hv2, lss_no1 hv2⟩
    refine .inl ⟨rfl, rfl, ?_⟩
    by_cases e : a0_0 = a1_0 ∧ a0_1 = a1_1 ∧ a0_2 = a1_2
    · obtain ⟨rfl, rfl, rfl⟩ := e
      exact .inl ⟨rfl, rfl, rfl, lss_self _ _ _, lss_self _ _ _⟩
    · refine .inr ⟨e, ?_⟩
      cases hx : lss a0_0 a0_1 a0_2 a1_0 a1_1 a1_2
      · exact .inr ⟨rfl, lss_one hv1 hv2 e hx⟩
      · exact .inl ⟨rfl, lss_not hx⟩
  have hTr : X = true → Z = true → T = true := by
    intro x z; subst hX hZ hT; exact lss_trans x z
  clear hV1 hV2 hX hY hZ hT
  have HT := Lib.hid hTr
  clear hTr
  have HD := Lib.hid hD
  clear hD
  have hd := HD.out
  clear HD
  rcases hd with ⟨rfl, rfl, ⟨rfl, rfl, rfl, rfl, rfl⟩ | ⟨hne, ⟨rfl, rfl⟩ | ⟨rfl, rfl⟩⟩⟩ | ⟨hv, rfl, rfl⟩
  any_goals have HN := Lib.hid hne; clear hne
  · skip
    go_enter Tryd.func8, Tryd.ntmps8
    go_wp2_with fail
    refine Calls.mono (HA.out _ (((hE.alloc _).alloc _).alloc _)) ?_
    rintro e w1 ⟨rfl, hb⟩
    have J1 := Lib.hid ((In3.new w _ _ _).on hb)
    clear hb
    obtain ⟨f1, f2, f3⟩ := J1.out.2.2.1.c3
    obtain ⟨f4, f5, f6⟩ := J1.out.2.2.2.1.c3
    obtain ⟨f7, f8, f9⟩ := J1.out.2.2.2.2.c3
    go_wp2_with fail
    refine Calls.mono (L1.out _) ?_
    rintro e w2 ⟨rfl, hb⟩
    clear f1 f2 f3 f4 f5 f6 f7 f8 f9
    have J2 := Lib.hid (J1.out.on hb)
    clear hb
    obtain ⟨f1, f2, f3⟩ := J2.out.2.2.1.c3
    obtain ⟨f4, f5, f6⟩ := J2.out.2.2.2.1.c3
    obtain ⟨f7, f8, f9⟩ := J2.out.2.2.2.2.c3
    go_wp2_with fail
    refine Calls.mono (L2.out _) ?_
    rintro e w3 ⟨rfl, hb⟩
    clear f1 f2 f3 f4 f5 f6 f7 f8 f9
    have J3 := Lib.hid (J2.out.on hb)
    clear hb
    obtain ⟨f1, f2, f3⟩ := J3.out.2.2.1.c3
    obtain ⟨f4, f5, f6⟩ := J3.out.2.2.2.1.c3
    obtain ⟨f7, f8, f9⟩ := J3.out.2.2.2.2.c3
    go_wp2_with fail
    refine Calls.mono (L3.out _) ?_
    rintro e w4 ⟨rfl, hb⟩
    clear f1 f2 f3 f4 f5 f6 f7 f8 f9
    have J4 := Lib.hid (J3.out.on hb)
    clear hb
    obtain ⟨f1, f2, f3⟩ := J4.out.2.2.1.c3
    obtain ⟨f4, f5, f6⟩ := J4.out.2.2.2.1.c3
    obtain ⟨f7, f8, f9⟩ := J4.out.2.2.2.2.c3
    go_wp2_with fail
    refine Calls.mono (L4.out _) ?_
    rintro e w5 ⟨rfl, hb⟩
    clear f1 f2 f3 f4 f5 f6 f7 f8 f9
    have J5 := Lib.hid (J4.out.on hb)
    clear hb
    obtain ⟨f1, f2, f3⟩ := J5.out.2.2.1.c3
    obtain ⟨f4, f5, f6⟩ := J5.out.2.2.2.1.c3
    obtain ⟨f7, f8, f9⟩ := J5.out.2.2.2.2.c3
    go_wp2_with fail
    refine Calls.mono (W1.out _) ?_
    rintro e w6 ⟨rfl, hb⟩
    clear f1 f2 f3 f4 f5 f6 f7 f8 f9
    have J6 := Lib.hid (J5.out.on hb)
    clear hb
    obtain ⟨f1, f2, f3⟩ := J6.out.2.2.1.c3
    obtain ⟨f4, f5, f6⟩ := J6.out.2.2.2.1.c3
    obtain ⟨f7, f8, f9⟩ := J6.out.2.2.2.2.c3
    go_wp2_with fail
    refine Calls.mono (W2.out _) ?_
    rintro e w7 ⟨rfl, hb⟩
    clear f1 f2 f3 f4 f5 f6 f7 f8 f9
    have J7 := Lib.hid (J6.out.on hb)
    clear hb
    obtain ⟨f1, f2, f3⟩ := J7.out.2.2.1.c3
    obtain ⟨f4, f5, f6⟩ := J7.out.2.2.2.1.c3
    obtain ⟨f7, f8, f9⟩ := J7.out.2.2.2.2.c3
    go_wp2
    go_ret
    exact ⟨rfl, J7.out.1⟩
  · skip
    cases Z
    · skip
      go_enter Tryd.func8, Tryd.ntmps8
      go_wp2_with fail
      refine Calls.mono (HA.out _ (((hE.alloc _).alloc _).alloc _)) ?_
      rintro e w1 ⟨rfl, hb⟩
      have J1 := Lib.hid ((In3.new w _ _ _).on hb)
      clear hb
      obtain ⟨f1, f2, f3⟩ := J1.out.2.2.1.c3
      obtain ⟨f4, f5, f6⟩ := J1.out.2.2.2.1.c3
      obtain ⟨f7, f8, f9⟩ := J1.out.2.2.2.2.c3
      go_wp2_with fail
      refine Calls.mono (L1.out _) ?_
      rintro e w2 ⟨rfl, hb⟩
      clear f1 f2 f3 f4 f5 f6 f7 f8 f9
      have J2 := Lib.hid (J1.out.on hb)
      clear hb
      obtain ⟨f1, f2, f3⟩ := J2.out.2.2.1.c3
      obtain ⟨f4, f5, f6⟩ := J2.out.2.2.2.1.c3
      obtain ⟨f7, f8, f9⟩ := J2.out.2.2.2.2.c3
      go_wp2_with fail
      refine Calls.mono (L2.out _) ?_
      rintro e w3 ⟨rfl, hb⟩
      clear f1 f2 f3 f4 f5 f6 f7 f8 f9
      have J3 := Lib.hid (J2.out.on hb)
      clear hb
      obtain ⟨f1, f2, f3⟩ := J3.out.2.2.1.c3
      obtain ⟨f4, f5, f6⟩ := J3.out.2.2.2.1.c3
      obtain ⟨f7, f8, f9⟩ := J3.out.2.2.2.2.c3
      go_wp2_with fail
      refine Calls.mono (L3.out _) ?_
      rintro e w4 ⟨rfl, hb⟩
      clear f1 f2 f3 f4 f5 f6 f7 f8 f9
      have J4 := Lib.hid (J3.out.on hb)
      clear hb
      obtain ⟨f1, f2, f3⟩ := J4.out.2.2.1.c3
      obtain ⟨f4, f5, f6⟩ := J4.out.2.2.2.1.c3
      obtain ⟨f7, f8, f9⟩ := J4.out.2.2.2.2.c3
      go_wp2_with fail
      refine Calls.mono (L4.out _) ?_
      rintro e w5 ⟨rfl, hb⟩
      clear f1 f2 f3 f4 f5 f6 f7 f8 f9
      have J5 := Lib.hid (J4.out.on hb)
      clear hb
      obtain ⟨f1, f2, f3⟩ := J5.out.2.2.1.c3
      obtain ⟨f4, f5, f6⟩ := J5.out.2.2.2.1.c3
      obtain ⟨f7, f8, f9⟩ := J5.out.2.2.2.2.c3
      go_wp2_with fail
      refine Calls.mono (W1.out _) ?_
      rintro e w6 ⟨rfl, hb⟩
      clear f1 f2 f3 f4 f5 f6 f7 f8 f9
      have J6 := Lib.hid (J5.out.on hb)
      clear hb
      obtain ⟨f1, f2, f3⟩ := J6.out.2.2.1.c3
      obtain ⟨f4, f5, f6⟩ := J6.out.2.2.2.1.c3
      obtain ⟨f7, f8, f9⟩ := J6.out.2.2.2.2.c3
      go_wp2_with fail
      refine Calls.mono (W2.out _) ?_
      rintro e w7 ⟨rfl, hb⟩
      clear f1 f2 f3 f4 f5 f6 f7 f8 f9
      have J7 := Lib.hid (J6.out.on hb)
      clear hb
      obtain ⟨f1, f2, f3⟩ := J7.out.2.2.1.c3
      obtain ⟨f4, f5, f6⟩ := J7.out.2.2.2.1.c3
      obtain ⟨f7, f8, f9⟩ := J7.out.2.2.2.2.c3
      go_wp2_with fail
      all_goals
        refine Calls.mono (L5.out _) ?_
        rintro e w8 ⟨rfl, hb⟩
        clear f1 f2 f3 f4 f5 f6 f7 f8 f9
        have J8 := Lib.hid (J7.out.on hb)
        clear hb
        obtain ⟨f1, f2, f3⟩ := J8.out.2.2.1.c3
        obtain ⟨f4, f5, f6⟩ := J8.out.2.2.2.1.c3
        obtain ⟨f7, f8, f9⟩ := J8.out.2.2.2.2.c3
        go_wp2
        go_ret
        exact ⟨rfl, J8.out.1⟩
    · skip
      have hT1 := HT.out rfl rfl
      subst hT1
      go_enter Tryd.func8, Tryd.ntmps8
      go_wp2_with fail
      refine Calls.mono (HA.out _ (((hE.alloc _).alloc _).alloc _)) ?_
      rintro e w1 ⟨rfl, hb⟩
      have J1 := Lib.hid ((In3.new w _ _ _).on hb)
      clear hb
      obtain ⟨f1, f2, f3⟩ := J1.out.2.2.1.c3
      obtain ⟨f4, f5, f6⟩ := J1.out.2.2.2.1.c3
      obtain ⟨f7, f8, f9⟩ := J1.out.2.2.2.2.c3
      go_wp2_with fail
      refine Calls.mono (L1.out _) ?_
      rintro e w2 ⟨rfl, hb⟩
      clear f1 f2 f3 f4 f5 f6 f7 f8 f9
      have J2 := Lib.hid (J1.out.on hb)
      clear hb
      obtain ⟨f1, f2, f3⟩ := J2.out.2.2.1.c3
      obtain ⟨f4, f5, f6⟩ := J2.out.2.2.2.1.c3
      obtain ⟨f7, f8, f9⟩ := J2.out.2.2.2.2.c3
      go_wp2_with fail
      refine Calls.mono (L2.out _) ?_
      rintro e w3 ⟨rfl, hb⟩
      clear f1 f2 f3 f4 f5 f6 f7 f8 f9
      have J3 := Lib.hid (J2.out.on hb)
      clear hb
      obtain ⟨f1, f2, f3⟩ := J3.out.2.2.1.c3
      obtain ⟨f4, f5, f6⟩ := J3.out.2.2.2.1.c3
      obtain ⟨f7, f8, f9⟩ := J3.out.2.2.2.2.c3
      go_wp2_with fail
      refine Calls.mono (L3.out _) ?_
      rintro e w4 ⟨rfl, hb⟩
      clear f1 f2 f3 f4 f5 f6 f7 f8 f9
      have J4 := Lib.hid (J3.out.on hb)
      clear hb
      obtain ⟨f1, f2, f3⟩ := J4.out.2.2.1.c3
      obtain ⟨f4, f5, f6⟩ := J4.out.2.2.2.1.c3
      obtain ⟨f7, f8, f9⟩ := J4.out.2.2.2.2.c3
      go_wp2_with fail
      refine Calls.mono (L4.out _) ?_
      rintro e w5 ⟨rfl, hb⟩
      clear f1 f2 f3 f4 f5 f6 f7 f8 f9
      have J5 := Lib.hid (J4.out.on hb)
      clear hb
      obtain ⟨f1, f2, f3⟩ := J5.out.2.2.1.c3
      obtain ⟨f4, f5, f6⟩ := J5.out.2.2.2.1.c3
      obtain ⟨f7, f8, f9⟩ := J5.out.2.2.2.2.c3
      go_wp2_with fail
      refine Calls.mono (W1.out _) ?_
      rintro e w6 ⟨rfl, hb⟩
      clear f1 f2 f3 f4 f5 f6 f7 f8 f9
      have J6 := Lib.hid (J5.out.on hb)
      clear hb
      obtain ⟨f1, f2, f3⟩ := J6.out.2.2.1.c3
      obtain ⟨f4, f5, f6⟩ := J6.out.2.2.2.1.c3
      obtain ⟨f7, f8, f9⟩ := J6.out.2.2.2.2.c3
      go_wp2_with fail
      refine Calls.mono (W2.out _) ?_
      rintro e w7 ⟨rfl, hb⟩
      clear f1 f2 f3 f4 f5 f6 f7 f8 f9
      have J7 := Lib.hid (J6.out.on hb)
      clear hb
      obtain ⟨f1, f2, f3⟩ := J7.out.2.2.1.c3
      obtain ⟨f4, f5, f6⟩ := J7.out.2.2.2.1.c3
      obtain ⟨f7, f8, f9⟩ := J7.out.2.2.2.2.c3
      go_wp2_with fail
      all_goals
        refine Calls.mono (L5.out _) ?_
        rintro e w8 ⟨rfl, hb⟩
        clear f1 f2 f3 f4 f5 f6 f7 f8 f9
        have J8 := Lib.hid (J7.out.on hb)
        clear hb
        obtain ⟨f1, f2, f3⟩ := J8.out.2.2.1.c3
        obtain ⟨f4, f5, f6⟩ := J8.out.2.2.2.1.c3
        obtain ⟨f7, f8, f9⟩ := J8.out.2.2.2.2.c3
        go_wp2_with fail
      all_goals first | (exact absurd ⟨‹a0_0 = a1_0›, ‹a0_1 = a1_1›, ‹a0_2 = a1_2›⟩ HN.out) | skip
      all_goals
        first
          | (have h6 := L6.out; rw [‹a0_0 = a1_0›, ‹a0_1 = a1_1›] at h6; have H6 := Lib.hid h6; clear h6; (with_reducible refine Calls.mono (H6.out _) ?_))
          | (have h6 := L6.out; rw [‹a0_0 = a1_0›] at h6; have H6 := Lib.hid h6; clear h6; (with_reducible refine Calls.mono (H6.out _) ?_))
          | (with_reducible refine Calls.mono (L6.out _) ?_)
        rintro e w9 ⟨rfl, hb⟩
        clear f1 f2 f3 f4 f5 f6 f7 f8 f9
        have J9 := Lib.hid (J8.out.on hb)
        clear hb
        obtain ⟨f1, f2, f3⟩ := J9.out.2.2.1.c3
        obtain ⟨f4, f5, f6⟩ := J9.out.2.2.2.1.c3
        obtain ⟨f7, f8, f9⟩ := J9.out.2.2.2.2.c3
        go_wp2
        go_ret
        exact ⟨rfl, J9.out.1⟩
  · skip
    go_enter Tryd.func8, Tryd.ntmps8
    go_wp2_with fail
    refine Calls.mono (HA.out _ (((hE.alloc _).alloc _).alloc _)) ?_
    rintro e w1 ⟨rfl, hb⟩
    have J1 := Lib.hid ((In3.new w _ _ _).on hb)
    clear hb
    obtain ⟨f1, f2, f3⟩ := J1.out.2.2.1.c3
    obtain ⟨f4, f5, f6⟩ := J1.out.2.2.2.1.c3
    obtain ⟨f7, f8, f9⟩ := J1.out.2.2.2.2.c3
    go_wp2_with fail
    refine Calls.mono (L1.out _) ?_
    rintro e w2 ⟨rfl, hb⟩
    clear f1 f2 f3 f4 f5 f6 f7 f8 f9
    have J2 := Lib.hid (J1.out.on hb)
    clear hb
    obtain ⟨f1, f2, f3⟩ := J2.out.2.2.1.c3
    obtain ⟨f4, f5, f6⟩ := J2.out.2.2.2.1.c3
    obtain ⟨f7, f8, f9⟩ := J2.out.2.2.2.2.c3
    go_wp2_with fail
    refine Calls.mono (L2.out _) ?_
    rintro e w3 ⟨rfl, hb⟩
    clear f1 f2 f3 f4 f5 f6 f7 f8 f9
    have J3 := Lib.hid (J2.out.on hb)
    clear hb
    obtain ⟨f1, f2, f3⟩ := J3.out.2.2.1.c3
    obtain ⟨f4, f5, f6⟩ := J3.out.2.2.2.1.c3
    obtain ⟨f7, f8, f9⟩ := J3.out.2.2.2.2.c3
    go_wp2_with fail
    refine Calls.mono (L3.out _) ?_
    rintro e w4 ⟨rfl, hb⟩
    clear f1 f2 f3 f4 f5 f6 f7 f8 f9
    have J4 := Lib.hid (J3.out.on hb)
    clear hb
    obtain ⟨f1, f2, f3⟩ := J4.out.2.2.1.c3
    obtain ⟨f4, f5, f6⟩ := J4.out.2.2.2.1.c3
    obtain ⟨f7, f8, f9⟩ := J4.out.2.2.2.2.c3
    go_wp2_with fail
    refine Calls.mono (L4.out _) ?_
    rintro e w5 ⟨rfl, hb⟩
    clear f1 f2 f3 f4 f5 f6 f7 f8 f9
    have J5 := Lib.hid (J4.out.on hb)
    clear hb
    obtain ⟨f1, f2, f3⟩ := J5.out.2.2.1.c3
    obtain ⟨f4, f5, f6⟩ := J5.out.2.2.2.1.c3
    obtain ⟨f7, f8, f9⟩ := J5.out.2.2.2.2.c3
    go_wp2_with fail
    refine Calls.mono (W1.out _) ?_
    rintro e w6 ⟨rfl, hb⟩
    clear f1 f2 f3 f4 f5 f6 f7 f8 f9
    have J6 := Lib.hid (J5.out.on hb)
    clear hb
    obtain ⟨f1, f2, f3⟩ := J6.out.2.2.1.c3
    obtain ⟨f4, f5, f6⟩ := J6.out.2.2.2.1.c3
    obtain ⟨f7, f8, f9⟩ := J6.out.2.2.2.2.c3
    go_wp2_with fail
    refine Calls.mono (W2.out _) ?_
    rintro e w7 ⟨rfl, hb⟩
    clear f1 f2 f3 f4 f5 f6 f7 f8 f9
    have J7 := Lib.hid (J6.out.on hb)
    clear hb
    obtain ⟨f1, f2, f3⟩ := J7.out.2.2.1.c3
    obtain ⟨f4, f5, f6⟩ := J7.out.2.2.2.1.c3
    obtain ⟨f7, f8, f9⟩ := J7.out.2.2.2.2.c3
    go_wp2
    all_goals
      go_ret
      exact ⟨rfl, J7.out.1⟩
  · skip
    cases V1
    · try clear hv
      go_enter Tryd.func8, Tryd.ntmps8
      go_wp2_with fail
      refine Calls.mono (HA.out _ (((hE.alloc _).alloc _).alloc _)) ?_
      rintro e w1 ⟨rfl, hb⟩
      have J1 := Lib.hid ((In3.new w _ _ _).on hb)
      clear hb
      obtain ⟨f1, f2, f3⟩ := J1.out.2.2.1.c3
      obtain ⟨f4, f5, f6⟩ := J1.out.2.2.2.1.c3
      obtain ⟨f7, f8, f9⟩ := J1.out.2.2.2.2.c3
      go_wp2_with fail
      refine Calls.mono (L1.out _) ?_
      rintro e w2 ⟨rfl, hb⟩
      clear f1 f2 f3 f4 f5 f6 f7 f8 f9
      have J2 := Lib.hid (J1.out.on hb)
      clear hb
      obtain ⟨f1, f2, f3⟩ := J2.out.2.2.1.c3
      obtain ⟨f4, f5, f6⟩ := J2.out.2.2.2.1.c3
      obtain ⟨f7, f8, f9⟩ := J2.out.2.2.2.2.c3
      go_wp2_with fail
      refine Calls.mono (L2.out _) ?_
      rintro e w3 ⟨rfl, hb⟩
      clear f1 f2 f3 f4 f5 f6 f7 f8 f9
      have J3 := Lib.hid (J2.out.on hb)
      clear hb
      obtain ⟨f1, f2, f3⟩ := J3.out.2.2.1.c3
      obtain ⟨f4, f5, f6⟩ := J3.out.2.2.2.1.c3
      obtain ⟨f7, f8, f9⟩ := J3.out.2.2.2.2.c3
      go_wp2_with fail
      refine Calls.mono (L3.out _) ?_
      rintro e w4 ⟨rfl, hb⟩
      clear f1 f2 f3 f4 f5 f6 f7 f8 f9
      have J4 := Lib.hid (J3.out.on hb)
      clear hb
      obtain ⟨f1, f2, f3⟩ := J4.out.2.2.1.c3
      obtain ⟨f4, f5, f6⟩ := J4.out.2.2.2.1.c3
      obtain ⟨f7, f8, f9⟩ := J4.out.2.2.2.2.c3
      go_wp2_with fail
      refine Calls.mono (L4.out _) ?_
      rintro e w5 ⟨rfl, hb⟩
      clear f1 f2 f3 f4 f5 f6 f7 f8 f9
      have J5 := Lib.hid (J4.out.on hb)
      clear hb
      obtain ⟨f1, f2, f3⟩ := J5.out.2.2.1.c3
      obtain ⟨f4, f5, f6⟩ := J5.out.2.2.2.1.c3
      obtain ⟨f7, f8, f9⟩ := J5.out.2.2.2.2.c3
      go_wp2_with fail
      refine Calls.mono (W1.out _) ?_
      rintro e w6 ⟨rfl, hb⟩
      clear f1 f2 f3 f4 f5 f6 f7 f8 f9
      have J6 := Lib.hid (J5.out.on hb)
      clear hb
      obtain ⟨f1, f2, f3⟩ := J6.out.2.2.1.c3
      obtain ⟨f4, f5, f6⟩ := J6.out.2.2.2.1.c3
      obtain ⟨f7, f8, f9⟩ := J6.out.2.2.2.2.c3
      go_wp2
      go_ret
      exact ⟨rfl, J6.out.1⟩
    · skip
      have hV2 : V2 = false := by simpa using hv
      clear hv
      subst hV2
      go_enter Tryd.func8, Tryd.ntmps8
      go_wp2_with fail
      refine Calls.mono (HA.out _ (((hE.alloc _).alloc _).alloc _)) ?_
      rintro e w1 ⟨rfl, hb⟩
      have J1 := Lib.hid ((In3.new w _ _ _).on hb)
      clear hb
      obtain ⟨f1, f2, f3⟩ := J1.out.2.2.1.c3
      obtain ⟨f4, f5, f6⟩ := J1.out.2.2.2.1.c3
      obtain ⟨f7, f8, f9⟩ := J1.out.2.2.2.2.c3
      go_wp2_with fail
      refine Calls.mono (L1.out _) ?_
      rintro e w2 ⟨rfl, hb⟩
      clear f1 f2 f3 f4 f5 f6 f7 f8 f9
      have J2 := Lib.hid (J1.out.on hb)
      clear hb
      obtain ⟨f1, f2, f3⟩ := J2.out.2.2.1.c3
      obtain ⟨f4, f5, f6⟩ := J2.out.2.2.2.1.c3
      obtain ⟨f7, f8, f9⟩ := J2.out.2.2.2.2.c3
      go_wp2_with fail
      refine Calls.mono (L2.out _) ?_
      rintro e w3 ⟨rfl, hb⟩
      clear f1 f2 f3 f4 f5 f6 f7 f8 f9
      have J3 := Lib.hid (J2.out.on hb)
      clear hb
      obtain ⟨f1, f2, f3⟩ := J3.out.2.2.1.c3
      obtain ⟨f4, f5, f6⟩ := J3.out.2.2.2.1.c3
      obtain ⟨f7, f8, f9⟩ := J3.out.2.2.2.2.c3
      go_wp2_with fail
      refine Calls.mono (L3.out _) ?_
      rintro e w4 ⟨rfl, hb⟩
      clear f1 f2 f3 f4 f5 f6 f7 f8 f9
      have J4 := Lib.hid (J3.out.on hb)
      clear hb
      obtain ⟨f1, f2, f3⟩ := J4.out.2.2.1.c3
      obtain ⟨f4, f5, f6⟩ := J4.out.2.2.2.1.c3
      obtain ⟨f7, f8, f9⟩ := J4.out.2.2.2.2.c3
      go_wp2_with fail
      refine Calls.mono (L4.out _) ?_
      rintro e w5 ⟨rfl, hb⟩
      clear f1 f2 f3 f4 f5 f6 f7 f8 f9
      have J5 := Lib.hid (J4.out.on hb)
      clear hb
      obtain ⟨f1, f2, f3⟩ := J5.out.2.2.1.c3
      obtain ⟨f4, f5, f6⟩ := J5.out.2.2.2.1.c3
      obtain ⟨f7, f8, f9⟩ := J5.out.2.2.2.2.c3
      go_wp2_with fail
      refine Calls.mono (W1.out _) ?_
      rintro e w6 ⟨rfl, hb⟩
      clear f1 f2 f3 f4 f5 f6 f7 f8 f9
      have J6 := Lib.hid (J5.out.on hb)
      clear hb
      obtain ⟨f1, f2, f3⟩ := J6.out.2.2.1.c3
      obtain ⟨f4, f5, f6⟩ := J6.out.2.2.2.1.c3
      obtain ⟨f7, f8, f9⟩ := J6.out.2.2.2.2.c3
      go_wp2_with fail
      refine Calls.mono (W2.out _) ?_
      rintro e w7 ⟨rfl, hb⟩
      clear f1 f2 f3 f4 f5 f6 f7 f8 f9
      have J7 := Lib.hid (J6.out.on hb)
      clear hb
      obtain ⟨f1, f2, f3⟩ := J7.out.2.2.1.c3
      obtain ⟨f4, f5, f6⟩ := J7.out.2.2.2.1.c3
      obtain ⟨f7, f8, f9⟩ := J7.out.2.2.2.2.c3
      go_wp2
      go_ret
      exact ⟨rfl, J7.out.1⟩

set_option maxRecDepth 100000 in
theorem contract (H : Type) (enc : TypeId × Value → H) (W : World) (base : Nat) (args : Array Value) (ds gs : List (DataW H)) (before : List MemPlace)
    (hval0 : ∀ (j : Nat) t v, Tryd.f8.params[j]? = some t → args[j]? = some v → Value.okWide Tryd.prog W .any base t v)
    (hW : DataW.Whole enc Tryd.prog Tryd.f8.params.toList Rows.addrOrdersSpec.vars false W args.toList ds gs before)
    (hsz0 : (DataW.weightsEach Tryd.prog (Tryd.f8.params.toList ++ Rows.addrOrdersSpec.plain.varTypes Tryd.prog) (ds ++ gs)).all (· ≤ reachBytes) = true) (hE : Env W) :
    Calls Tryd.prog 8 args W fun e W' => ∃ v, e = .returned v ∧ Rows.addrOrdersSpec.post enc Tryd.prog Tryd.f8 false true false false W args v W' := by
  have hsz := hsz0
  clear hsz0
  have hval := hval0
  clear hval0
  have hW' := hW
  obtain ⟨p, q, hA0, hV, rfl, hfz, hnd⟩ := hW
  have hA : DataW.TrodAll enc Tryd.prog W 0 (fun _ => true) true Tryd.f8.params.toList args.toList ds p := hA0
  rw [Tryd.params8] at hA hval hsz
  obtain ⟨v0, vs0, d0, ds0, p0, q0, hargs, rfl, rfl, h0, r0⟩ := trodAll_cons hA
  obtain ⟨v1, vs1, d1, ds1, p1, q1, rfl, rfl, rfl, h1, r1⟩ := trodAll_cons r0
  obtain ⟨v2, vs2, d2, ds2, p2, q2, rfl, rfl, rfl, h2, r2⟩ := trodAll_cons r1
  obtain ⟨rfl, rfl, rfl⟩ := trodAll_nil r2
  obtain rfl : args = #[v0, v1, v2] := by cases args; simp_all
  obtain ⟨rfl, rfl⟩ := trodVars_none hV
  have k0 := h0
  have lt0 : ∀ x ∈ p0, x.block < W.heap.size := by obtain ⟨m, hm⟩ := k0; exact DataW.trod_lt m _ _ _ hm
  obtain ⟨v0_0, v0_1, v0_2, y0_0, y0_1, y0_2, n0, rfl, ed0, ep0, f0_0, f0_1, f0_2⟩ := Go.Joins.open_agg3 Tryd.underlying25 (by kernel_rfl) (by kernel_rfl) (hval 0 25 v0 rfl rfl) h0
  obtain ⟨a0_0, e0_0, _⟩ := DataW.trod_bool Tryd.underlying4 f0_0
  injection e0_0 with e0_0 _
  subst e0_0
  obtain ⟨a0_1, e0_1, _, w0_1⟩ := DataW.trod_int Tryd.underlying23 f0_1
  injection e0_1 with e0_1 _
  subst e0_1
  obtain ⟨a0_2, e0_2, _, w0_2⟩ := DataW.trod_int Tryd.underlying23 f0_2
  injection e0_2 with e0_2 _
  subst e0_2
  have k1 := h1
  have lt1 : ∀ x ∈ p1, x.block < W.heap.size := by obtain ⟨m, hm⟩ := k1; exact DataW.trod_lt m _ _ _ hm
  obtain ⟨v1_0, v1_1, v1_2, y1_0, y1_1, y1_2, n1, rfl, ed1, ep1, f1_0, f1_1, f1_2⟩ := Go.Joins.open_agg3 Tryd.underlying25 (by kernel_rfl) (by kernel_rfl) (hval 1 25 v1 rfl rfl) h1
  obtain ⟨a1_0, e1_0, _⟩ := DataW.trod_bool Tryd.underlying4 f1_0
  injection e1_0 with e1_0 _
  subst e1_0
  obtain ⟨a1_1, e1_1, _, w1_1⟩ := DataW.trod_int Tryd.underlying23 f1_1
  injection e1_1 with e1_1 _
  subst e1_1
  obtain ⟨a1_2, e1_2, _, w1_2⟩ := DataW.trod_int Tryd.underlying23 f1_2
  injection e1_2 with e1_2 _
  subst e1_2
  have k2 := h2
  have lt2 : ∀ x ∈ p2, x.block < W.heap.size := by obtain ⟨m, hm⟩ := k2; exact DataW.trod_lt m _ _ _ hm
  obtain ⟨v2_0, v2_1, v2_2, y2_0, y2_1, y2_2, n2, rfl, ed2, ep2, f2_0, f2_1, f2_2⟩ := Go.Joins.open_agg3 Tryd.underlying25 (by kernel_rfl) (by kernel_rfl) (hval 2 25 v2 rfl rfl) h2
  obtain ⟨a2_0, e2_0, _⟩ := DataW.trod_bool Tryd.underlying4 f2_0
  injection e2_0 with e2_0 _
  subst e2_0
  obtain ⟨a2_1, e2_1, _, w2_1⟩ := DataW.trod_int Tryd.underlying23 f2_1
  injection e2_1 with e2_1 _
  subst e2_1
  obtain ⟨a2_2, e2_2, _, w2_2⟩ := DataW.trod_int Tryd.underlying23 f2_2
  injection e2_2 with e2_2 _
  subst e2_2
  clear hA0
  refine (walk W hE a0_0 a0_1 w0_1 a0_2 w0_2 a1_0 a1_1 w1_1 a1_2 w1_2 a2_0 a2_1 w2_1 a2_2 w2_2).mono fun e W' ⟨he, bel⟩ => ?_
  subst he
  exact ⟨_, rfl, _, _, _, [], _, [], hW', trodAll_mk1 (shut_bool Tryd.underlying4 _), (trodAll_cons_mk (Below.trod laidOut (by kernel_rfl) (of_decide_eq_true (by kernel_rfl)) k0 bel lt0) (trodAll_cons_mk (Below.trod laidOut (by kernel_rfl) (of_decide_eq_true (by kernel_rfl)) k1 bel lt1) (trodAll_cons_mk (Below.trod laidOut (by kernel_rfl) (of_decide_eq_true (by kernel_rfl)) k2 bel lt2) trodAll_mk0))), rfl, bel.frame _, fun h => by cases h⟩

theorem laid_met (os : Os) (args : Array Value) : laidMet Tryd.prog Rows.addrOrdersRow.laid ((World.laidAll Tryd.prog os Rows.addrOrdersRow.laid).forCall (fun _ _ => 0) ⟨#[], args, []⟩).memory :=
  laidMet_laidAll _ (by kernel_rfl) (by kernel_rfl)
set_option maxRecDepth 100000 in
theorem pre_row (os : Os) {H : Type} (enc : TypeId × Value → H) :
    (OpenSpec.ofChange Rows.addrOrdersSpec).preRow enc Tryd.prog Tryd.f8 Rows.addrOrdersRow.domain false Rows.addrOrdersRow.laid ((World.laidAll Tryd.prog os Rows.addrOrdersRow.laid).forCall (fun _ _ => 0) ⟨#[], #[.agg #[.bool false, .int .u64 0, .int .u64 0], .agg #[.bool false, .int .u64 0, .int .u64 0], .agg #[.bool false, .int .u64 0, .int .u64 0]], []⟩).memory #[.agg #[.bool false, .int .u64 0, .int .u64 0], .agg #[.bool false, .int .u64 0, .int .u64 0], .agg #[.bool false, .int .u64 0, .int .u64 0]] := by
  exact ⟨⟨ChangeSpec.pre_of_preB (fuel := 8) (by kernel_rfl), by rw [MakeChecks.laidMetH_plain _ _ _ (by kernel_rfl)]; exact laid_met os _⟩, sizedMet_of_sizedB (fuel := 8) (by kernel_rfl)⟩
set_option maxRecDepth 100000 in
theorem lifted (os : Os) (started : os.Started) (H : Type) (enc : TypeId × Value → H) (F : Stop.Interp) :
    ReturnsInHanded {} Tryd.checked os 8 .any ((OpenSpec.ofChange Rows.addrOrdersSpec).preRow enc Tryd.prog Tryd.f8 Rows.addrOrdersRow.domain false Rows.addrOrdersRow.laid) (((OpenSpec.ofChange Rows.addrOrdersSpec).at F).post enc Tryd.prog Tryd.f8 false true false false) := by
  refine returnsInHanded_of_row (C := Tryd.checked) (s := (OpenSpec.ofChange Rows.addrOrdersSpec)) own started (by kernel_rfl) Tryd.func8
    ⟨World.laidAll Tryd.prog os Rows.addrOrdersRow.laid, fun _ _ => 0, ⟨#[], #[.agg #[.bool false, .int .u64 0, .int .u64 0], .agg #[.bool false, .int .u64 0, .int .u64 0], .agg #[.bool false, .int .u64 0, .int .u64 0]], []⟩, World.laidAll_os _ _ _, World.shaped_of_ZipB (by kernel_rfl) (by kernel_rfl), rfl, (Input.okWide_of_okWideB (by kernel_rfl)).2, pre_row os enc, (by simp only [Assume.holds]; exact ⟨by simp, by simp, fun _ => Modest.zero, by simp, by simp⟩)⟩ ?_
  intro W base args ds gs before hval hW _ hcond hsz hL hsh _
  rw [MakeChecks.laidMetH_plain _ _ _ (by kernel_rfl)] at hL
  exact contract H enc W base args ds gs before hval hW hsz (env_of hL hsh)

theorem over : Rows.addrOrdersRow.holds Tryd.pinned (OpenSpec.ofChange Rows.addrOrdersSpec) :=
  OpenClaim.holds_of_cond 8 Tryd.f8 rfl rfl rfl rfl rfl rfl rfl ⟨rfl, rfl, rfl, rfl, rfl⟩ rfl rfl rfl rfl rfl (by kernel_rfl) Tryd.func8 (by kernel_rfl)
    (of_decide_eq_true (by kernel_rfl)) (by unfold Func.isWrapper; first | (rw [if_pos (by decide +kernel)]; kernel_rfl) | (rw [if_neg (by decide +kernel)]; exact ⟨rfl, rfl⟩))
    (fun os started H enc _ F => by rw [OpenClaim.pre_eq_preRow]; exact lifted os started H enc F)

theorem proved : Rows.AddrOrdersCardSaid :=
  Claim7.holds_tied_plain_at .later [] Rows.addrOrdersCard.laidKinds true Rows.addrOrdersCard.stood.harness true over (fun _ h => by cases h) (by kernel_rfl) (fun _ h => by cases h) addrOrders_row_tie rfl ⟨rfl, rfl⟩ (by kernel_rfl) rfl
    (fun f fn hf hfn => by
      obtain rfl : f = 8 := Option.some.inj ((show Tryd.prog.funcNamed Rows.addrOrdersRow.func = some 8 by kernel_rfl).symm.trans hf) |>.symm
      obtain rfl : fn = Tryd.f8 := (Option.some.inj (Tryd.func8.symm.trans hfn)).symm
      exact ⟨by kernel_rfl, fun j t ht => by
        rw [Tryd.params8] at ht
        have hm : t ∈ [25] := by simpa using Array.mem_of_getElem? ht
        have hall : ([25].all fun u => !Tryd.prog.wantsStandIn u) = true := by kernel_rfl
        exact (show Tryd.prog.wantsStandIn t = false by simpa using List.all_eq_true.1 hall t hm)⟩)
    (by kernel_rfl)
#print axioms proved
end Go.Proofs.YtdifdhcljgakhaaDoor.Orders
