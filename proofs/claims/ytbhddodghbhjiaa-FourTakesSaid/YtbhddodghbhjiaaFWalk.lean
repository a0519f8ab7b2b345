/-
  ip4.walk: a function is handed each option, in order.
-/
import Derived.Test.YtbhddodghbhjiaaFNum
import Derived.Test.YtbhddodghbhjiaaMake
import Derived.ScopeJumps
import Derived.Lib.Hide
import Derived.Lib.Strings
import Derived.WalkMore
namespace Go.Proofs.Ytbhddodghbhjiaa
open Go.RowKit
set_option linter.unusedVariables false

section
variable {P : Program} {a : Act} {w : World} {Q : Exit → Act → World → Prop}
/-- As Q; by a goto: what holds at its label. -/
def jumps (J : Nat → Act → World → Prop) (Q : Exit → Act → World → Prop) : Exit → Act → World → Prop
  | .goto l, a, w => J l a w
  | e, a, w => Q e a w
/-- A scope with two labels, the first of which is come to from ahead: what holds at each, and a measure that each jump lowers. -/
theorem wp_scope_two {pre b b1 : Code} (l0 l1 : Nat) (J0 J1 : Act → World → Prop) (μ0 μ1 : Act → World → Nat)
    (hf0 : findLabel (.seq pre (.seq (.label l0) b)) l0 = some (.seq .skip b)) (hf1 : findLabel (.seq pre (.seq (.label l0) b)) l1 = some (.seq .skip b1))
    (hpre : pre.wp P (fun e a w => e = .normal ∧ J0 a w) a w)
    (pass0 : ∀ a w, J0 a w → b.wp P (jumps (fun l a' w' => (l = l0 ∧ J0 a' w' ∧ μ0 a' w' < μ0 a w) ∨ (l = l1 ∧ J1 a' w' ∧ μ1 a' w' < μ0 a w)) Q) a w)
    (pass1 : ∀ a w, J1 a w → b1.wp P (jumps (fun l a' w' => (l = l0 ∧ J0 a' w' ∧ μ0 a' w' < μ1 a w) ∨ (l = l1 ∧ J1 a' w' ∧ μ1 a' w' < μ1 a w)) Q) a w) :
    (Code.scope (.seq pre (.seq (.label l0) b))).wp P Q a w := by
  intro bb k cs
  have hg0 : gotoIn l0 (.inScope (.seq pre (.seq (.label l0) b)) :: k) = some (.code (.seq .skip b) :: .inScope (.seq pre (.seq (.label l0) b)) :: k) := by simp [gotoIn, hf0]
  have hg1 : gotoIn l1 (.inScope (.seq pre (.seq (.label l0) b)) :: k) = some (.code (.seq .skip b1) :: .inScope (.seq pre (.seq (.label l0) b)) :: k) := by simp [gotoIn, hf1]
  have key : ∀ n a w, ((μ0 a w = n ∧ J0 a w) → ∃ e a' w', Q e a' w' ∧ Arrives P (lone (bb.at a (.code (.seq .skip b) :: .inScope (.seq pre (.seq (.label l0) b)) :: k)) cs w) bb k cs e a' w') ∧
      ((μ1 a w = n ∧ J1 a w) → ∃ e a' w', Q e a' w' ∧ Arrives P (lone (bb.at a (.code (.seq .skip b1) :: .inScope (.seq pre (.seq (.label l0) b)) :: k)) cs w) bb k cs e a' w') := by
    intro n
    induction n using Nat.strongRecOn with
    | _ n ih =>
      have go : ∀ (c : Code) a w, c.wp P (jumps (fun l a' w' => (l = l0 ∧ J0 a' w' ∧ μ0 a' w' < n) ∨ (l = l1 ∧ J1 a' w' ∧ μ1 a' w' < n)) Q) a w →
          ∃ e a' w', Q e a' w' ∧ Arrives P (lone (bb.at a (.code c :: .inScope (.seq pre (.seq (.label l0) b)) :: k)) cs w) bb k cs e a' w' := by
        intro c a w h
        obtain ⟨e, a₁, w₁, hq, harr⟩ := h bb (.inScope (.seq pre (.seq (.label l0) b)) :: k) cs
        cases e with
        | normal => exact ⟨.normal, a₁, w₁, hq, Steps.trans harr (.one step_inScope)⟩
        | exit id => exact ⟨.exit id, a₁, w₁, hq, fun k' hk => harr k' (by simp [exitTo, hk])⟩
        | goto l' =>
          rcases hq with ⟨rfl, hJ', hlt⟩ | ⟨rfl, hJ', hlt⟩
          · obtain ⟨e₂, a₂, w₂, hq₂, harr₂⟩ := (ih _ hlt a₁ w₁).1 ⟨rfl, hJ'⟩
            exact ⟨e₂, a₂, w₂, hq₂, .of_steps (harr _ hg0) harr₂⟩
          · obtain ⟨e₂, a₂, w₂, hq₂, harr₂⟩ := (ih _ hlt a₁ w₁).2 ⟨rfl, hJ'⟩
            exact ⟨e₂, a₂, w₂, hq₂, .of_steps (harr _ hg1) harr₂⟩
        | ret => exact ⟨_, a₁, w₁, hq, harr⟩
        | panic ch => exact ⟨_, a₁, w₁, hq, harr⟩
        | outgrown => exact ⟨_, a₁, w₁, hq, harr⟩
      intro a w
      exact ⟨fun ⟨hn, hJ⟩ => by subst hn; exact go _ a w (wp_seq (wp_skip (pass0 a w hJ))), fun ⟨hn, hJ⟩ => by subst hn; exact go _ a w (wp_seq (wp_skip (pass1 a w hJ)))⟩
  have first : (Code.seq pre (.seq (.label l0) b)).wp P (jumps (fun l a' w' => (l = l0 ∧ J0 a' w') ∨ (l = l1 ∧ J1 a' w')) Q) a w := by
    refine wp_seq (wp_mono hpre ?_)
    rintro e a w ⟨rfl, hJ⟩
    refine wp_seq (wp_label (wp_mono (pass0 a w hJ) ?_))
    intro e a' w' h
    cases e with
    | goto l =>
      rcases h with ⟨h1, h2, _⟩ | ⟨h1, h2, _⟩
      · exact .inl ⟨h1, h2⟩
      · exact .inr ⟨h1, h2⟩
    | normal => exact h
    | exit id => exact h
    | ret => exact h
    | panic ch => exact h
    | outgrown => exact h
  obtain ⟨e, a₁, w₁, hq, harr⟩ := first bb (.inScope (.seq pre (.seq (.label l0) b)) :: k) cs
  cases e with
  | normal => exact ⟨.normal, a₁, w₁, hq, .head step_scope (Steps.trans harr (.one step_inScope))⟩
  | exit id => exact ⟨.exit id, a₁, w₁, hq, fun k' hk => .head step_scope (harr k' (by simp [exitTo, hk]))⟩
  | goto l' =>
    rcases hq with ⟨rfl, hJ'⟩ | ⟨rfl, hJ'⟩
    · obtain ⟨e₂, a₂, w₂, hq₂, harr₂⟩ := (key _ a₁ w₁).1 ⟨rfl, hJ'⟩
      exact ⟨e₂, a₂, w₂, hq₂, .of_steps (.head step_scope (harr _ hg0)) harr₂⟩
    · obtain ⟨e₂, a₂, w₂, hq₂, harr₂⟩ := (key _ a₁ w₁).2 ⟨rfl, hJ'⟩
      exact ⟨e₂, a₂, w₂, hq₂, .of_steps (.head step_scope (harr _ hg1)) harr₂⟩
  | ret => exact ⟨_, a₁, w₁, hq, .of_steps (.one step_scope) harr⟩
  | panic ch => exact ⟨_, a₁, w₁, hq, .of_steps (.one step_scope) harr⟩
  | outgrown => exact ⟨_, a₁, w₁, hq, .of_steps (.one step_scope) harr⟩
end

theorem byte_ne {c : UInt8} (h : ¬ c = 0) : ¬ c.toNat = 0 := fun e => h (by rw [← UInt8.ofNat_toNat (x := c), e]; rfl)
theorem byte_ne1 {c : UInt8} (h : ¬ c = 1) : ¬ c.toNat = 1 := fun e => h (by rw [← UInt8.ofNat_toNat (x := c), e]; rfl)
theorem Gd.pos {x : List UInt8} (h : Gd x) : 1 ≤ x.length := by
  rcases h with rfl | ⟨c, n, q, rfl, _, _, _⟩ <;> simp
/-- What walk answers. -/
def WkPost (I : List (List UInt8) → World → Prop) (r : Option (List (List UInt8))) (e : Ending) (w : World) : Prop :=
  match r with
  | some os => e = .returned (.bool true) ∧ I os w
  | none => e = .returned (.bool false) ∧ ∃ os, I os w

/-- What holds at the next one. -/
def WkJ (s : ByteArray) (FV : Value) (I : List (List UInt8) → World → Prop) (a : Act) (w : World) : Prop :=
  ∃ (at_ : Nat) (sz : Int) (os : List (List UInt8)) (u2 u3 u7 u8 u9 u10 u11 u12 u13 u14 u15 u16 u17 u18 u19 u20 u21 u22 u23 u24 u25 u26 u27 u28 u29 u30 u31 u32 u33 u34 u35 u36 u37 u38 u39 u40 u41 u42 u43 u44 u45 u46 u47 u48 u49 u50 u51 : Value), a = { tmps := #[.string s, FV, u2, u3, .bool false, .int .i64 ((at_ : Int)), .int .i64 (sz), u7, u8, u9, u10, u11, u12, u13, u14, u15, u16, u17, u18, u19, u20, u21, u22, u23, u24, u25, u26, u27, u28, u29, u30, u31, u32, u33, u34, u35, u36, u37, u38, u39, u40, u41, u42, u43, u44, u45, u46, u47, u48, u49, u50, u51], defers := [] } ∧ at_ ≤ s.size ∧ Hid (I os w ∧ os.flatten.length ≤ at_ ∧ opn s.data.toList = (opn (s.data.toList.drop at_)).map (os ++ ·))
/-- What holds where one was found that stands alone. -/
def WkK (s : ByteArray) (FV : Value) (I : List (List UInt8) → World → Prop) (a : Act) (w : World) : Prop :=
  ∃ (at_ : Nat) (os : List (List UInt8)) (u2 u3 u7 u8 u9 u10 u11 u12 u13 u14 u15 u16 u17 u18 u19 u20 u21 u22 u23 u24 u25 u26 u27 u28 u29 u30 u31 u32 u33 u34 u35 u36 u37 u38 u39 u40 u41 u42 u43 u44 u45 u46 u47 u48 u49 u50 u51 : Value), a = { tmps := #[.string s, FV, u2, u3, .bool false, .int .i64 ((at_ : Int)), .int .i64 (1), u7, u8, u9, u10, u11, u12, u13, u14, u15, u16, u17, u18, u19, u20, u21, u22, u23, u24, u25, u26, u27, u28, u29, u30, u31, u32, u33, u34, u35, u36, u37, u38, u39, u40, u41, u42, u43, u44, u45, u46, u47, u48, u49, u50, u51], defers := [] } ∧ at_ ≤ s.size ∧ Hid (I os w ∧ os.flatten.length ≤ at_ ∧ opn s.data.toList = (opn (s.data.toList.drop at_)).map (os ++ ·)) ∧ s.data.toList[at_]? = some 1


set_option maxRecDepth 100000 in
set_option maxHeartbeats 4000000 in
theorem walk_any (F : Nat) (hF : ∀ (xs : Array Value) (W : World), (callFunc F xs).run Try.prog W = .ok (.enter F xs) W) (caps : Array Value) (I : List (List UInt8) → World → Prop) (s : ByteArray) (hs : s.size ≤ 281474976710656)
    (hcall : ∀ (os : List (List UInt8)) (t : ByteArray) (W : World), Gd t.data.toList → os.flatten.length + t.size ≤ s.size → I os W →
      Calls Try.prog F (#[.string t] ++ caps) W fun e W' => e = .returned (.tuple #[]) ∧ I (os ++ [t.data.toList]) W')
    (w : World) (hI : I [] w) : Calls Try.prog 53 #[.string s, .func (.func F) #[] caps] w fun e w' => WkPost I (opn s.data.toList) e w' := by
  have HCall := Lib.hid hcall
  have HCF := Lib.hid hF
  have hlen : s.data.toList.length = s.size := (Lib.size_eq s).symm
  have HLen := Lib.hid hlen
  have HI0 := Lib.hid hI
  clear hcall hI hlen hF
  go_enter Try.func53, Try.ntmps53
  go_wp2_with fail
  refine wp_scope_two 0 1 (WkJ s (.func (.func F) #[] caps) I) (WkK s (.func (.func F) #[] caps) I) (fun a' _ => 2 * (s.size - (intOf (a'.tmps.getD 5 undef)).toNat) + 1) (fun a' _ => 2 * (s.size - (intOf (a'.tmps.getD 5 undef)).toNat)) rfl rfl ?_ ?_ ?_
  · go_wp2
    exact ⟨0, 0, [], _, _, _, _, _, _, _, _, _, _, _, _, _, _, _, _, _, _, _, _, _, _, _, _, _, _, _, _, _, _, _, _, _, _, _, _, _, _, _, _, _, _, _, _, _, _, _, rfl, Nat.zero_le _, Lib.hid ⟨HI0.out, by simp, by rw [List.drop_zero]; cases opn s.data.toList <;> simp⟩⟩
  · rintro a' w' ⟨at_, sz, os, u2, u3, u7, u8, u9, u10, u11, u12, u13, u14, u15, u16, u17, u18, u19, u20, u21, u22, u23, u24, u25, u26, u27, u28, u29, u30, u31, u32, u33, u34, u35, u36, u37, u38, u39, u40, u41, u42, u43, u44, u45, u46, u47, u48, u49, u50, u51, rfl, hat, hH⟩
    by_cases hlt : at_ < s.size
    · have hget : s.data.toList[at_]? = some s[at_] := by
        rw [List.getElem?_eq_getElem (by rw [HLen.out]; exact hlt)]; rfl
      have hne : ((at_ : Int) == (s.size : Int)) = false := by simp; omega
      by_cases h0 : s[at_] = 0
      · have hb : ((s[at_].toNat : Int) == 0) = true := by rw [h0]; rfl
        have HX : Hid (opn s.data.toList = some os) := Lib.hid (by rw [hH.out.2.2, opn_at_zero (by rw [hget, h0])]; simp)
        clear h0 hget
        go_wp2
        simp only [jumps]
        go_ret
        unfold WkPost
        rw [HX.out]
        exact ⟨rfl, hH.out.1⟩
      · have hb : ((s[at_].toNat : Int) == 0) = false := by have := byte_ne h0; simp; omega
        by_cases h1 : s[at_] = 1
        · have hb1 : ((s[at_].toNat : Int) == 1) = true := by rw [h1]; rfl
          have HG : Hid (s.data.toList[at_]? = some 1) := Lib.hid (by rw [hget, h1])
          clear h0 h1 hget
          go_wp2
          go_step3
          refine .inr ⟨rfl, ⟨at_, os, _, _, _, _, _, _, _, _, _, _, _, _, _, _, _, _, _, _, _, _, _, _, _, _, _, _, _, _, _, _, _, _, _, _, _, _, _, _, _, _, _, _, _, _, _, _, _, rfl, hat, hH, HG.out⟩, ?_⟩
          simp [intOf]
        · have hb1 : ((s[at_].toNat : Int) == 1) = false := by have := byte_ne1 h1; simp; omega
          by_cases h2 : s.size = at_ + 1
          · have hs1 : IntKind.i64.wrap ((s.size : Int) - at_) = 1 := by rw [h2, IntKind.wrap_i64]; omega
            have hlt2 : (s.size : Int) - at_ < 2 := by omega
            have HX : Hid (opn s.data.toList = none) := Lib.hid (by rw [hH.out.2.2, opn_at_lone hget h0 h1 (by rw [HLen.out]; exact h2)]; rfl)
            clear h0 h1 hget
            go_wp2
            simp only [jumps]
            go_ret
            unfold WkPost
            rw [HX.out]
            exact ⟨rfl, os, hH.out.1⟩
          · have hlt1 : at_ + 1 < s.size := by omega
            have hget1 : s.data.toList[at_ + 1]? = some s[at_ + 1] := by
              rw [List.getElem?_eq_getElem (by rw [HLen.out]; exact hlt1)]; rfl
            have hge2 : ¬ (s.size : Int) - at_ < 2 := by omega
            have hn1 : ((at_ : Int) + 1).toNat = at_ + 1 := by omega
            have hst := opn_at_two hget hget1 h0 h1
            obtain ⟨N, hN⟩ : ∃ N, s[at_ + 1].toNat = N := ⟨_, rfl⟩
            have hN2 : N < 256 := by rw [← hN]; exact UInt8.toNat_lt _
            rw [hN, HLen.out] at hst
            by_cases hbad : N < 2 ∨ s.size < at_ + N
            · rw [if_pos hbad] at hst
              have HX : Hid (opn s.data.toList = none) := Lib.hid (by rw [hH.out.2.2, hst]; rfl)
              have hcase : (N : Int) < 2 ∨ (¬ (N : Int) < 2 ∧ (s.size : Int) - at_ < N) := by omega
              clear h0 h1 hget hget1 hst hbad
              rcases hcase with hc | ⟨hc, hc2⟩
              all_goals
                go_wp2
                simp only [jumps]
                go_ret
                unfold WkPost
                rw [HX.out]
                exact ⟨rfl, os, hH.out.1⟩
            · rw [if_neg hbad] at hst
              have hc : ¬ (N : Int) < 2 := by omega
              have hc2 : ¬ (s.size : Int) - at_ < N := by omega
              obtain ⟨T, hT⟩ : ∃ T, s.extract at_ (at_ + N) = T := ⟨_, rfl⟩
              have hTs : T.size = N := by rw [← hT, ByteArray.size_extract]; omega
              have hTl : T.data.toList = (s.data.toList.drop at_).take N := by rw [← hT, ByteArray.data_extract, Array.toList_extract, List.extract_eq_take_drop, Nat.add_sub_cancel_left]
              have hgd : Gd T.data.toList := by
                obtain ⟨k1, e1⟩ := List.getElem?_eq_some_iff.1 hget
                obtain ⟨k2, e2⟩ := List.getElem?_eq_some_iff.1 hget1
                refine .inr ⟨s[at_], s[at_ + 1], (s.data.toList.drop (at_ + 2)).take (N - 2), ?_, h0, h1, ?_⟩
                · rw [hTl, List.drop_eq_getElem_cons k1, e1, List.drop_eq_getElem_cons k2, e2]
                  obtain ⟨m, rfl⟩ : ∃ m, N = m + 2 := ⟨N - 2, by omega⟩
                  rfl
                · rw [hN, List.length_take, List.length_drop, HLen.out]; omega
              have HC := Lib.hid (HCall.out os T w' hgd (by have := hH.out.2.1; omega) hH.out.1)
              have hst' : opn s.data.toList = (opn (s.data.toList.drop (at_ + N))).map ((os ++ [T.data.toList]) ++ ·) := by
                rw [hH.out.2.2, hst, hTl]
                cases opn (s.data.toList.drop (at_ + N)) <;> simp
              have HST := Lib.hid hst'
              have HTL : Hid (T.data.toList.length = N) := Lib.hid (by rw [← Lib.size_eq]; exact hTs)
              have hN0 : (at_ : Int) + N ≤ s.size := by omega
              have hnn : ((at_ : Int) + N).toNat = at_ + N := by omega
              clear h0 h1 hget hget1 hst hst' hbad hgd hTl
              go_wp2_with fail
              go_step3
              go_wp2_with fail
              rw [HCF.out, Oper.upon_enter]
              refine Calls.mono HC.out ?_
              rintro e w2 ⟨rfl, hi2⟩
              have HI2 := Lib.hid hi2
              clear hi2
              go_wp2
              go_step3
              refine .inl ⟨rfl, ⟨at_ + N, _, os ++ [T.data.toList], _, _, _, _, _, _, _, _, _, _, _, _, _, _, _, _, _, _, _, _, _, _, _, _, _, _, _, _, _, _, _, _, _, _, _, _, _, _, _, _, _, _, _, _, _, _, _, rfl, by omega, Lib.hid ⟨HI2.out, ?_, HST.out⟩⟩, ?_⟩
              · have := hH.out.2.1; have := HTL.out; simp only [List.flatten_append, List.flatten_cons, List.flatten_nil, List.append_nil, List.length_append]; omega
              · simp [intOf]; omega
    · have he : at_ = s.size := by omega
      have hee : ((at_ : Int) == (s.size : Int)) = true := by simp; omega
      have HX : Hid (opn s.data.toList = some os) := Lib.hid (by rw [hH.out.2.2, opn_at_end (by rw [HLen.out]; omega)]; simp)
      go_wp2
      simp only [jumps]
      go_ret
      unfold WkPost
      rw [HX.out]
      exact ⟨rfl, hH.out.1⟩
  · rintro a' w' ⟨at_, os, u2, u3, u7, u8, u9, u10, u11, u12, u13, u14, u15, u16, u17, u18, u19, u20, u21, u22, u23, u24, u25, u26, u27, u28, u29, u30, u31, u32, u33, u34, u35, u36, u37, u38, u39, u40, u41, u42, u43, u44, u45, u46, u47, u48, u49, u50, u51, rfl, hat, hH, hone⟩
    have hlt : at_ < s.size := by rw [← HLen.out]; exact (List.getElem?_eq_some_iff.1 hone).1
    obtain ⟨T, hT⟩ : ∃ T, s.extract at_ (at_ + 1) = T := ⟨_, rfl⟩
    have hTs : T.size = 1 := by rw [← hT, ByteArray.size_extract]; omega
    have hTl : T.data.toList = [1] := by
      rw [← hT, ByteArray.data_extract, Array.toList_extract, List.extract_eq_take_drop, Nat.add_sub_cancel_left]
      obtain ⟨k1, e1⟩ := List.getElem?_eq_some_iff.1 hone
      rw [List.drop_eq_getElem_cons k1, e1]; rfl
    have HC := Lib.hid (HCall.out os T w' (.inl hTl) (by have := hH.out.2.1; omega) hH.out.1)
    have HST : Hid (opn s.data.toList = (opn (s.data.toList.drop (at_ + 1))).map ((os ++ [T.data.toList]) ++ ·)) := Lib.hid (by
      rw [hH.out.2.2, opn_at_one hone, hTl]
      cases opn (s.data.toList.drop (at_ + 1)) <;> simp)
    have HTL : Hid (T.data.toList.length = 1) := Lib.hid (by rw [hTl]; rfl)
    have hN0 : (at_ : Int) + 1 ≤ s.size := by omega
    have hnn : ((at_ : Int) + 1).toNat = at_ + 1 := by omega
    clear hTl hone
    go_wp2_with fail
    rw [HCF.out, Oper.upon_enter]
    refine Calls.mono HC.out ?_
    rintro e w2 ⟨rfl, hi2⟩
    have HI2 := Lib.hid hi2
    clear hi2
    go_wp2
    go_step3
    refine .inl ⟨rfl, ⟨at_ + 1, _, os ++ [T.data.toList], _, _, _, _, _, _, _, _, _, _, _, _, _, _, _, _, _, _, _, _, _, _, _, _, _, _, _, _, _, _, _, _, _, _, _, _, _, _, _, _, _, _, _, _, _, _, _, rfl, by omega, Lib.hid ⟨HI2.out, ?_, HST.out⟩⟩, ?_⟩
    · have := hH.out.2.1; have := HTL.out; simp only [List.flatten_append, List.flatten_cons, List.flatten_nil, List.append_nil, List.length_append]; omega
    · simp [intOf]; omega
end Go.Proofs.Ytbhddodghbhjiaa
