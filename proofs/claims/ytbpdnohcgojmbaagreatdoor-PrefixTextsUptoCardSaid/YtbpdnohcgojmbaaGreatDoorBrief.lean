/-
  Whatever text is read as an address, the text that it is told as is longer by one byte at most: plain numbers and texts.
-/
import Derived.Test.YtbpdnohcgojmbaaGreatDoorTrip
namespace Go.Proofs.YtbpdnohcgojmbaaGreatDoor
set_option linter.unusedVariables false

/-- Lengths of all, one more for each. -/
def brl : List (List UInt8) → Nat
  | [] => 0
  | x :: r => x.length + 1 + brl r
theorem brl_app (a b : List (List UInt8)) : brl (a ++ b) = brl a + brl b := by
  induction a with
  | nil => simp [brl]
  | cons x r ih => simp only [List.cons_append, brl, ih]; omega
theorem brl_tail (c : UInt8) (r : List (List UInt8)) : (Lib.joinTail [c] r).length = brl r := by
  induction r with
  | nil => rfl
  | cons x r ih =>
    have e : Lib.joinTail [c] (x :: r) = c :: (x ++ Lib.joinTail [c] r) := by simp [Lib.joinTail]
    rw [e, List.length_cons, List.length_append, ih]
    simp only [brl]; omega
theorem brl_join (c : UInt8) (ws : List (List UInt8)) : (Lib.join ws [c]).length = brl ws - 1 := by
  cases ws with
  | nil => rfl
  | cons x r =>
    rw [Lib.join_cons, List.length_append, brl_tail]
    simp only [brl]; omega
theorem brl_spl (c : UInt8) (s : List UInt8) : brl (spl c s) = s.length + 1 := by
  induction s with
  | nil => rfl
  | cons x r ih =>
    unfold spl
    split
    · simp only [brl, ih, List.length_nil, List.length_cons]; omega
    · split
      · rename_i h; rw [h] at ih; simp [brl] at ih
      · rename_i h t e
        rw [e] at ih
        simp only [brl, List.length_cons] at ih ⊢
        omega
theorem brl_alls {f : List UInt8 → Option Nat} {d : Nat → List UInt8} (hd : ∀ x v, f x = some v → (d v).length ≤ x.length) : ∀ {l : List (List UInt8)} {vs : List Nat}, alls f l = some vs → brl (vs.map d) ≤ brl l
  | [], vs, h => by cases h; exact Nat.le_refl _
  | x :: r, vs, h => by
    cases hx : f x with
    | none => rw [alls_cons_none hx] at h; cases h
    | some v =>
      rw [alls_cons_some hx] at h
      cases hr : alls f r with
      | none => rw [hr] at h; cases h
      | some us =>
        rw [hr] at h
        cases h
        have h1 := brl_alls hd hr
        have h2 := hd x v hx
        simp only [List.map_cons, brl]
        omega
theorem d16_short (x : List UInt8) (v : Nat) (h : hexw x = some v) : (d16 (v : Int)).length ≤ x.length := by
  have hl : (d16 (v : Int)).length = nhx v := by unfold d16 dhx; rw [List.length_map, lowd_len]
  unfold hexw at h
  split at h
  · cases h
  · rename_i hn
    have h1 := hexFrom_lt x 0 0 v (by decide) h
    rw [Nat.zero_add] at h1
    have h0 : x.length ≠ 0 := fun e => hn (.inl (List.eq_nil_of_length_eq_zero e))
    have h4 : ¬ 4 < x.length := fun e => hn (.inr e)
    rw [hl]
    unfold nhx
    rcases (show x.length = 1 ∨ x.length = 2 ∨ x.length = 3 ∨ x.length = 4 by omega) with e | e | e | e <;> rw [e] at h1 ⊢ <;> repeat (first | omega | split)
theorem parseM_lt (M : Nat) : ∀ (l : List UInt8) (acc k v : Nat), acc < 10 ^ k → Lib.parseUintM M acc l = .ok v → v < 10 ^ (k + l.length)
  | [], acc, k, v, ha, h => by
    unfold Lib.parseUintM at h
    cases h; simpa using ha
  | c :: r, acc, k, v, ha, h => by
    unfold Lib.parseUintM at h
    split at h
    · split at h
      · cases h
      · split at h
        · cases h
        · have h1 := parseM_lt M r _ (k + 1) v (by rw [Nat.pow_succ]; omega) h
          rw [List.length_cons, show k + (r.length + 1) = k + 1 + r.length by omega]
          exact h1
    · cases h
theorem d10_lens : ∀ m : Fin 256, (m.val < 10 → (Lib.decDigits m.val).length ≤ 1) ∧ (m.val < 100 → (Lib.decDigits m.val).length ≤ 2) ∧ (Lib.decDigits m.val).length ≤ 3 := by decide +kernel
theorem d10_short (x : List UInt8) (v : Nat) (h : decw x = some v) : (d10 (v : Int)).length ≤ x.length := by
  have h2 := decw_le h
  have hv : v < 256 := by omega
  have e1 : v < 10 → (Lib.decDigits v).length ≤ 1 := (d10_lens ⟨v, hv⟩).1
  have e2 : v < 100 → (Lib.decDigits v).length ≤ 2 := (d10_lens ⟨v, hv⟩).2.1
  have e3 : (Lib.decDigits v).length ≤ 3 := (d10_lens ⟨v, hv⟩).2.2
  have hd : (d10 (v : Int)).length = (Lib.decDigits v).length := rfl
  rw [hd]
  unfold decw at h
  split at h
  · cases h
  · split at h
    · rename_i u hu
      cases h
      unfold Lib.parseUintB at hu
      split at hu
      · cases hu
      · rename_i hne
        have h1 := parseM_lt _ x 0 0 v (by decide) hu
        rw [Nat.zero_add] at h1
        have h0 : x.length ≠ 0 := fun e => hne (List.eq_nil_of_length_eq_zero e)
        by_cases a1 : x.length = 1
        · rw [a1] at h1; have := e1 (by simpa using h1); omega
        · by_cases a2 : x.length = 2
          · rw [a2] at h1; have := e2 (by simpa using h1); omega
          · omega
    · cases h

/-- The longest sequence of noughts is the longest. -/
theorem lngAux_ge : ∀ (rest : List Int) (j p n r : Nat), n ≤ (lngAux rest j p n r).2
  | [], j, p, n, r => Nat.le_refl _
  | z :: rest, j, p, n, r => by
    unfold lngAux
    split
    · split
      · exact Nat.le_trans (by omega) (lngAux_ge rest _ _ _ _)
      · exact lngAux_ge rest _ _ _ _
    · exact lngAux_ge rest _ _ _ _
theorem lngAux_rep (b : List Int) : ∀ (k j p n r : Nat), r ≤ n → r + k ≤ (lngAux (List.replicate k 0 ++ b) j p n r).2
  | 0, j, p, n, r, h => Nat.le_trans (by omega) (lngAux_ge _ _ _ _ _)
  | k + 1, j, p, n, r, h => by
    rw [List.replicate_succ, List.cons_append]
    unfold lngAux
    rw [if_pos rfl]
    split
    · have := lngAux_rep b k (j + 1) (j + 1 - (r + 1)) (r + 1) (r + 1) (Nat.le_refl _); omega
    · have := lngAux_rep b k (j + 1) p n (r + 1) (by omega); omega
theorem lngAux_most (g : Nat) (b : List Int) : ∀ (f : List Int) (j p n r : Nat), r ≤ n → g ≤ (lngAux (f ++ (List.replicate g 0 ++ b)) j p n r).2
  | [], j, p, n, r, h => by have := lngAux_rep b g j p n r h; rw [List.nil_append]; omega
  | z :: f, j, p, n, r, h => by
    rw [List.cons_append]
    unfold lngAux
    split
    · split
      · exact lngAux_most g b f _ _ _ _ (by omega)
      · exact lngAux_most g b f _ _ _ _ (by omega)
    · exact lngAux_most g b f _ _ _ _ (by omega)
theorem lng_most (f b : List Int) (g : Nat) : g ≤ (lng (f ++ List.replicate g 0 ++ b)).2 := by
  rw [List.append_assoc]
  exact lngAux_most g b f 0 0 0 0 (Nat.le_refl _)

theorem brl_zero (n : Nat) : brl ((List.replicate n (0 : Int)).map d16) = 2 * n := by
  induction n with
  | zero => rfl
  | succ n ih =>
    rw [List.replicate_succ, List.map_cons]
    have e : (d16 0).length = 1 := by decide
    simp only [brl, ih, e]; omega
theorem lng_parts (zs : List Int) : zs = zs.take (lng zs).1 ++ List.replicate (lng zs).2 0 ++ zs.drop ((lng zs).1 + (lng zs).2) := by
  obtain ⟨s1, s2⟩ := lng_spec zs
  apply List.ext_getElem?
  intro i
  by_cases hi : i < (lng zs).1
  · rw [List.append_assoc, List.getElem?_append_left (by simp; omega), List.getElem?_take, if_pos hi]
  · by_cases hi2 : i < (lng zs).1 + (lng zs).2
    · rw [s2 i (by omega) hi2, List.getElem?_append_left (by simp; omega), List.getElem?_append_right (by simp; omega), List.getElem?_replicate, if_pos (by simp; omega)]
    · rw [List.getElem?_append_right (by simp; omega), List.getElem?_drop]
      congr 1
      simp
      omega
theorem brl_pos {ws : List (List UInt8)} (h : ws ≠ []) : 1 ≤ brl ws := by
  cases ws with
  | nil => exact absurd rfl h
  | cons x r => simp only [brl]; omega
theorem grps_short {s : List UInt8} {vs : List Nat} (h : grps s = some vs) : brl ((vs.map Int.ofNat).map d16) - 1 ≤ s.length ∧ brl ((vs.map Int.ofNat).map d16) ≤ s.length + 1 := by
  have : brl ((vs.map Int.ofNat).map d16) ≤ s.length + 1 := by
    unfold grps at h
    split at h
    · cases h; exact Nat.zero_le _
    · unfold grpFrom at h
      split at h
      · rename_i us hu
        split at h
        · cases h
          rw [List.nil_append, List.map_map]
          have := brl_alls (d := fun v => d16 (Int.ofNat v)) (fun x v hx => d16_short x v hx) hu
          rw [brl_spl] at this
          exact this
        · cases h
      · cases h
  omega
theorem prn6_short (zs f b : List Int) (g S : Nat) (hz : zs = f ++ List.replicate g 0 ++ b) (h8 : zs.length = 8) (hS : (g = 0 ∧ brl (f.map d16) ≤ S + 1 ∧ b = []) ∨ (1 ≤ g ∧ (brl (f.map d16) - 1) + 2 + (brl (b.map d16) - 1) ≤ S)) : (prn6 zs).length ≤ S + 1 := by
  have hg : g ≤ (lng zs).2 := by rw [hz]; exact lng_most f b g
  have t1 : brl (zs.map d16) = brl (f.map d16) + 2 * g + brl (b.map d16) := by
    rw [hz, List.map_append, List.map_append, brl_app, brl_app, brl_zero]
  have t2 : brl (zs.map d16) = brl ((zs.take (lng zs).1).map d16) + 2 * (lng zs).2 + brl ((zs.drop ((lng zs).1 + (lng zs).2)).map d16) := by
    conv => lhs; rw [lng_parts zs]
    rw [List.map_append, List.map_append, brl_app, brl_app, brl_zero]
  have hb0 : b = [] → brl (b.map d16) = 0 := by rintro rfl; rfl
  have hl := congrArg List.length (lng_parts zs)
  rw [List.length_append, List.length_append, List.length_replicate] at hl
  have hl2 := congrArg List.length hz
  rw [List.length_append, List.length_append, List.length_replicate] at hl2
  have P : ∀ ys : List Int, brl (ys.map d16) = 0 → ys.length = 0 := by
    intro ys h
    cases ys with
    | nil => rfl
    | cons y r => simp only [List.map_cons, brl] at h; omega
  have Q : ∀ ys : List Int, ys.length = 0 → brl (ys.map d16) = 0 := by
    intro ys h
    rw [List.eq_nil_of_length_eq_zero h]; rfl
  have p1 := P (zs.take (lng zs).1)
  have p2 := P (zs.drop ((lng zs).1 + (lng zs).2))
  have q1 := Q f
  have q2 := Q b
  unfold prn6
  split
  · rw [brl_join]
    rcases hS with ⟨a1, a2, a3⟩ | ⟨a1, a2⟩
    · have := hb0 a3; omega
    · by_cases c1 : brl (f.map d16) = 0 <;> by_cases c2 : brl (b.map d16) = 0 <;> omega
  · rw [List.length_append, List.length_append, brl_join, brl_join]
    simp only [List.length_cons, List.length_nil]
    generalize brl ((zs.take (lng zs).1).map d16) = T1 at *
    generalize brl ((zs.drop ((lng zs).1 + (lng zs).2)).map d16) = T2 at *
    generalize brl (f.map d16) = F1 at *
    generalize brl (b.map d16) = B1 at *
    rcases hS with ⟨a1, a2, a3⟩ | ⟨a1, a2⟩
    · have := hb0 a3; omega
    · by_cases c1 : T1 = 0
      · by_cases c2 : T2 = 0
        · have := p1 c1; have := p2 c2
          by_cases c3 : g = 8
          · have := q1 (by omega); have := q2 (by omega); omega
          · omega
        · omega
      · omega

theorem n4_bd {a b c d : Int} (ha : 0 ≤ a ∧ a ≤ 65535) (hb : 0 ≤ b ∧ b ≤ 65535) (hc : 0 ≤ c ∧ c ≤ 65535) (hd : 0 ≤ d ∧ d ≤ 65535) : U6 (n4 a b c d) ∧ gr (n4 a b c d) 0 = a ∧ gr (n4 a b c d) 1 = b ∧ gr (n4 a b c d) 2 = c ∧ gr (n4 a b c d) 3 = d := by
  rw [← gr_0, ← gr_1, ← gr_2, ← gr_3]
  unfold n4 U6
  omega
theorem put_four {bs : List Int} (h4 : bs.length = 4) (hb : By bs) : putOf 4 (numOf bs) = bs ∧ 0 ≤ numOf bs ∧ numOf bs ≤ 4294967295 := by
  obtain ⟨a, b, c, d, rfl⟩ : ∃ a b c d, bs = [a, b, c, d] := by
    match bs, h4 with
    | [a, b, c, d], _ => exact ⟨a, b, c, d, rfl⟩
  have ha := hb a (by simp)
  have hb' := hb b (by simp)
  have hc := hb c (by simp)
  have hd := hb d (by simp)
  simp only [putOf, numOf, List.foldl_cons, List.foldl_nil, List.nil_append, List.cons_append]
  refine ⟨?_, by omega, by omega⟩
  have e1 : (((0 * 256 + a) * 256 + b) * 256 + c) * 256 + d = ((a * 256 + b) * 256 + c) * 256 + d := by omega
  rw [e1]
  congr 1
  · omega
  · congr 1
    · omega
    · congr 1
      · omega
      · congr 1
        omega

/-- What a text is read as: nothing, or an address that is told as shortly. -/
theorem prs_short (s : List UInt8) : prsV s = .tuple #[adr false 0 0, .int .i64 20] ∨ ∃ x h l, prsV s = .tuple #[adr x h l, .int .i64 0] ∧ U6 h ∧ U6 l ∧ vld x h l = true ∧ (prn x h l).length ≤ s.length + 1 := by
  unfold prsV
  split
  · cases hs : six s with
    | none => exact .inl rfl
    | some vs =>
      refine .inr ?_
      have key : vs.length = 8 ∧ (∀ v ∈ vs, v < 65536) ∧ (prn6 (vs.map Int.ofNat)).length ≤ s.length + 1 := by
        unfold six at hs
        split at hs
        · rename_i f b hf hb
          split at hs
          · rename_i hc
            cases hs
            have lf := grps_lt hf
            have lb := grps_lt hb
            have f1 := grps_short hf
            have b1 := grps_short hb
            have nf := grps_len hf
            by_cases hlt : f.length + b.length < 8
            · have ht : (Lib.cut s [58, 58]).2.2 = true := by rw [hc]; simpa using hlt
              have hlen : (Lib.cut s [58, 58]).1.length + 2 + (Lib.cut s [58, 58]).2.1.length ≤ s.length := by
                revert ht
                have hr := Lib.index_room s [58, 58]
                unfold Lib.cut
                split
                · rename_i h0
                  intro _
                  have := hr h0
                  simp only [List.length_cons, List.length_nil] at this ⊢
                  rw [List.length_take, List.length_drop]
                  omega
                · intro h; cases h
              refine ⟨by simp; omega, ?_, ?_⟩
              · intro v hv
                rcases List.mem_append.1 hv with hv | hv
                · rcases List.mem_append.1 hv with hv | hv
                  · exact lf v hv
                  · have := List.eq_of_mem_replicate hv; omega
                · exact lb v hv
              · refine prn6_short _ (f.map Int.ofNat) (b.map Int.ofNat) (8 - f.length - b.length) s.length (by rw [List.map_append, List.map_append, List.map_replicate]; rfl) (by simp; omega) (.inr ⟨by omega, by omega⟩)
            · have ht : (Lib.cut s [58, 58]).2.2 = false := by rw [hc]; simpa using hlt
              have hlen : (Lib.cut s [58, 58]).1 = s ∧ (Lib.cut s [58, 58]).2.1 = [] := by
                revert ht
                unfold Lib.cut
                split
                · intro h; cases h
                · intro _; exact ⟨rfl, rfl⟩
              rw [hlen.1] at f1
              rw [hlen.2, show grps [] = some [] from rfl] at hb
              cases hb
              simp only [List.length_nil, Nat.add_zero] at hlt
              have h8 : f.length = 8 := by omega
              refine ⟨by simp [h8], ?_, ?_⟩
              · intro v hv
                exact lf v (by simpa [h8] using hv)
              · refine prn6_short _ (f.map Int.ofNat) [] 0 s.length (by simp [h8]) (by simp [h8]) (.inl ⟨rfl, f1.2, rfl⟩)
          · cases hs
        · cases hs
      obtain ⟨k1, k2, k3⟩ := key
      obtain ⟨a, b, c, d, e, f, g, i, rfl⟩ : ∃ a b c d e f g i, vs = [a, b, c, d, e, f, g, i] := by
        match vs, k1 with
        | [a, b, c, d, e, f, g, i], _ => exact ⟨a, b, c, d, e, f, g, i, rfl⟩
      have B : ∀ v ∈ [a, b, c, d, e, f, g, i], 0 ≤ Int.ofNat v ∧ Int.ofNat v ≤ 65535 := fun v hv => by have := k2 v hv; exact ⟨Int.natCast_nonneg _, by show (v : Int) ≤ 65535; omega⟩
      obtain ⟨u1, g0, g1, g2, g3⟩ := n4_bd (B a (by simp)) (B b (by simp)) (B c (by simp)) (B d (by simp))
      obtain ⟨u2, g4, g5, g6, g7⟩ := n4_bd (B e (by simp)) (B f (by simp)) (B g (by simp)) (B i (by simp))
      refine ⟨true, n4 (Int.ofNat a) (Int.ofNat b) (Int.ofNat c) (Int.ofNat d), n4 (Int.ofNat e) (Int.ofNat f) (Int.ofNat g) (Int.ofNat i), rfl, u1, u2, rfl, ?_⟩
      unfold prn
      rw [if_pos (vld_six _ _), if_pos rfl]
      unfold gsOf
      rw [g0, g1, g2, g3, g4, g5, g6, g7]
      exact k3
  · cases hs : four s with
    | none => exact .inl rfl
    | some vs =>
      refine .inr ?_
      unfold four fourFrom at hs
      split at hs
      · rename_i us hu
        split at hs
        · rename_i h4
          cases hs
          rw [List.nil_append]
          have h4' : (us.map Int.ofNat).length = 4 := by simpa using h4
          have hB : By (us.map Int.ofNat) := by
            intro z hz
            obtain ⟨v, hv, rfl⟩ := List.mem_map.1 hz
            obtain ⟨x, -, hx⟩ := alls_mem hu v hv
            have := decw_le hx
            exact ⟨Int.natCast_nonneg _, by show (v : Int) ≤ 255; omega⟩
          obtain ⟨p1, p2, p3⟩ := put_four h4' hB
          have hv : vld false 0 (numOf (us.map Int.ofNat)) = true := by simp [vld]; exact p3
          refine ⟨false, 0, _, rfl, ⟨by decide, by decide⟩, ⟨p2, by omega⟩, hv, ?_⟩
          unfold prn
          rw [if_pos hv, if_neg (by decide), p1, brl_join, List.map_map]
          have := brl_alls (d := fun v => d10 (Int.ofNat v)) (fun x v hx => d10_short x v hx) hu
          rw [brl_spl] at this
          have e : brl (us.map (d10 ∘ Int.ofNat)) ≤ s.length + 1 := this
          omega
        · cases hs
      · cases hs
end Go.Proofs.YtbpdnohcgojmbaaGreatDoor
