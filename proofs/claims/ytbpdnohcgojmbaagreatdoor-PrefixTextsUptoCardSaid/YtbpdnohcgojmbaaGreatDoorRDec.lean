/-
  The document's own reading of a number of 0 to 255.
-/
import Derived.Test.YtbpdnohcgojmbaaGreatDoorDec
namespace Go.Proofs.YtbpdnohcgojmbaaGreatDoor
open Go.RowKit
set_option linter.unusedVariables false

/-- Digits read on from a number. -/
def dgA : Nat → List UInt8 → Option Nat
  | a, [] => some a
  | a, c :: r => if 48 ≤ c.toNat ∧ c.toNat ≤ 57 then dgA (10 * a + (c.toNat - 48)) r else none
theorem dgA_low : ∀ (l : List UInt8) (a u : Nat), dgA a l = some u → a * 10 ^ l.length ≤ u
  | [], a, u, h => by simp [dgA] at h; simp [h]
  | c :: r, a, u, h => by
    unfold dgA at h
    split at h
    · have h1 := dgA_low r _ u h
      rw [List.length_cons, Nat.pow_succ]
      refine Nat.le_trans ?_ h1
      rw [Nat.add_mul, Nat.mul_comm (10 ^ r.length) 10, ← Nat.mul_assoc, Nat.mul_comm a 10]
      omega
    · cases h
theorem dgA_ge (l : List UInt8) (a u : Nat) (h : dgA a l = some u) : a ≤ u :=
  Nat.le_trans (Nat.le_mul_of_pos_right _ (Nat.pos_of_ne_zero (by simp))) (dgA_low l a u h)
theorem pM_dg : ∀ (l : List UInt8) (a u : Nat), a ≤ 255 → (Lib.parseUintM 255 a l = .ok u ↔ dgA a l = some u ∧ u ≤ 255)
  | [], a, u, ha => by
    unfold Lib.parseUintM dgA
    constructor
    · intro h; cases h; exact ⟨rfl, ha⟩
    · rintro ⟨h, _⟩; cases h; rfl
  | c :: r, a, u, ha => by
    unfold Lib.parseUintM dgA
    by_cases hc : 48 ≤ c.toNat ∧ c.toNat ≤ 57
    · rw [if_pos hc, if_pos hc, if_neg (by omega), Nat.mul_comm a 10]
      by_cases h2 : 255 < 10 * a + (c.toNat - 48)
      · rw [if_pos h2]
        constructor
        · intro h; cases h
        · rintro ⟨h, hu⟩
          have := dgA_ge r _ u h
          omega
      · rw [if_neg h2]
        exact pM_dg r _ u (by omega)
    · rw [if_neg hc, if_neg hc]
      constructor
      · intro h; cases h
      · rintro ⟨h, _⟩; cases h
/-- What the document reads of a word: below 0, it is none. -/
def decV (l : List UInt8) : Int := if l = [] ∨ 3 < l.length ∨ (l.head? = some 48 ∧ 1 < l.length) then -1 else match dgA 0 l with
  | some n => if 255 < n then -1 else n
  | none => -1
theorem decV_decw (l : List UInt8) : decV l = match decw l with | some v => (v : Int) | none => -1 := by
  unfold decV decw
  by_cases h0 : l = []
  · subst h0; rfl
  by_cases hz : 1 < l.length ∧ l.head? = some 48
  · rw [if_pos (.inr (.inr ⟨hz.2, hz.1⟩)), if_pos hz]
  rw [if_neg hz]
  have hP : Lib.parseUintB 8 l = Lib.parseUintM 255 0 l := by unfold Lib.parseUintB; rw [if_neg h0]
  rw [hP]
  by_cases h3 : 3 < l.length
  · rw [if_pos (.inr (.inl h3))]
    cases hq : Lib.parseUintM 255 0 l
    · rename_i u
      exfalso
      obtain ⟨e1, e2⟩ := (pM_dg l 0 u (by decide)).1 hq
      match l, h0, h3, hz, e1 with
      | c :: r, _, h3, hz, e1 =>
        unfold dgA at e1
        split at e1
        · rename_i hc
          have h1 := dgA_low r _ u e1
          have hne : c ≠ 48 := fun e => hz ⟨by omega, by rw [e]; rfl⟩
          have h48 := byte48 c hne
          have h2 : 10 ^ 3 ≤ 10 ^ r.length := Nat.pow_le_pow_right (by decide) (by simp at h3; omega)
          have h4 : 1 * 10 ^ r.length ≤ (10 * 0 + (c.toNat - 48)) * 10 ^ r.length := Nat.mul_le_mul_right _ (by omega)
          omega
        · cases e1
    · rfl
    · rfl
  · rw [if_neg (by rintro (h | h | h); exact h0 h; exact h3 h; exact hz ⟨h.2, h.1⟩)]
    cases hd : dgA 0 l with
    | none =>
      cases hq : Lib.parseUintM 255 0 l
      · rename_i u
        rw [((pM_dg l 0 u (by decide)).1 hq).1] at hd; cases hd
      · rfl
      · rfl
    | some n =>
      by_cases hn : 255 < n
      · simp only [if_pos hn]
        cases hq : Lib.parseUintM 255 0 l
        · rename_i u
          obtain ⟨e1, e2⟩ := (pM_dg l 0 u (by decide)).1 hq
          rw [hd] at e1; cases e1; omega
        · rfl
        · rfl
      · simp only [if_neg hn]
        rw [(pM_dg l 0 n (by decide)).2 ⟨hd, by omega⟩]

theorem dgA_step {l : List UInt8} {a i : Nat} {c : UInt8} (h : l[i]? = some c) : dgA a (l.drop i) = if 48 ≤ c.toNat ∧ c.toNat ≤ 57 then dgA (10 * a + (c.toNat - 48)) (l.drop (i + 1)) else none := by
  obtain ⟨hi, e⟩ := List.getElem?_eq_some_iff.1 h
  rw [List.drop_eq_getElem_cons hi, e]
  rfl
set_option maxRecDepth 100000 in
set_option maxHeartbeats 4000000 in
theorem rdecimal_any (t : ByteArray) (w : World) :
    Calls Tryz.prog 39 #[.string t] w fun e w' => e = .returned (.int .i64 (decV t.data.toList)) ∧ w = w' := by
  have hl : t.size = t.data.toList.length := Lib.size_eq t
  obtain ⟨R, hR⟩ : ∃ R, decV t.data.toList = R := ⟨_, rfl⟩
  rw [hR]
  have HR := Lib.hid hR
  by_cases h0 : t.data.toList = []
  · have e : t = ⟨#[]⟩ := by
      apply ByteArray.ext
      simpa using h0
    subst e
    have hR1 : R = -1 := by rw [← hR]; rfl
    subst hR1
    clear hR HR h0 hl
    go_enter Tryz.func39, Tryz.ntmps39
    go_wp2
    go_ret
    exact ⟨rfl, rfl⟩
  · have hpos : 0 < t.size := by rw [hl]; exact List.length_pos_iff.2 h0
    have te : t.toList.isEmpty = false := by
      rw [List.isEmpty_eq_false_iff]
      intro e
      apply h0
      rw [← e]; simp [ByteArray.toList_eq]
    by_cases h3 : 3 < t.size
    · have hR1 : R = -1 := by rw [← hR]; unfold decV; rw [if_pos (.inr (.inl (by omega)))]
      subst hR1
      have h3' : (3 : Int) < t.size := by omega
      clear hR HR h0 hl h3 hpos
      go_enter Tryz.func39, Tryz.ntmps39
      go_wp2
      go_ret
      exact ⟨rfl, rfl⟩
    have h3' : ¬ (3 : Int) < t.size := by omega
    have hh := head_at t hpos
    by_cases hz : t[0] = 48 ∧ 1 < t.size
    · have hR1 : R = -1 := by rw [← hR]; unfold decV; rw [if_pos (.inr (.inr ⟨by rw [hh, hz.1], by omega⟩))]
      subst hR1
      have hq : ((t[0].toNat : Int) == 48) = true := by rw [hz.1]; rfl
      have h1' : (1 : Int) < t.size := by omega
      clear hR HR h0 hl h3 hz hh
      go_enter Tryz.func39, Tryz.ntmps39
      go_wp2
      go_ret
      exact ⟨rfl, rfl⟩
    · have hR2 : R = match dgA 0 t.data.toList with | some n => if 255 < n then -1 else (n : Int) | none => -1 := by
        rw [← hR]; unfold decV
        rw [if_neg (by
          rintro (x | x | ⟨x, y⟩)
          · exact h0 x
          · omega
          · rw [hh] at x; injection x with x; exact hz ⟨x, by omega⟩)]
      have hcond : Hid (((t[0].toNat : Int) == 48) = false ∨ (((t[0].toNat : Int) == 48) = true ∧ ¬ (1 : Int) < t.size)) := Lib.hid (by
        by_cases e : t[0] = 48
        · exact .inr ⟨by rw [e]; rfl, fun x => hz ⟨e, by omega⟩⟩
        · exact .inl (by have := byte48 _ e; simp; omega))
      have HR2 := Lib.hid hR2
      have s3 : t.size ≤ 3 := by omega
      have HL := Lib.hid hl
      clear hR HR hR2 h0 hl h3 hz hh
      rcases hcond.out with hq | ⟨hq, h1'⟩
      all_goals
        go_enter Tryz.func39, Tryz.ntmps39
        go_wp2
        go_loop [3, 4] (fun n i => ∃ k a : Nat, k ≤ t.size ∧ a < 10 ^ k ∧ i = .int .i64 (k : Int) ∧ n = .int .i64 (a : Int) ∧ Hid (dgA 0 t.data.toList = dgA a (t.data.toList.drop k))) (fun _ i => (t.size - (intOf i).toNat))
        case atStart => exact ⟨0, 0, by omega, by decide, rfl, rfl, Lib.hid (by simp)⟩
        case round =>
          obtain ⟨k, a, hk, ha, rfl, rfl, hd⟩ := hrel
          have ha3 : a < 1000 := Nat.lt_of_lt_of_le ha (Nat.pow_le_pow_right (n := 10) (i := k) (j := 3) (by decide) (by omega))
          by_cases hlt : k < t.size
          · have hget : t.data.toList[k]? = some t[k] := by
              rw [List.getElem?_eq_getElem (by rw [← HL.out]; exact hlt)]; rfl
            have hs := dgA_step (a := a) hget
            by_cases hc : 48 ≤ t[k].toNat ∧ t[k].toNat ≤ 57
            · rw [if_pos hc] at hs
              have HS := Lib.hid (hd.out.trans hs)
              obtain ⟨c1, c2⟩ := hc
              have c1' : ¬ (t[k].toNat : Int) < 48 := by omega
              have c2' : ¬ (57 : Int) < t[k].toNat := by omega
              have hw : IntKind.u8.wrap ((t[k].toNat : Int) - 48) = (t[k].toNat : Int) - 48 := by rw [IntKind.wrap_u8]; omega
              have hp : 10 * a + (t[k].toNat - 48) < 10 ^ (k + 1) := by rw [Nat.pow_succ]; omega
              clear hs hget hd
              have ha' : (a : Int) < 1000 := by omega
              go_wp2
              go_round
              case rel => exact ⟨k + 1, 10 * a + (t[k].toNat - 48), by omega, hp, by go_num, congrArg (Value.int .i64) (by omega), HS⟩
              case measure => simp [intOf]; omega
            · rw [if_neg hc] at hs
              have hR1 : R = -1 := by rw [HR2.out, hd.out, hs]
              subst hR1
              have hc' : ((t[k].toNat : Int) < 48) ∨ (¬ (t[k].toNat : Int) < 48 ∧ (57 : Int) < t[k].toNat) := by omega
              clear hs hget hd HR2 hc
              rcases hc' with hc1 | ⟨hc1, hc2⟩
              all_goals
                go_wp2
                go_ret
                exact ⟨rfl, rfl⟩
          · have ek : k = t.size := by omega
            have hnil : t.data.toList.drop k = [] := List.drop_eq_nil_of_le (by rw [← HL.out]; omega)
            have hR1 : R = if 255 < a then -1 else (a : Int) := by rw [HR2.out, hd.out, hnil]; rfl
            clear hnil hd HR2 ek
            by_cases hbig : 255 < a
            · rw [if_pos hbig] at hR1
              subst hR1
              have hb' : (255 : Int) < a := by omega
              go_wp2
              go_ret
              exact ⟨rfl, rfl⟩
            · rw [if_neg hbig] at hR1
              subst hR1
              have hb' : ¬ (255 : Int) < a := by omega
              go_wp2
              go_ret
              exact ⟨rfl, rfl⟩
end Go.Proofs.YtbpdnohcgojmbaaGreatDoor
