/-
  The document's own reading of a group.
-/
import Derived.Test.YtbpdnohcgojmbaaGreatDoorRDec
namespace Go.Proofs.YtbpdnohcgojmbaaGreatDoor
open Go.RowKit
set_option linter.unusedVariables false

/-- What the document reads of a group: below 0, it is none. -/
def grpN (l : List UInt8) : Int := match hexw l with
  | some v => (v : Int)
  | none => -1
theorem hexFrom_step {l : List UInt8} {a i : Nat} {c : UInt8} (h : l[i]? = some c) : hexFrom a (l.drop i) = match hexv c with | some d => hexFrom (a * 16 + d) (l.drop (i + 1)) | none => none := by
  obtain ⟨hi, e⟩ := List.getElem?_eq_some_iff.1 h
  rw [List.drop_eq_getElem_cons hi, e]
  rfl
/-- Which of four a byte is. -/
theorem hexv_four (c : UInt8) : (48 ≤ c.toNat ∧ c.toNat ≤ 57 ∧ hexv c = some (c.toNat - 48)) ∨ (97 ≤ c.toNat ∧ c.toNat ≤ 102 ∧ hexv c = some (c.toNat - 97 + 10)) ∨ (65 ≤ c.toNat ∧ c.toNat ≤ 70 ∧ hexv c = some (c.toNat - 65 + 10)) ∨
    (¬ (48 ≤ c.toNat ∧ c.toNat ≤ 57) ∧ ¬ (97 ≤ c.toNat ∧ c.toNat ≤ 102) ∧ ¬ (65 ≤ c.toNat ∧ c.toNat ≤ 70) ∧ hexv c = none) := by
  unfold hexv
  by_cases h1 : 48 ≤ c.toNat ∧ c.toNat ≤ 57
  · exact .inl ⟨h1.1, h1.2, if_pos h1⟩
  · by_cases h2 : 97 ≤ c.toNat ∧ c.toNat ≤ 102
    · refine .inr (.inl ⟨h2.1, h2.2, ?_⟩)
      rw [if_neg h1, if_pos h2]; congr 1; omega
    · by_cases h3 : 65 ≤ c.toNat ∧ c.toNat ≤ 70
      · refine .inr (.inr (.inl ⟨h3.1, h3.2, ?_⟩))
        rw [if_neg h1, if_neg h2, if_pos h3]; congr 1; omega
      · refine .inr (.inr (.inr ⟨h1, h2, h3, ?_⟩))
        rw [if_neg h1, if_neg h2, if_neg h3]
set_option maxRecDepth 100000 in
set_option maxHeartbeats 4000000 in
theorem rgroup_any (t : ByteArray) (w : World) :
    Calls Tryz.prog 62 #[.string t] w fun e w' => e = .returned (.int .i64 (grpN t.data.toList)) ∧ w = w' := by
  have hl : t.size = t.data.toList.length := Lib.size_eq t
  obtain ⟨R, hR⟩ : ∃ R, grpN t.data.toList = R := ⟨_, rfl⟩
  rw [hR]
  by_cases h0 : t.data.toList = []
  · have e : t = ⟨#[]⟩ := by
      apply ByteArray.ext
      simpa using h0
    subst e
    have hR1 : R = -1 := by rw [← hR]; rfl
    subst hR1
    clear hR h0 hl
    go_enter Tryz.func62, Tryz.ntmps62
    go_wp2
    go_ret
    exact ⟨rfl, rfl⟩
  · have hpos : 0 < t.size := by rw [hl]; exact List.length_pos_iff.2 h0
    have te : t.toList.isEmpty = false := by
      rw [List.isEmpty_eq_false_iff]
      intro e
      apply h0
      rw [← e]; simp [ByteArray.toList_eq]
    by_cases h4 : 4 < t.size
    · have hR1 : R = -1 := by rw [← hR]; unfold grpN hexw; rw [if_pos (.inr (by omega))]
      subst hR1
      have h4' : (4 : Int) < t.size := by omega
      clear hR h0 hl h4 hpos
      go_enter Tryz.func62, Tryz.ntmps62
      go_wp2
      go_ret
      exact ⟨rfl, rfl⟩
    have h4' : ¬ (4 : Int) < t.size := by omega
    have hR2 : R = match hexFrom 0 t.data.toList with | some n => (n : Int) | none => -1 := by
      rw [← hR]; unfold grpN hexw
      rw [if_neg (by rintro (x | x); exact h0 x; omega)]
    have HR2 := Lib.hid hR2
    have s4 : t.size ≤ 4 := by omega
    have HL := Lib.hid hl
    clear hR hR2 h0 hl h4
    go_enter Tryz.func62, Tryz.ntmps62
    go_wp2
    go_loop [3, 4] (fun n i => ∃ k a : Nat, k ≤ t.size ∧ a < 16 ^ k ∧ i = .int .i64 (k : Int) ∧ n = .int .i64 (a : Int) ∧ Hid (hexFrom 0 t.data.toList = hexFrom a (t.data.toList.drop k))) (fun _ i => (t.size - (intOf i).toNat))
    case atStart => exact ⟨0, 0, by omega, by decide, rfl, rfl, Lib.hid (by simp)⟩
    case round =>
      obtain ⟨k, a, hk, ha, rfl, rfl, hd⟩ := hrel
      have ha4 : a < 65536 := Nat.lt_of_lt_of_le ha (Nat.pow_le_pow_right (n := 16) (i := k) (j := 4) (by decide) (by omega))
      by_cases hlt : k < t.size
      · have hget : t.data.toList[k]? = some t[k] := by
          rw [List.getElem?_eq_getElem (by rw [← HL.out]; exact hlt)]; rfl
        have hs := hexFrom_step (a := a) hget
        obtain ⟨M, hM⟩ : ∃ M : Int, M = 65536 := ⟨_, rfl⟩
        have ha' : (a : Int) < M := by omega
        have hM2 : M ≤ 100000 := by omega
        clear hM

        rcases hexv_four t[k] with ⟨c1, c2, hv⟩ | ⟨c1, c2, hv⟩ | ⟨c1, c2, hv⟩ | ⟨n1, n2, n3, hv⟩
        · rw [hv] at hs
          have HS := Lib.hid (hd.out.trans hs)
          have c1' : (48 : Int) ≤ t[k].toNat := by omega
          have c2' : (t[k].toNat : Int) ≤ 57 := by omega
          have hw : IntKind.u8.wrap ((t[k].toNat : Int) - 48) = (t[k].toNat : Int) - 48 := by rw [IntKind.wrap_u8]; omega
          have hp : a * 16 + (t[k].toNat - 48) < 16 ^ (k + 1) := by rw [Nat.pow_succ]; omega
          have HP := Lib.hid hp
          clear hs hget hd hv hp ha ha4
          go_wp2
          go_round
          case rel => exact ⟨k + 1, a * 16 + (t[k].toNat - 48), by omega, HP.out, by go_num, congrArg (Value.int .i64) (by omega), HS⟩
          case measure => simp [intOf]; omega
        · rw [hv] at hs
          have HS := Lib.hid (hd.out.trans hs)
          have c0' : ¬ (t[k].toNat : Int) ≤ 57 := by omega
          have c1' : (97 : Int) ≤ t[k].toNat := by omega
          have c2' : (t[k].toNat : Int) ≤ 102 := by omega
          have hw : IntKind.u8.wrap ((t[k].toNat : Int) - 97) = (t[k].toNat : Int) - 97 := by rw [IntKind.wrap_u8]; omega
          have hp : a * 16 + (t[k].toNat - 97 + 10) < 16 ^ (k + 1) := by rw [Nat.pow_succ]; omega
          have HP := Lib.hid hp
          clear hs hget hd hv hp ha ha4
          go_wp2
          go_round
          case rel => exact ⟨k + 1, a * 16 + (t[k].toNat - 97 + 10), by omega, HP.out, by go_num, congrArg (Value.int .i64) (by omega), HS⟩
          case measure => simp [intOf]; omega
        · rw [hv] at hs
          have HS := Lib.hid (hd.out.trans hs)
          have c0' : ¬ (t[k].toNat : Int) ≤ 57 := by omega
          have c3' : ¬ (97 : Int) ≤ t[k].toNat := by omega
          have c1' : (65 : Int) ≤ t[k].toNat := by omega
          have c2' : (t[k].toNat : Int) ≤ 70 := by omega
          have hw : IntKind.u8.wrap ((t[k].toNat : Int) - 65) = (t[k].toNat : Int) - 65 := by rw [IntKind.wrap_u8]; omega
          have hp : a * 16 + (t[k].toNat - 65 + 10) < 16 ^ (k + 1) := by rw [Nat.pow_succ]; omega
          have HP := Lib.hid hp
          clear hs hget hd hv hp ha ha4
          go_wp2
          go_round
          case rel => exact ⟨k + 1, a * 16 + (t[k].toNat - 65 + 10), by omega, HP.out, by go_num, congrArg (Value.int .i64) (by omega), HS⟩
          case measure => simp [intOf]; omega
        · rw [hv] at hs
          have hR1 : R = -1 := by rw [HR2.out, hd.out, hs]
          subst hR1
          clear hs hget hd HR2 hv ha ha4
          have c1' : (t[k].toNat : Int) < 48 ∨ (¬ (t[k].toNat : Int) < 48 ∧ 57 < (t[k].toNat : Int)) := by omega
          have c2' : (t[k].toNat : Int) < 97 ∨ (¬ (t[k].toNat : Int) < 97 ∧ 102 < (t[k].toNat : Int)) := by omega
          have c3' : (t[k].toNat : Int) < 65 ∨ (¬ (t[k].toNat : Int) < 65 ∧ 70 < (t[k].toNat : Int)) := by omega
          clear n1 n2 n3
          go_wp2
          all_goals first | (exfalso; omega) | (go_ret; exact ⟨rfl, rfl⟩)
      · have ek : k = t.size := by omega
        have hnil : t.data.toList.drop k = [] := List.drop_eq_nil_of_le (by rw [← HL.out]; omega)
        have hR1 : R = (a : Int) := by rw [HR2.out, hd.out, hnil]; rfl
        clear hnil hd HR2 ek
        subst hR1
        go_wp2
        go_ret
        exact ⟨rfl, rfl⟩
end Go.Proofs.YtbpdnohcgojmbaaGreatDoor
