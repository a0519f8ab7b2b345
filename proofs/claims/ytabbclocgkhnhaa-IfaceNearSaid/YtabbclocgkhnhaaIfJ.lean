/-
  The document's own set of ports (layer 14): Name.
-/
import Derived.Test.YtabbclocgkhnhaaIfH
namespace Go.Proofs.Ytabbclocgkhnhaa
open Go.RowKit
set_option linter.unusedVariables false

/-- May a byte stand at i in a name? -/
def okB (i b : Nat) : Bool := decide (97 ≤ b ∧ b ≤ 122) || (decide (i ≠ 0) && decide (48 ≤ b ∧ b ≤ 57))
theorem nameOk_iff {s : ByteArray} : nameOk s = true ↔ (1 ≤ s.size ∧ s.size ≤ 8) ∧ ∀ (j : Nat) (h : j < s.size), okB j s[j].toNat = true := by
  unfold nameOk
  rw [Bool.and_eq_true, decide_eq_true_eq, List.all_eq_true]
  refine and_congr_right fun _ => ?_
  constructor
  · intro h j hj
    have hl : s.data.toList[j]? = some s[j] := by
      have : s.data[j]? = some s[j] := Array.getElem?_eq_getElem hj
      simpa using this
    have := h (s[j], j) (List.mem_zipIdx_iff_getElem?.2 hl)
    simpa [okB] using this
  · rintro h ⟨b, j⟩ hm
    have hl := List.mem_zipIdx_iff_getElem?.1 hm
    have hj : j < s.size := by
      have := (List.getElem?_eq_some_iff.1 hl).1
      simpa using this
    have hb : b = s[j] := by
      have h1 : s.data[j]? = some b := by simpa using hl
      have h2 : s.data[j]? = some s[j] := Array.getElem?_eq_getElem hj
      rw [h1] at h2
      exact Option.some.inj h2
    have := h j hj
    subst hb
    simpa [okB] using this
set_option maxRecDepth 100000 in
set_option maxHeartbeats 4000000 in
theorem nameD (s : ByteArray) (w : World) : Calls Try.prog 53 #[.string s] w fun e w' => e = .returned (.bool (nameOk s)) ∧ w = w' := by
  have hse : s.size = 0 ↔ s.toList = [] := by
    rw [ByteArray.toList_eq, Array.toList_eq_nil_iff]
    exact Array.size_eq_zero_iff
  by_cases h0 : s.size = 0
  · have HR : Hid (nameOk s = false) := Lib.hid (by rw [Bool.eq_false_iff]; intro h; have := (nameOk_iff.1 h).1; omega)
    have b3 : s.toList = [] := hse.1 h0
    have b1 : s.toList.isEmpty = true := by rw [b3]; rfl
    clear hse
    go_enter Try.func53, Try.ntmps53
    go_wp2
    go_ret
    exact ⟨by rw [HR.out]; rfl, rfl⟩
  · have b3 : ¬ s.toList = [] := fun e => h0 (hse.2 e)
    have b1 : s.toList.isEmpty = false := List.isEmpty_eq_false_iff.2 b3
    by_cases h8 : 8 < s.size
    · have HR : Hid (nameOk s = false) := Lib.hid (by rw [Bool.eq_false_iff]; intro h; have := (nameOk_iff.1 h).1; omega)
      have b2 : (8 : Int) < (s.size : Int) := by omega
      clear hse
      go_enter Try.func53, Try.ntmps53
      go_wp2
      go_ret
      exact ⟨by rw [HR.out]; rfl, rfl⟩
    · have HB : Hid (1 ≤ s.size ∧ s.size ≤ 8) := Lib.hid (by omega)
      obtain ⟨n, hn⟩ : ∃ n, s.size = n := ⟨_, rfl⟩
      have HN := Lib.hid hn
      have b2 : ¬ (8 : Int) < (n : Int) := by omega
      have n8 : n ≤ 8 := by omega
      clear hse h0 h8
      go_enter Try.func53, Try.ntmps53
      go_wp2
      go_loop [2, 3] (fun fv iv => ∃ i : Nat, fv = .bool false ∧ iv = .int .i64 (i : Int) ∧ i ≤ n ∧ Hid (∀ (j : Nat) (h : j < s.size), j < i → okB j s[j].toNat = true)) (fun _ iv => n - (intOf iv).toNat)
      case atStart => exact ⟨0, rfl, rfl, Nat.zero_le _, Lib.hid (fun j h hj => absurd hj (by omega))⟩
      case round =>
        obtain ⟨i, rfl, rfl, hi, hA⟩ := hrel
        have j1 : IntKind.i64.wrap ((i : Int) + 1) = (i : Int) + 1 := by rw [IntKind.wrap_i64]; omega
        by_cases hlt : i < n
        · have i1 : (i : Int) < (n : Int) := by omega
          have i0 : (0 : Int) ≤ (i : Int) := by omega
          have i2 : i < s.size := by omega
          obtain ⟨b, hb⟩ : ∃ b, (s[i]'i2).toNat = b := ⟨_, rfl⟩
          have HBt := Lib.hid hb
          have HYes : Hid (okB i b = true → ∀ (j : Nat) (h : j < s.size), j < i + 1 → okB j s[j].toNat = true) := Lib.hid (fun ho j h hj => by
            rcases Nat.lt_or_ge j i with h1 | h1
            · exact hA.out j h h1
            · obtain rfl : j = i := by omega
              rw [hb]; exact ho)
          have HNo : Hid (okB i b = false → nameOk s = false) := Lib.hid (fun ho => by
            rw [Bool.eq_false_iff]
            intro h
            have := (nameOk_iff.1 h).2 i i2
            rw [hb, ho] at this
            cases this)
          by_cases l1 : 97 ≤ b
          · by_cases l2 : b ≤ 122
            · have a1 : (97 : Int) ≤ (b : Int) := by omega
              have a2 : (b : Int) ≤ 122 := by omega
              have a3 : ¬ (b : Int) ≤ 57 := by omega
              have a4 : (48 : Int) ≤ (b : Int) := by omega
              have HO := Lib.hid (HYes.out (by unfold okB; simp [l1, l2]))
              clear HYes HNo
              go_wp2
              go_round
              case rel => exact ⟨i + 1, rfl, by go_num, hlt, HO⟩
              case measure => simp [intOf]; omega
            · have a1 : (97 : Int) ≤ (b : Int) := by omega
              have a2 : ¬ (b : Int) ≤ 122 := by omega
              have a3 : ¬ (b : Int) ≤ 57 := by omega
              have a4 : (48 : Int) ≤ (b : Int) := by omega
              have HO := Lib.hid (HNo.out (by unfold okB; simp; omega))
              clear HYes HNo
              by_cases iz : i = 0
              · subst iz
                go_wp2
                go_ret
                exact ⟨by rw [HO.out]; rfl, rfl⟩
              · have iz1 : ((i : Int) == 0) = false := by simp; omega
                go_wp2
                go_ret
                exact ⟨by rw [HO.out]; rfl, rfl⟩
          · by_cases d1 : 48 ≤ b ∧ b ≤ 57
            · have a1 : ¬ (97 : Int) ≤ (b : Int) := by omega
              have a3 : (b : Int) ≤ 57 := by omega
              have a4 : (48 : Int) ≤ (b : Int) := by omega
              by_cases iz : i = 0
              · have HO := Lib.hid (HNo.out (by unfold okB; simp; omega))
                clear HYes HNo
                subst iz
                go_wp2
                go_ret
                exact ⟨by rw [HO.out]; rfl, rfl⟩
              · have iz1 : ((i : Int) == 0) = false := by simp; omega
                have HO := Lib.hid (HYes.out (by unfold okB; simp; omega))
                clear HYes HNo
                go_wp2
                go_round
                case rel => exact ⟨i + 1, rfl, by go_num, hlt, HO⟩
                case measure => simp [intOf]; omega
            · have a1 : ¬ (97 : Int) ≤ (b : Int) := by omega
              have HO := Lib.hid (HNo.out (by unfold okB; simp; omega))
              clear HYes HNo
              rcases (show ¬ 48 ≤ b ∨ (48 ≤ b ∧ ¬ b ≤ 57) by omega) with e1 | ⟨e1, e2⟩
              · have a4 : ¬ (48 : Int) ≤ (b : Int) := by omega
                by_cases iz : i = 0
                · subst iz
                  go_wp2
                  go_ret
                  exact ⟨by rw [HO.out]; rfl, rfl⟩
                · have iz1 : ((i : Int) == 0) = false := by simp; omega
                  go_wp2
                  go_ret
                  exact ⟨by rw [HO.out]; rfl, rfl⟩
              · have a4 : (48 : Int) ≤ (b : Int) := by omega
                have a3 : ¬ (b : Int) ≤ 57 := by omega
                by_cases iz : i = 0
                · subst iz
                  go_wp2
                  go_ret
                  exact ⟨by rw [HO.out]; rfl, rfl⟩
                · have iz1 : ((i : Int) == 0) = false := by simp; omega
                  go_wp2
                  go_ret
                  exact ⟨by rw [HO.out]; rfl, rfl⟩
        · obtain rfl : i = n := by omega
          have i1 : ¬ (i : Int) < (i : Int) := by omega
          have HR : Hid (nameOk s = true) := Lib.hid (nameOk_iff.2 ⟨HB.out, fun j h => hA.out j h (by have := HN.out; omega)⟩)
          clear hlt hi
          go_wp2
          go_ret
          exact ⟨by rw [HR.out]; rfl, rfl⟩
end Go.Proofs.Ytabbclocgkhnhaa
