/-
  The program's own rib (layer 15): distances (a table that the package holds), cmp's Compare and Or, Better.
-/
import Derived.Test.YtjlmgkdieffjcaaDoorRpA
namespace Go.Proofs.YtjlmgkdieffjcaaDoor
open Go.RowKit
set_option linter.unusedVariables false

def distT : List Int := [0, 1, 20, 110, 120]
/-- What the package's table holds. -/
def EnvR (w : World) : Prop := ∀ j, j < 5 → w.cell? ⟨0, j, none⟩ = some (.int .i64 (distT.getD j 0))
theorem EnvR.lt {w : World} (h : EnvR w) : 0 < w.heap.size := World.block_lt_of_cell? w _ (h 0 (by decide))
theorem EnvR.tch {w w' : World} {T : List Nat} (h : EnvR w) (ht : Tch w w' T) (hn : 0 ∉ T) : EnvR w' := fun j hj => (ht.cell (p := ⟨0, j, none⟩) h.lt hn).trans (h j hj)
theorem EnvR.tch0 {w w' : World} (h : EnvR w) (ht : Tch w w' []) : EnvR w' := h.tch ht (by simp)
theorem EnvR.below {w w' : World} (h : EnvR w) (hb : Below w.heap.size w w') : EnvR w' := h.tch0 (Tch.of_below [] hb)
theorem EnvR.nin {w : World} {S : List Nat} (h : EnvR w) (hs : ∀ s ∈ S, w.heap.size ≤ s) : 0 ∉ S := fun hm => by have := hs _ hm; have := h.lt; omega
theorem isProto_at (p : Int) {b : Bool} (hb : (decide (0 ≤ p) && decide (p < 5)) = b) (w : World) : Calls Tryd.prog 51 #[.int .i64 p] w fun e w' => e = .returned (.bool b) ∧ w' = w := by
  by_cases h0 : 0 ≤ p
  · by_cases h5 : p < 5
    · have hb1 : b = true := by rw [← hb]; simp [h0, h5]
      subst hb1
      clear hb
      go_enter Tryd.func51, Tryd.ntmps51
      go_wp2
      go_ret
      exact ⟨rfl, rfl⟩
    · have hb1 : b = false := by rw [← hb]; simp [h5]
      subst hb1
      clear hb
      go_enter Tryd.func51, Tryd.ntmps51
      go_wp2
      go_ret
      exact ⟨rfl, rfl⟩
  · have hb1 : b = false := by rw [← hb]; simp [h0]
    subst hb1
    clear hb
    go_enter Tryd.func51, Tryd.ntmps51
    go_wp2
    go_ret
    exact ⟨rfl, rfl⟩
theorem distT_at {p : Int} (h0 : 0 ≤ p) (h5 : p < 5) : distT.getD p.toNat 0 = distI p := by
  have : p = 0 ∨ p = 1 ∨ p = 2 ∨ p = 3 ∨ p = 4 := by omega
  rcases this with rfl | rfl | rfl | rfl | rfl <;> rfl
theorem distI_far {p : Int} (h : ¬ (0 ≤ p ∧ p < 5)) : distI p = 255 := by
  unfold distI
  rw [if_neg (by omega), if_neg (by omega), if_neg (by omega), if_neg (by omega), if_neg (by omega)]
set_option maxHeartbeats 1000000 in
theorem pdist_any (p : Int) (w : World) (hE : EnvR w) : Calls Tryd.prog 44 #[.int .i64 p] w fun e w' => e = .returned (.int .i64 (distI p)) ∧ w' = w := by
  by_cases h : 0 ≤ p ∧ p < 5
  · have HP := Lib.hid (isProto_at p (b := true) (by simp [h.1, h.2]) w)
    obtain ⟨k, rfl⟩ : ∃ k : Nat, p = k := ⟨p.toNat, by omega⟩
    have hc := hE k (by omega)
    have hd := distT_at h.1 h.2
    rw [Int.toNat_natCast] at hd
    rw [hd] at hc
    obtain ⟨D, hD⟩ : ∃ D, distI (k : Int) = D := ⟨_, rfl⟩
    rw [hD] at hc ⊢
    obtain ⟨k0, k5⟩ := h
    clear hd hD hE
    go_enter Tryd.func44, Tryd.ntmps44
    go_wp2_with (go_at_call 51; refine Calls.mono HP.out ?_; rintro e w' ⟨rfl, rfl⟩)
    go_ret
    exact ⟨rfl, rfl⟩
  · have HP := Lib.hid (isProto_at p (b := false) (by by_cases h0 : 0 ≤ p <;> by_cases h5 : p < 5 <;> simp [h0, h5]; exact h ⟨h0, h5⟩) w)
    rw [distI_far h]
    clear h hE
    go_enter Tryd.func44, Tryd.ntmps44
    go_wp2_with (go_at_call 51; refine Calls.mono HP.out ?_; rintro e w' ⟨rfl, rfl⟩)
    go_ret
    exact ⟨rfl, rfl⟩
/-- cmp.Compare. -/
def cmpI (a b : Int) : Int := if a < b then -1 else if b < a then 1 else 0
set_option maxHeartbeats 1000000 in
theorem nan_i (a : Int) (w : World) : Calls Tryd.prog 59 #[.int .i64 a] w fun e w' => e = .returned (.bool false) ∧ w' = w := by
  have e0 : (a != a) = false := by simp
  go_enter Tryd.func59, Tryd.ntmps59
  go_wp2
  go_ret
  exact ⟨rfl, rfl⟩
theorem nan_u (a : Int) (w : World) : Calls Tryd.prog 60 #[.int .u64 a] w fun e w' => e = .returned (.bool false) ∧ w' = w := by
  have e0 : (a != a) = false := by simp
  go_enter Tryd.func60, Tryd.ntmps60
  go_wp2
  go_ret
  exact ⟨rfl, rfl⟩
set_option maxHeartbeats 2000000 in
theorem cmp_i (a b : Int) (w : World) : Calls Tryd.prog 39 #[.int .i64 a, .int .i64 b] w fun e w' => e = .returned (.int .i64 (cmpI a b)) ∧ w' = w := by
  have HA := Lib.hid (nan_i a w)
  have HB := Lib.hid (nan_i b w)
  unfold cmpI
  by_cases h1 : a < b
  · rw [if_pos h1]
    go_enter Tryd.func39, Tryd.ntmps39
    go_wp2_with fail
    refine Calls.mono HA.out ?_
    rintro e w' ⟨rfl, rfl⟩
    go_wp2_with fail
    refine Calls.mono HB.out ?_
    rintro e w' ⟨rfl, rfl⟩
    go_wp2
    go_ret
    exact ⟨rfl, rfl⟩
  · by_cases h2 : b < a
    · rw [if_neg h1, if_pos h2]
      go_enter Tryd.func39, Tryd.ntmps39
      go_wp2_with fail
      refine Calls.mono HA.out ?_
      rintro e w' ⟨rfl, rfl⟩
      go_wp2_with fail
      refine Calls.mono HB.out ?_
      rintro e w' ⟨rfl, rfl⟩
      go_wp2
      go_ret
      exact ⟨rfl, rfl⟩
    · rw [if_neg h1, if_neg h2]
      go_enter Tryd.func39, Tryd.ntmps39
      go_wp2_with fail
      refine Calls.mono HA.out ?_
      rintro e w' ⟨rfl, rfl⟩
      go_wp2_with fail
      refine Calls.mono HB.out ?_
      rintro e w' ⟨rfl, rfl⟩
      go_wp2
      go_ret
      exact ⟨rfl, rfl⟩
set_option maxHeartbeats 2000000 in
theorem cmp_u (a b : Int) (w : World) : Calls Tryd.prog 46 #[.int .u64 a, .int .u64 b] w fun e w' => e = .returned (.int .i64 (cmpI a b)) ∧ w' = w := by
  have HA := Lib.hid (nan_u a w)
  have HB := Lib.hid (nan_u b w)
  unfold cmpI
  by_cases h1 : a < b
  · rw [if_pos h1]
    go_enter Tryd.func46, Tryd.ntmps46
    go_wp2_with fail
    refine Calls.mono HA.out ?_
    rintro e w' ⟨rfl, rfl⟩
    go_wp2_with fail
    refine Calls.mono HB.out ?_
    rintro e w' ⟨rfl, rfl⟩
    go_wp2
    go_ret
    exact ⟨rfl, rfl⟩
  · by_cases h2 : b < a
    · rw [if_neg h1, if_pos h2]
      go_enter Tryd.func46, Tryd.ntmps46
      go_wp2_with fail
      refine Calls.mono HA.out ?_
      rintro e w' ⟨rfl, rfl⟩
      go_wp2_with fail
      refine Calls.mono HB.out ?_
      rintro e w' ⟨rfl, rfl⟩
      go_wp2
      go_ret
      exact ⟨rfl, rfl⟩
    · rw [if_neg h1, if_neg h2]
      go_enter Tryd.func46, Tryd.ntmps46
      go_wp2_with fail
      refine Calls.mono HA.out ?_
      rintro e w' ⟨rfl, rfl⟩
      go_wp2_with fail
      refine Calls.mono HB.out ?_
      rintro e w' ⟨rfl, rfl⟩
      go_wp2
      go_ret
      exact ⟨rfl, rfl⟩
theorem cmpB_any (a b : Bool) (w : World) : Calls Tryd.prog 45 #[.bool a, .bool b] w fun e w' => e = .returned (.int .i64 (cmpI (bI a) (bI b))) ∧ w' = w := by
  cases a <;> cases b
  all_goals
    go_enter Tryd.func45, Tryd.ntmps45
    go_wp2
    go_ret
    exact ⟨rfl, rfl⟩
/-- cmp.Or: the first that isn't 0. -/
def orI (l : List Int) : Int := (l.find? fun x => decide (x ≠ 0)).getD 0
theorem orI_cons (x : Int) (l : List Int) : orI (x :: l) = if x = 0 then orI l else x := by
  unfold orI
  by_cases h : x = 0
  · rw [if_pos h, List.find?_cons_of_neg (by simpa using h)]
  · rw [if_neg h, List.find?_cons_of_pos (by simpa using h)]; rfl
theorem or_key {a b : List Int} (h : a.length = b.length) : orI (a.zipWith cmpI b) < 0 ↔ lexP a b := by
  induction a generalizing b with
  | nil => simp [orI, lexP]
  | cons x r ih =>
    cases b with
    | nil => simp at h
    | cons y s =>
      rw [List.zipWith_cons_cons, orI_cons]
      simp only [lexP]
      rw [← ih (by simpa using h)]
      unfold cmpI
      by_cases h1 : x < y
      · rw [if_pos h1, if_neg (by decide)]
        simp [h1]
      · by_cases h2 : y < x
        · rw [if_neg h1, if_pos h2, if_neg (by decide)]
          simp; omega
        · rw [if_neg h1, if_neg h2, if_pos rfl]
          have : x = y := by omega
          simp [this]
set_option maxRecDepth 100000 in
set_option maxHeartbeats 4000000 in
theorem or_any (g n c : Nat) (l : List Int) (hl : l.length = n) (hn : n ≤ 1000) (w : World) (hB : ∀ j x, l[j]? = some x → w.cell? ⟨g, j, none⟩ = some (.int .i64 x)) :
    Calls Tryd.prog 43 #[.slice (some ⟨g, 0, none⟩) n c] w fun e w' => e = .returned (.int .i64 (orI l)) ∧ w' = w := by
  have HL := Lib.hid hl
  have HB := Lib.hid hB
  clear hl hB
  go_enter Tryd.func43, Tryd.ntmps43
  go_wp2
  go_loopw [5, 8] (fun _ kv wr => ∃ k : Nat, kv = .int .i64 (k : Int) ∧ k ≤ n ∧ Hid (orI l = orI (l.drop k)) ∧ wr = w) (fun _ kv _ => n - (intOf kv).toNat)
  case atStart => exact ⟨0, rfl, Nat.zero_le _, Lib.hid (by simp), rfl⟩
  case round =>
    obtain ⟨k, rfl, hk, hA, rfl⟩ := hrel
    have k1 : IntKind.i64.wrap ((k : Int) + 1) = (k : Int) + 1 := by rw [IntKind.wrap_i64]; omega
    by_cases hkn : k < n
    · have kI : (k : Int) < (n : Int) := by omega
      have k0 : (0 : Int) ≤ (k : Int) := by omega
      obtain ⟨x, hx⟩ : ∃ x, l[k]? = some x := ⟨_, List.getElem?_eq_getElem (by rw [HL.out]; exact hkn)⟩
      have x0 := HB.out k x hx
      have HD : Hid (orI l = if x = 0 then orI (l.drop (k + 1)) else x) := Lib.hid (by
        rw [hA.out, ← orI_cons]
        congr 1
        have := (List.getElem?_eq_some_iff.1 hx)
        obtain ⟨h1, h2⟩ := this
        rw [List.drop_eq_getElem_cons h1, h2])
      clear hx
      by_cases h0 : x = 0
      · subst h0
        have HD2 : Hid (orI l = orI (l.drop (k + 1))) := Lib.hid (by rw [HD.out]; simp)
        go_wp2
        go_roundw
        case rel => exact ⟨k + 1, by go_num, hkn, HD2, by trivial⟩
        case measure => simp [intOf]; omega
      · have b0 : (x != 0) = true := by simpa using h0
        have HD2 : Hid (orI l = x) := Lib.hid (by rw [HD.out, if_neg h0])
        clear h0
        go_wp2
        go_ret
        exact ⟨by rw [HD2.out]; rfl, rfl⟩
    · obtain rfl : k = n := by omega
      have kI : ¬ (k : Int) < (k : Int) := by omega
      have HD2 : Hid (orI l = 0) := Lib.hid (by rw [hA.out, List.drop_of_length_le (by rw [HL.out]; exact Nat.le_refl _)]; rfl)
      clear hkn hk
      go_wp2
      go_ret
      exact ⟨by rw [HD2.out]; rfl, rfl⟩
end Go.Proofs.YtjlmgkdieffjcaaDoor
