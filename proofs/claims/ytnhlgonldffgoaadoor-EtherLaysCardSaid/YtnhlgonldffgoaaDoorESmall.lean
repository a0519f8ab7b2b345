/-
  The small calls of ether: which frames and messages may be, digits.
-/
import Derived.Test.YtnhlgonldffgoaaDoorEMac
import Derived.Test.YtnhlgonldffgoaaDoorValid
namespace Go.Proofs.YtnhlgonldffgoaaDoor
open Go.RowKit
set_option linter.unusedVariables false

theorem isMac_at (m : Int) {b : Bool} (h : mcB m = b) (w : World) :
    Calls Tryd.prog 79 #[.int .u64 m] w fun e w' => e = .returned (.bool b) ∧ w = w' := by
  subst h
  go_enter Tryd.func79, Tryd.ntmps79
  go_wp2
  go_ret
  exact ⟨rfl, rfl⟩

set_option maxHeartbeats 1000000 in
theorem isFrame_any (to fr k : Int) (d : ByteArray) (w : World) :
    Calls Tryd.prog 64 #[frm to fr k d] w fun e w' => e = .returned (.bool (frB to fr k)) ∧ Below w.heap.size w w' := by
  obtain ⟨V1, hV1⟩ : ∃ v, mcB to = v := ⟨_, rfl⟩
  obtain ⟨V2, hV2⟩ : ∃ v, mcB fr = v := ⟨_, rfl⟩
  obtain ⟨R, hR⟩ : ∃ v, frB to fr k = v := ⟨_, rfl⟩
  have hR2 : R = (V1 && V2 && decide (1536 ≤ k) && decide (k ≤ 65535)) := by rw [← hR, ← hV1, ← hV2]; rfl
  have HR := Lib.hid hR2
  rw [hR]
  have H1 := Lib.hid (fun W => isMac_at to hV1 W)
  have H2 := Lib.hid (fun W => isMac_at fr hV2 W)
  clear hR hR2 hV1 hV2
  cases V1
  · go_enter Tryd.func64, Tryd.ntmps64
    go_wp2_with fail
    refine Calls.mono (H1.out _) ?_
    rintro e w1 ⟨rfl, rfl⟩
    go_wp2
    go_ret
    exact ⟨ret_bool (by rw [HR.out]; simp), (Below.refl _ _).alloc (Nat.le_refl _) _⟩
  · cases V2
    · go_enter Tryd.func64, Tryd.ntmps64
      go_wp2_with fail
      refine Calls.mono (H1.out _) ?_
      rintro e w1 ⟨rfl, rfl⟩
      go_wp2_with fail
      refine Calls.mono (H2.out _) ?_
      rintro e w1 ⟨rfl, rfl⟩
      go_wp2
      go_ret
      exact ⟨ret_bool (by rw [HR.out]; simp), (Below.refl _ _).alloc (Nat.le_refl _) _⟩
    · by_cases hk : 1536 ≤ k
      · by_cases hk2 : k ≤ 65535
        all_goals
          go_enter Tryd.func64, Tryd.ntmps64
          go_wp2_with fail
          refine Calls.mono (H1.out _) ?_
          rintro e w1 ⟨rfl, rfl⟩
          go_wp2_with fail
          refine Calls.mono (H2.out _) ?_
          rintro e w1 ⟨rfl, rfl⟩
          go_wp2
          go_ret
          exact ⟨ret_bool (by rw [HR.out]; simp [*]), (Below.refl _ _).alloc (Nat.le_refl _) _⟩
      · go_enter Tryd.func64, Tryd.ntmps64
        go_wp2_with fail
        refine Calls.mono (H1.out _) ?_
        rintro e w1 ⟨rfl, rfl⟩
        go_wp2_with fail
        refine Calls.mono (H2.out _) ?_
        rintro e w1 ⟨rfl, rfl⟩
        go_wp2
        go_ret
        exact ⟨ret_bool (by rw [HR.out]; simp; omega), (Below.refl _ _).alloc (Nat.le_refl _) _⟩
theorem isFrame_at (to fr k : Int) (d : ByteArray) {b : Bool} (h : frB to fr k = b) (w : World) :
    Calls Tryd.prog 64 #[frm to fr k d] w fun e w' => e = .returned (.bool b) ∧ Below w.heap.size w w' := by
  subst h; exact isFrame_any to fr k d w

/-- What ether's value says of a rune. -/
def rdv (r : Int) : Option Int := if 48 ≤ r ∧ r ≤ 57 then some (r - 48) else if 97 ≤ r ∧ r ≤ 102 then some (r - 87) else if 65 ≤ r ∧ r ≤ 70 then some (r - 55) else none
theorem rdv_bd {r d : Int} (h : rdv r = some d) : 0 ≤ d ∧ d ≤ 15 := by
  unfold rdv at h
  split at h
  · injection h with h; omega
  · split at h
    · injection h with h; omega
    · split at h
      · injection h with h; omega
      · cases h
theorem rdv_byte (c : UInt8) : rdv (c.toNat : Int) = (xdv c).map fun d => (d : Int) := by
  unfold rdv xdv
  by_cases h1 : 48 ≤ c.toNat ∧ c.toNat ≤ 57
  · rw [if_pos h1, if_pos (by omega)]; simp; omega
  · rw [if_neg h1, if_neg (by omega)]
    by_cases h2 : 97 ≤ c.toNat ∧ c.toNat ≤ 102
    · rw [if_pos h2, if_pos (by omega)]; simp; omega
    · rw [if_neg h2, if_neg (by omega)]
      by_cases h3 : 65 ≤ c.toNat ∧ c.toNat ≤ 70
      · rw [if_pos h3, if_pos (by omega)]; simp; omega
      · rw [if_neg h3, if_neg (by omega)]; rfl
theorem rdv_high {r : Int} (h : 128 ≤ r) : rdv r = none := by
  unfold rdv; rw [if_neg (by omega), if_neg (by omega), if_neg (by omega)]
theorem ret_ib {k : IntKind} {a b : Int} {c : Bool} (h : a = b) : Ending.returned (.tuple #[.int k a, .bool c]) = .returned (.tuple #[.int k b, .bool c]) := by rw [h]
set_option maxHeartbeats 1000000 in
theorem value_yes (r d : Int) (h0 : -2147483648 ≤ r) (h1 : r ≤ 2147483647) (h : rdv r = some d) (w : World) :
    Calls Tryd.prog 77 #[.int .i32 r] w fun e w' => e = .returned (.tuple #[.int .i32 d, .bool true]) ∧ w = w' := by
  unfold rdv at h
  split at h
  · rename_i hr
    obtain ⟨a, b⟩ := hr
    injection h with h
    have H := Lib.hid h
    clear h
    go_enter Tryd.func77, Tryd.ntmps77
    go_wp2
    go_ret2
    exact ⟨ret_ib (by rw [← H.out]), rfl⟩
  · split at h
    · rename_i hn hr
      obtain ⟨a, b⟩ := hr
      injection h with h
      have H := Lib.hid h
      have n1 : ¬ r ≤ 57 := by omega
      clear h hn
      go_enter Tryd.func77, Tryd.ntmps77
      go_wp2
      go_ret2
      exact ⟨ret_ib (by rw [← H.out]; omega), rfl⟩
    · split at h
      · rename_i hn hn2 hr
        obtain ⟨a, b⟩ := hr
        injection h with h
        have H := Lib.hid h
        have n1 : ¬ r ≤ 57 := by omega
        have n2 : ¬ 97 ≤ r := by omega
        clear h hn hn2
        go_enter Tryd.func77, Tryd.ntmps77
        go_wp2
        go_ret2
        exact ⟨ret_ib (by rw [← H.out]; omega), rfl⟩
      · cases h
set_option maxHeartbeats 1000000 in
theorem value_no (r : Int) (h0 : -2147483648 ≤ r) (h1 : r ≤ 2147483647) (h : rdv r = none) (w : World) :
    Calls Tryd.prog 77 #[.int .i32 r] w fun e w' => e = .returned (.tuple #[.int .i32 0, .bool false]) ∧ w = w' := by
  have hc : r < 48 ∨ (57 < r ∧ r < 65) ∨ (70 < r ∧ r < 97) ∨ 102 < r := by
    unfold rdv at h
    split at h
    · cases h
    · split at h
      · cases h
      · split at h
        · cases h
        · omega
  clear h
  rcases hc with a | ⟨a, b⟩ | ⟨a, b⟩ | a
  · have n1 : ¬ 48 ≤ r := by omega
    have n2 : ¬ 97 ≤ r := by omega
    have n3 : ¬ 65 ≤ r := by omega
    go_enter Tryd.func77, Tryd.ntmps77
    go_wp2
    go_ret2
    exact ⟨rfl, rfl⟩
  · have n1 : ¬ r ≤ 57 := by omega
    have n2 : ¬ 97 ≤ r := by omega
    have n3 : ¬ 65 ≤ r := by omega
    have n4 : 48 ≤ r := by omega
    go_enter Tryd.func77, Tryd.ntmps77
    go_wp2
    go_ret2
    exact ⟨rfl, rfl⟩
  · have n1 : ¬ r ≤ 57 := by omega
    have n2 : ¬ 97 ≤ r := by omega
    have n3 : ¬ r ≤ 70 := by omega
    have n4 : 48 ≤ r := by omega
    have n5 : 65 ≤ r := by omega
    go_enter Tryd.func77, Tryd.ntmps77
    go_wp2
    go_ret2
    exact ⟨rfl, rfl⟩
  · have n1 : ¬ r ≤ 57 := by omega
    have n2 : ¬ r ≤ 102 := by omega
    have n3 : ¬ r ≤ 70 := by omega
    have n4 : 48 ≤ r := by omega
    have n5 : 65 ≤ r := by omega
    have n6 : 97 ≤ r := by omega
    go_enter Tryd.func77, Tryd.ntmps77
    go_wp2
    go_ret2
    exact ⟨rfl, rfl⟩
theorem xdg_int {d : Int} (h0 : 0 ≤ d) (h1 : d ≤ 15) : (if d < 10 then 48 + d else 87 + d) = ((xdg d).toNat : Int) := by
  have e : ∀ m : Fin 16, (if (m.val : Int) < 10 then 48 + (m.val : Int) else 87 + (m.val : Int)) = ((xdg (m.val : Int)).toNat : Int) := by decide +kernel
  have := e ⟨d.toNat, by omega⟩
  simp only at this
  rwa [show ((d.toNat : Nat) : Int) = d by omega] at this
set_option maxHeartbeats 1000000 in
theorem digit_any (d : Int) (h0 : 0 ≤ d) (h1 : d ≤ 15) (w : World) :
    Calls Tryd.prog 81 #[.int .u8 d] w fun e w' => e = .returned (.int .i32 ((xdg d).toNat : Int)) ∧ w = w' := by
  have HX := Lib.hid (xdg_int h0 h1)
  by_cases h : d < 10
  · go_enter Tryd.func81, Tryd.ntmps81
    go_wp2
    go_ret
    exact ⟨ret_k (by rw [← HX.out, if_pos h]), rfl⟩
  · go_enter Tryd.func81, Tryd.ntmps81
    go_wp2
    go_ret
    exact ⟨ret_k (by rw [← HX.out, if_neg (by omega)]; omega), rfl⟩

set_option maxHeartbeats 1000000 in
theorem isFour_any (s : Bool) (h l : Int) (w : World) :
    Calls Tryd.prog 96 #[adr s h l] w fun e w' => e = .returned (.bool (foB s h l)) ∧ Below w.heap.size w w' := by
  obtain ⟨V1, hV1⟩ : ∃ v, vld s h l = v := ⟨_, rfl⟩
  have hR : foB s h l = (!s && V1) := by rw [← hV1]; cases s <;> simp [foB, vld]
  have HR := Lib.hid hR
  have H1 := Lib.hid (fun W => valid_at s h l W hV1)
  clear hR hV1
  cases s
  · go_enter Tryd.func96, Tryd.ntmps96
    go_wp2_with fail
    refine Calls.mono (H1.out _) ?_
    rintro e w1 ⟨rfl, hb⟩
    have L1 := ((Below.refl _ w).alloc (Nat.le_refl _) _).trans (hb.mono (by simp only [World.size_alloc]; omega))
    clear hb
    go_wp2
    go_ret
    exact ⟨ret_bool (by rw [HR.out]; simp), L1⟩
  · go_enter Tryd.func96, Tryd.ntmps96
    go_wp2
    go_ret
    exact ⟨ret_bool (by rw [HR.out]; simp), (Below.refl _ _).alloc (Nat.le_refl _) _⟩
theorem isFour_at (s : Bool) (h l : Int) {b : Bool} (e : foB s h l = b) (w : World) :
    Calls Tryd.prog 96 #[adr s h l] w fun e w' => e = .returned (.bool b) ∧ Below w.heap.size w w' := by
  subst e; exact isFour_any s h l w
end Go.Proofs.YtnhlgonldffgoaaDoor
