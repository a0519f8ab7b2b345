/-
  addr.Of of any bytes, and addr.parseFour of any text.
-/
import Derived.Test.YtbpdnohcgojmbaaGreatDoorText
import Derived.Deep.RegionHeld3
namespace Go.Proofs.YtbpdnohcgojmbaaGreatDoor
open Go.RowKit
set_option linter.unusedVariables false

set_option maxHeartbeats 400000 in
theorem number_any (w : World) (B : Nat) (A : Option Addr) (n c : Nat) (zs : List Int) (hz : RI .u8 w B A n zs) (hk : n ≤ 8) :
    Calls Tryz.prog 75 #[.slice A n c] w fun e w' => e = .returned (.int .u64 (numOf zs)) ∧ w = w' := by
  have hc : n ≤ 9223372036854775807 := by omega
  go_enter Tryz.func75, Tryz.ntmps75
  go_wp2
  go_loop [3, 8] (fun v i => ∃ j : Nat, j ≤ n ∧ i = .int .i64 j ∧ v = .int .u64 (numOf ((zs.drop 0).take j))) (fun _ i => n - (intOf i).toNat)
  case atStart => exact ⟨0, Nat.zero_le _, rfl, rfl⟩
  case round =>
    obtain ⟨j, hj, rfl, rfl⟩ := hrel
    by_cases hlt : j < n
    · obtain ⟨b, o, z, rfl, hb, hz1, hzw, hcell⟩ := hz.at_ (j := j) (by omega)
      have hbd := u8_bd hzw
      have h1 : (j : Int) < n := by omega
      have R := Lib.hid (num_round (a := 0) hz.by_ hk hlt (by have := hz.1; omega) (by rw [Nat.zero_add]; exact hz1))
      clear hz1 hz
      go_wp2
      go_round
      case rel => exact ⟨j + 1, by omega, by go_num, u64_eq R.out⟩
      case measure => simp [intOf]; omega
    · obtain rfl : j = n := by omega
      have HL := Lib.hid hz.1
      go_wp2
      go_ret
      exact ⟨ret_k (by rw [List.take_of_length_le (by rw [HL.out]; exact Nat.le_refl _)]), rfl⟩

/-- What bytes are as an address; 20: none. -/
def ofV (zs : List Int) : Value :=
  if zs.length = 4 then .tuple #[adr false 0 (numOf zs), .int .i64 0]
  else if zs.length = 16 then .tuple #[adr true (numOf (zs.take 8)) (numOf (zs.drop 8)), .int .i64 0]
  else .tuple #[adr false 0 0, .int .i64 20]

theorem cell_heap {w w' : World} (e : w'.heap = w.heap) (p : Addr) : w'.cell? p = w.cell? p := by unfold World.cell?; rw [e]

set_option maxHeartbeats 1000000 in
theorem of_any (w : World) (B : Nat) (A : Option Addr) (n c : Nat) (zs : List Int) (hz : RI .u8 w B A n zs) (hB : B ≤ w.heap.size) (hc : n ≤ c) (hm : c ≤ 9223372036854775807) :
    Calls Tryz.prog 59 #[.slice A n c] w fun e w' => e = .returned (ofV zs) ∧ Below w.heap.size w w' := by
  have HL := Lib.hid hz.1
  by_cases h4 : n = 4
  · subst h4
    have H := Lib.hid (number_any _ B A 4 c zs (hz.alloc hB (.cells #[.bool false, .int .u64 0, .int .u64 0] 24)) (by omega))
    clear hz
    go_enter Tryz.func59, Tryz.ntmps59
    go_wp2_with fail
    refine Calls.mono H.out ?_
    rintro e w' ⟨rfl, rfl⟩
    go_wp2
    exact bodyPost_ret (v := .tuple #[adr false 0 (numOf zs), .int .i64 0]) (by simp [results, Tryz.results59, go_sem]) rfl ⟨by unfold ofV; rw [if_pos HL.out], (Below.refl _ _).alloc (Nat.le_refl _) _⟩
  · by_cases h16 : n = 16
    · subst h16
      obtain ⟨b, o, z, rfl, hb, -, -, -⟩ := hz.at_ (j := 0) (by omega)
      have h8 : ¬ c = 8 := by omega
      have h8' : ¬ (8 : Nat) = c := by omega
      have t1 : (8 : Int) ≤ (c : Int) := by omega
      have t2 : 8 ≤ c := by omega
      have hz1 := (hz.alloc hB (.cells #[.bool false, .int .u64 0, .int .u64 0] 24))
      obtain ⟨W, hW⟩ : ∃ W, W = w.alloc (.cells #[.bool false, .int .u64 0, .int .u64 0] 24) := ⟨_, rfl⟩
      rw [← hW] at hz1
      have HB := Blk.new w 24 #[.bool false, .int .u64 0, .int .u64 0]
      have HS : Below w.heap.size w W := by rw [hW]; exact (Below.refl _ _).alloc (Nat.le_refl _) _
      rw [← hW] at HB
      have H1 := Lib.hid (number_any W.drew B _ 8 c (zs.take 8) ((hz1.pre (by omega)).keep fun p _ => cell_heap rfl p) (by omega))
      have H2 := Lib.hid (number_any W.drew B _ 8 (c - 8) (zs.drop 8) ((show RI .u8 W B (some ⟨b, o + 8, none⟩) 8 (zs.drop 8) from hz1.post (by omega)).keep fun p _ => cell_heap rfl p) (by omega))
      obtain ⟨f1, f2, f3⟩ := HB.c3
      have z1 := HB.frozen 0
      have z2 := HB.frozen 1
      have z3 := HB.frozen 2
      have HW := Lib.hid hW
      clear hz hz1 hW HB
      go_enter Tryz.func59, Tryz.ntmps59
      go_wp2
      rw [← HW.out]
      go_region_held3 (fun w' => True) (first | trivial | go_keep)
        ((first
          | (go_at_call 75; (first
            | (with_reducible refine Calls.mono H1.out ?_)
            | (with_reducible refine Calls.mono H2.out ?_)); rintro e w' ⟨rfl, rfl⟩)))
      all_goals go_wp2
      all_goals exact bodyPost_ret (v := .tuple #[adr true (numOf (zs.take 8)) (numOf (zs.drop 8)), .int .i64 0]) (by simp [results, Tryz.results59, go_sem, f1, f2, f3]) rfl ⟨by unfold ofV; rw [if_neg (by rw [HL.out]; exact h4), if_pos HL.out], ((HS.setCell (p := ⟨_, _, _⟩) (Nat.le_refl _) _).setCell (p := ⟨_, _, _⟩) (Nat.le_refl _) _).setCell (p := ⟨_, _, _⟩) (Nat.le_refl _) _ |>.drew⟩
    · have n4 : ¬ (n : Int) = 4 := by omega
      have n16 : ¬ (n : Int) = 16 := by omega
      clear hz
      go_enter Tryz.func59, Tryz.ntmps59
      go_wp2
      exact bodyPost_ret (v := .tuple #[adr false 0 0, .int .i64 20]) (by simp [results, Tryz.results59, go_sem]) rfl ⟨by unfold ofV; rw [if_neg (by rw [HL.out]; exact h4), if_neg (by rw [HL.out]; exact h16)], (Below.refl _ _).alloc (Nat.le_refl _) _⟩
end Go.Proofs.YtbpdnohcgojmbaaGreatDoor
