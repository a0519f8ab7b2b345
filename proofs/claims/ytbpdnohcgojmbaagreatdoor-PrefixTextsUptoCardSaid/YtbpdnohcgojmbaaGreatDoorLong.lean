/-
  addr.longest of any eight groups.
-/
import Derived.Test.YtbpdnohcgojmbaaGreatDoorGrps
namespace Go.Proofs.YtbpdnohcgojmbaaGreatDoor
open Go.RowKit
set_option linter.unusedVariables false

/-- The longest sequence of noughts: where, how long. -/
def lngAux : List Int → Nat → Nat → Nat → Nat → Nat × Nat
  | [], j, p, n, r => (p, n)
  | z :: rest, j, p, n, r => if z = 0 then (if n < r + 1 then lngAux rest (j + 1) (j + 1 - (r + 1)) (r + 1) (r + 1) else lngAux rest (j + 1) p n (r + 1)) else lngAux rest (j + 1) p n 0
def lng (zs : List Int) : Nat × Nat := lngAux zs 0 0 0 0

theorem run_index8' (a0 a1 a2 a3 a4 a5 a6 a7 : Int) (j : Nat) (hj : j < 8) (w : World) :
    (Instr.index 75 (.agg #[.int .u16 a0, .int .u16 a1, .int .u16 a2, .int .u16 a3, .int .u16 a4, .int .u16 a5, .int .u16 a6, .int .u16 a7]) (.int .i64 (j : Int))).run Tryz.prog w = .ok (.int .u16 ([a0, a1, a2, a3, a4, a5, a6, a7].getD j 0)) w := by
  rcases (show j = 0 ∨ j = 1 ∨ j = 2 ∨ j = 3 ∨ j = 4 ∨ j = 5 ∨ j = 6 ∨ j = 7 by omega) with rfl | rfl | rfl | rfl | rfl | rfl | rfl | rfl
  all_goals kernel_rfl
theorem run_index8 (a0 a1 a2 a3 a4 a5 a6 a7 : Int) (j : Nat) (z : Int) (h : [a0, a1, a2, a3, a4, a5, a6, a7][j]? = some z) (w : World) :
    (Instr.index 75 (.agg #[.int .u16 a0, .int .u16 a1, .int .u16 a2, .int .u16 a3, .int .u16 a4, .int .u16 a5, .int .u16 a6, .int .u16 a7]) (.int .i64 (j : Int))).run Tryz.prog w = .ok (.int .u16 z) w := by
  have hj : j < 8 := (List.getElem?_eq_some_iff.1 h).1
  have e : [a0, a1, a2, a3, a4, a5, a6, a7].getD j 0 = z := by rw [List.getD_eq_getElem?_getD, h]; rfl
  rw [run_index8' a0 a1 a2 a3 a4 a5 a6 a7 j hj w, e]

set_option maxRecDepth 100000 in
set_option maxHeartbeats 2000000 in
theorem longest_any (a0 a1 a2 a3 a4 a5 a6 a7 : Int) (w : World) :
    Calls Tryz.prog 47 #[.agg #[.int .u16 a0, .int .u16 a1, .int .u16 a2, .int .u16 a3, .int .u16 a4, .int .u16 a5, .int .u16 a6, .int .u16 a7]] w fun e w' => ∃ p n : Nat, e = .returned (.tuple #[.int .i64 (p : Int), .int .i64 (n : Int)]) ∧ lng [a0, a1, a2, a3, a4, a5, a6, a7] = (p, n) ∧ p + n ≤ 8 ∧ Below w.heap.size w w' := by
  obtain ⟨zs, hzs⟩ : ∃ zs, zs = [a0, a1, a2, a3, a4, a5, a6, a7] := ⟨_, rfl⟩
  have hl : zs.length = 8 := by rw [hzs]; rfl
  have HI := Lib.hid (fun (j : Nat) (z : Int) (h : zs[j]? = some z) (W : World) => run_index8 a0 a1 a2 a3 a4 a5 a6 a7 j z (by rw [← hzs]; exact h) W)
  rw [← hzs]
  have HL := Lib.hid hl
  clear hl hzs
  go_enter Tryz.func47, Tryz.ntmps47
  go_wp2
  go_loop [2, 3, 4, 8] (fun u v x y => ∃ j p n r : Nat, j ≤ 8 ∧ r ≤ j ∧ p + n ≤ j ∧ u = .int .i64 (p : Int) ∧ v = .int .i64 (n : Int) ∧ x = .int .i64 (r : Int) ∧ y = .int .i64 (j : Int) ∧ Hid (lng zs = lngAux (zs.drop j) j p n r)) (fun _ _ _ y => 8 - (intOf y).toNat)
  case atStart => exact ⟨0, 0, 0, 0, by decide, by decide, by decide, rfl, rfl, rfl, rfl, rfl⟩
  case round =>
    obtain ⟨j, p, n, r, hj, hr, hpn, rfl, rfl, rfl, rfl, hh⟩ := hrel
    by_cases hlt : j < 8
    · have hjl : j < zs.length := by rw [HL.out]; exact hlt
      have hdrop : zs.drop j = zs[j] :: zs.drop (j + 1) := List.drop_eq_getElem_cons hjl
      have hix := HI.out j zs[j] (List.getElem?_eq_getElem hjl) (w.alloc (.cells #[.int .u16 a0, .int .u16 a1, .int .u16 a2, .int .u16 a3, .int .u16 a4, .int .u16 a5, .int .u16 a6, .int .u16 a7] 75))
      obtain ⟨z, hz⟩ : ∃ z, zs[j] = z := ⟨_, rfl⟩
      have h1 : (j : Int) < 8 := by omega
      have hd := hh.out
      rw [hdrop, hz] at hd
      rw [hz] at hix
      clear hh hdrop hz hjl
      by_cases h0 : z = 0
      · subst h0
        by_cases hn : n < r + 1
        · have HN : Hid (lng zs = lngAux (zs.drop (j + 1)) (j + 1) (j + 1 - (r + 1)) (r + 1) (r + 1)) := Lib.hid (by rw [hd, lngAux, if_pos rfl, if_pos hn])
          have hn' : (n : Int) < (r : Int) + 1 := by omega
          clear hd
          go_wp2
          go_round
          case rel => exact ⟨j + 1, j + 1 - (r + 1), r + 1, r + 1, by omega, by omega, by omega, (by congr 1; omega), by go_num, by go_num, by go_num, HN⟩
          case measure => simp [intOf]; omega
        · have HN : Hid (lng zs = lngAux (zs.drop (j + 1)) (j + 1) p n (r + 1)) := Lib.hid (by rw [hd, lngAux, if_pos rfl, if_neg hn])
          have hn' : ¬ (n : Int) < (r : Int) + 1 := by omega
          clear hd
          go_wp2
          go_round
          case rel => exact ⟨j + 1, p, n, r + 1, by omega, by omega, by omega, rfl, rfl, by go_num, by go_num, HN⟩
          case measure => simp [intOf]; omega
      · have HN : Hid (lng zs = lngAux (zs.drop (j + 1)) (j + 1) p n 0) := Lib.hid (by rw [hd, lngAux, if_neg h0])
        clear hd
        go_wp2
        go_round
        case rel => exact ⟨j + 1, p, n, 0, by omega, by omega, by omega, rfl, rfl, by first | rfl | go_num, by go_num, HN⟩
        case measure => simp [intOf]; omega
    · obtain rfl : j = 8 := by omega
      have HN : Hid (lng zs = (p, n)) := Lib.hid (by rw [hh.out, List.drop_eq_nil_of_le (by rw [HL.out]; exact Nat.le_refl _)]; rfl)
      clear hh
      go_wp2
      go_ret2
      exact ⟨p, n, rfl, HN.out, hpn, (Below.refl _ _).alloc (Nat.le_refl _) _⟩
end Go.Proofs.YtbpdnohcgojmbaaGreatDoor
