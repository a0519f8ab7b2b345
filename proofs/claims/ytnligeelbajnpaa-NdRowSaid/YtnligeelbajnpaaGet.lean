/-
  What octet.Get answers, for any bytes, any place and any width.
-/
import Derived.Test.YtnligeelbajnpaaRGet
import Derived.Test.YtnligeelbajnpaaRows
import Derived.WalkKit
import Derived.WalkSpells
import Derived.WalkLawsBesides
import Derived.Outline
import Derived.Deep.QuietTactic
import Derived.BigQuiet
import Derived.Lib.Hide
namespace Go.Proofs.Ytnligeelbajnpaa
open Go.RowKit
set_option linter.unusedVariables false


set_option maxHeartbeats 400000 in
theorem get_yes (w : World) (B : Nat) (A : Option Addr) (n c a k : Nat) (zs : List Int) (hz : RI .u8 w B A n zs) (hk : k ≤ 8) (hn : a + k ≤ n) (hc : n ≤ 9223372036854775807) :
    Calls Try.prog 35 #[.slice A n c, .int .i64 a, .int .i64 k] w fun e w' => e = .returned (.tuple #[.int .u64 (numOf ((zs.drop a).take k)), .bool true]) ∧ w = w' := by
  have h2 : decide (8 < (k:Int)) = false := by simp; omega
  have h4 : decide ((n:Int) - (a:Int) < (k:Int)) = false := by simp; omega
  go_enter Try.func35, Try.ntmps35
  go_wp2
  go_loop [8, 9, 27] (fun v _ i => ∃ j : Nat, j ≤ k ∧ i = .int .i64 j ∧ v = .int .u64 (numOf ((zs.drop a).take j))) (fun _ _ i => k - (intOf i).toNat)
  case atStart => exact ⟨0, Nat.zero_le _, rfl, rfl⟩
  case round =>
    obtain ⟨j, hj, rfl, rfl⟩ := hrel
    by_cases hlt : j < k
    · obtain ⟨b, o, z, rfl, hb, hz1, hzw, hcell⟩ := hz.at_ (j := a + j) (by omega)
      have hbd := u8_bd hzw
      have h1 : (a : Int) + (j : Int) < n := by omega
      have R := Lib.hid (num_round hz.by_ hk hlt (by have := hz.1; omega) hz1)
      clear hz1 hz
      go_wp2
      go_round
      case rel => exact ⟨j + 1, by omega, by go_num, u64_eq R.out⟩
      case measure => simp [intOf]; omega
    · obtain rfl : j = k := by omega
      go_wp2
      go_ret2
      exact ⟨rfl, rfl⟩

set_option maxHeartbeats 400000 in
theorem get_no (w : World) (A : Option Addr) (n c : Nat) (a k : Int) (h : NoNum n a k) (hc : n ≤ 9223372036854775807) (ha : a ≤ 9223372036854775807) :
    Calls Try.prog 35 #[.slice A n c, .int .i64 a, .int .i64 k] w fun e w' => e = .returned (.tuple #[.int .u64 0, .bool false]) ∧ w = w' := by
  unfold NoNum at h
  by_cases h1 : k < 0
  · clear h
    go_enter Try.func35, Try.ntmps35
    go_wp2
    go_ret2
    exact ⟨rfl, rfl⟩
  · by_cases h2 : 8 < k
    · clear h
      go_enter Try.func35, Try.ntmps35
      go_wp2
      go_ret2
      exact ⟨rfl, rfl⟩
    · by_cases h3 : a < 0
      · clear h
        go_enter Try.func35, Try.ntmps35
        go_wp2
        go_ret2
        exact ⟨rfl, rfl⟩
      · have h4 : (n : Int) - a < k := by omega
        clear h
        go_enter Try.func35, Try.ntmps35
        go_wp2
        go_ret2
        exact ⟨rfl, rfl⟩

end Go.Proofs.Ytnligeelbajnpaa
