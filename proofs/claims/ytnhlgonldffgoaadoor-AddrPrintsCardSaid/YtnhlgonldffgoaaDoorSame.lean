/-
  What the document's own Same answers of two rows of bytes that hold the same bytes: true.
-/
import Derived.Test.YtnhlgonldffgoaaDoorWords
import Derived.Test.YtnhlgonldffgoaaDoorRows
import Derived.WalkKit
import Derived.WalkSpells
import Derived.WalkLawsBesides
import Derived.Outline
import Derived.Deep.QuietTactic
import Derived.BigQuiet
import Derived.Lib.Hide
namespace Go.Proofs.YtnhlgonldffgoaaDoor
open Go.RowKit
set_option linter.unusedVariables false

set_option maxHeartbeats 400000 in
theorem same_yes (w : World) (B B' : Nat) (A A' : Option Addr) (n c c' : Nat) (zs : List Int) (hz : RI .u8 w B A n zs) (hz' : RI .u8 w B' A' n zs) (hc : n ≤ 9223372036854775807) :
    Calls Tryd.prog 17 #[.slice A n c, .slice A' n c'] w fun e w' => e = .returned (.bool true) ∧ ∃ m, w' = w.drewN m := by
  go_enter Tryd.func17, Tryd.ntmps17
  go_wp2
  go_loopw [5] (fun i wr => ∃ j : Nat, j ≤ n ∧ i = .int .i64 j ∧ ∃ m, wr = w.drewN m) (fun i _ => n - (intOf i).toNat)
  case atStart => exact ⟨0, Nat.zero_le _, rfl, 0, rfl⟩
  case round =>
    obtain ⟨j, hj, rfl, m, rfl⟩ := hrel
    by_cases hlt : j < n
    · obtain ⟨b, o, z, rfl, hb, hz1, hzw, hcell⟩ := hz.at_ (j := j) (by omega)
      obtain ⟨b', o', z', rfl, hb', hz1', hzw', hcell'⟩ := hz'.at_ (j := j) (by omega)
      obtain rfl : z = z' := by rw [hz1] at hz1'; injection hz1'
      clear hz1 hz1' hz hz'
      have h1 : (j : Int) < n := by omega
      go_wp2
      go_quiet (fail)
      go_wp2
      go_roundw
      case rel => exact ⟨j + 1, by omega, by go_num, _, rfl⟩
      case measure => simp [intOf]; omega
    · obtain rfl : j = n := by omega
      go_wp2
      go_ret
      exact ⟨rfl, _, rfl⟩

end Go.Proofs.YtnhlgonldffgoaaDoor
