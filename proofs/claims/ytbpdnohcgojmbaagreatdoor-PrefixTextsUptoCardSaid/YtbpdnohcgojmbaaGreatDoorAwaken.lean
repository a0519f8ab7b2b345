/-
  The chapter's examples that each law of addr calls first: they answer true.
-/
import Derived.Test.YtbpdnohcgojmbaaGreatDoorPrint
namespace Go.Proofs.YtbpdnohcgojmbaaGreatDoor
open Go.RowKit
set_option linter.unusedVariables false

theorem grs_one : grs 0 1 = .agg #[.int .u16 0, .int .u16 0, .int .u16 0, .int .u16 0, .int .u16 0, .int .u16 0, .int .u16 0, .int .u16 1] := rfl
theorem grs_three : grs 0 3 = .agg #[.int .u16 0, .int .u16 0, .int .u16 0, .int .u16 0, .int .u16 0, .int .u16 0, .int .u16 0, .int .u16 3] := rfl
theorem groups_at (s : Bool) (h l : Int) (hh : U6 h) (hl : U6 l) {v : Value} (hv : grs h l = v) (w : World) :
    Calls Tryz.prog 46 #[adr s h l] w fun e w' => e = .returned v ∧ Below w.heap.size w w' := by
  subst hv; exact groups_any s h l hh hl w
theorem u6_0 : U6 0 := by unfold U6; decide
theorem u6_1 : U6 1 := by unfold U6; decide
theorem u6_3 : U6 3 := by unfold U6; decide
theorem u6_k : U6 65536 := by unfold U6; decide
theorem u6_a : U6 167772161 := by unfold U6; decide
theorem sol_val : adr true (n4 65282 0 0 0) (n4 0 1 65280 3) = adr true 18375249429625044992 8573157379 := rfl
theorem less_at (s : Bool) (h l : Int) (s' : Bool) (h' l' : Int) (w : World) {b : Bool} (e : lss s h l s' h' l' = b) :
    Calls Tryz.prog 32 #[adr s h l, adr s' h' l'] w fun e w' => e = .returned (.bool b) ∧ Below w.heap.size w w' := by
  subst e; exact less_any s h l s' h' l' w
theorem ofV_1 : ofV [10, 0, 0, 1] = .tuple #[adr false 0 167772161, .int .i64 0] := rfl
theorem parse_at (s : ByteArray) (hs : s.size ≤ 100) {v : Value} (hv : prsV s.data.toList = v) (w : World) (hE : Env w) :
    Calls Tryz.prog 19 #[.string s] w fun e w' => e = .returned v ∧ Below w.heap.size w w' := by
  subst hv; exact parse_any s (by omega) w hE
theorem print_at (s : Bool) (h l : Int) (hh : U6 h) (hl : U6 l) {v : ByteArray} (hv : (⟨(prn s h l).toArray⟩ : ByteArray) = v) (w : World) (hE : Env w) :
    Calls Tryz.prog 23 #[adr s h l] w fun e w' => e = .returned (.string v) ∧ Below w.heap.size w w' := by
  subst hv; exact print_any s h l hh hl w hE
theorem prs_1 : prsV [49, 48, 46, 48, 46, 48, 46, 49] = .tuple #[adr false 0 167772161, .int .i64 0] := by kernel_rfl
theorem prs_2 : prsV [48, 58, 48, 58, 48, 58, 48, 58, 48, 58, 48, 58, 48, 58, 49] = .tuple #[adr true 0 1, .int .i64 0] := by kernel_rfl
theorem prs_3 : prsV [49, 58, 50, 58, 51, 58, 52, 58, 53, 58, 54, 58, 55, 58, 56, 58, 58] = .tuple #[adr false 0 0, .int .i64 20] := by kernel_rfl
theorem prn_1 : (⟨(prn true 0 1).toArray⟩ : ByteArray) = ⟨#[58, 58, 49]⟩ := by kernel_rfl
theorem prn_2 : (⟨(prn true 65536 65536).toArray⟩ : ByteArray) = ⟨#[48, 58, 48, 58, 49, 58, 58, 49, 58, 48]⟩ := by kernel_rfl

end Go.Proofs.YtbpdnohcgojmbaaGreatDoor
