/-
  What package tally's sums, and the document's own, answer of any words and any parts.
-/
import Derived.Test.YtljdebpemdjliaaFold
import Derived.Test.YtljdebpemdjliaaWords
import Derived.Test.YtljdebpemdjliaaRows
import Derived.WalkKit
import Derived.WalkSpells
import Derived.WalkLawsBesides
import Derived.Outline
import Derived.Deep.QuietTactic
import Derived.BigQuiet
import Derived.Lib.Hide
namespace Go.Proofs.Ytljdebpemdjliaa
open Go.RowKit
set_option linter.unusedVariables false

/-- A word of 16 bits. -/
def W16 (a : Int) : Prop := 0 ≤ a ∧ a ≤ 65535

set_option maxHeartbeats 400000 in
theorem add_any (a b : Int) (ha : W16 a) (hb : W16 b) (w : World) :
    Calls Try.prog 60 #[.int .u16 a, .int .u16 b] w fun e w' => e = .returned (.int .u16 (ad a b)) ∧ w = w' := by
  obtain ⟨ha0, ha1⟩ := ha
  obtain ⟨hb0, hb1⟩ := hb
  by_cases h : 65535 < a + b
  · have e : ad a b = a + b - 65535 := by unfold ad; rw [if_pos h]
    have E := Lib.hid e
    clear e
    go_enter Try.func60, Try.ntmps60
    go_wp2
    go_ret
    exact ⟨ret_k (by rw [E.out]), rfl⟩
  · have e : ad a b = a + b := by unfold ad; rw [if_neg h]
    have E := Lib.hid e
    clear e
    go_enter Try.func60, Try.ntmps60
    go_wp2
    go_ret
    exact ⟨ret_k (by rw [E.out]), rfl⟩

set_option maxHeartbeats 400000 in
theorem refAdd_any (a b : Int) (ha : W16 a) (hb : W16 b) (w : World) :
    Calls Try.prog 31 #[.int .u16 a, .int .u16 b] w fun e w' => e = .returned (.int .u16 (ad a b)) ∧ w = w' := by
  obtain ⟨ha0, ha1⟩ := ha
  obtain ⟨hb0, hb1⟩ := hb
  by_cases h : 65535 < a + b
  · have e : ad a b = a + b - 65535 := by unfold ad; rw [if_pos h]
    have E := Lib.hid e
    clear e
    go_enter Try.func31, Try.ntmps31
    go_wp2
    go_ret
    exact ⟨ret_k (by rw [E.out]), rfl⟩
  · have e : ad a b = a + b := by unfold ad; rw [if_neg h]
    have E := Lib.hid e
    clear e
    go_enter Try.func31, Try.ntmps31
    go_wp2
    go_ret
    exact ⟨ret_k (by rw [E.out]), rfl⟩

set_option maxHeartbeats 400000 in
theorem worth_any (z : Int) (p : Nat) (hz : 0 ≤ z ∧ z ≤ 255) (w : World) (hp : p ≤ 9223372036854775807) :
    Calls Try.prog 63 #[.int .u8 z, .int .i64 p] w fun e w' => e = .returned (.int .u16 (wt p z)) ∧ w = w' := by
  obtain ⟨hz0, hz1⟩ := hz
  by_cases h : p % 2 = 0
  · have e : wt p z = z * 256 := by unfold wt; rw [if_pos h]
    have E := Lib.hid e
    have hm : ((p : Int) % 2 == 0) = true := by simp; omega
    clear e h
    go_enter Try.func63, Try.ntmps63
    go_wp2
    go_ret
    exact ⟨ret_k (by rw [E.out]), rfl⟩
  · have e : wt p z = z := by unfold wt; rw [if_neg h]
    have E := Lib.hid e
    have hm : ((p : Int) % 2 == 0) = false := by simp; omega
    clear e h
    go_enter Try.func63, Try.ntmps63
    go_wp2
    go_ret
    exact ⟨ret_k (by rw [E.out]), rfl⟩

theorem W16.ad {a b : Int} (ha : W16 a) (hb : W16 b) : W16 (ad a b) := ad_bd ha hb
theorem W16.fo {s : Int} (h : 0 ≤ s) : W16 (fo s) := fo_bd h
theorem W16.rest {a : Int} (h : W16 a) : W16 (65535 - a) := ⟨by have := h.2; omega, by have := h.1; omega⟩
end Go.Proofs.Ytljdebpemdjliaa
