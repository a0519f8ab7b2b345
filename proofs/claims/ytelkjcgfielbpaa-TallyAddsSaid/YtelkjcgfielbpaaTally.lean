/-
  What package tally's sums, and the document's own, answer of any words and any parts.
-/
import Derived.Test.YtelkjcgfielbpaaFold
import Derived.Test.YtelkjcgfielbpaaWords
import Derived.Test.YtelkjcgfielbpaaRows
import Derived.WalkKit
import Derived.WalkSpells
import Derived.WalkLawsBesides
import Derived.Outline
import Derived.Deep.QuietTactic
import Derived.BigQuiet
import Derived.Lib.Hide
namespace Go.Proofs.Ytelkjcgfielbpaa
open Go.RowKit
set_option linter.unusedVariables false

/-- A word of 16 bits. -/
def W16 (a : Int) : Prop := 0 ≤ a ∧ a ≤ 65535

set_option maxHeartbeats 400000 in
theorem add_any (a b : Int) (ha : W16 a) (hb : W16 b) (w : World) :
    Calls Try.prog 15 #[.int .u16 a, .int .u16 b] w fun e w' => e = .returned (.int .u16 (ad a b)) ∧ w = w' := by
  obtain ⟨ha0, ha1⟩ := ha
  obtain ⟨hb0, hb1⟩ := hb
  by_cases h : 65535 < a + b
  · have e : ad a b = a + b - 65535 := by unfold ad; rw [if_pos h]
    have E := Lib.hid e
    clear e
    go_enter Try.func15, Try.ntmps15
    go_wp2
    go_ret
    exact ⟨ret_k (by rw [E.out]), rfl⟩
  · have e : ad a b = a + b := by unfold ad; rw [if_neg h]
    have E := Lib.hid e
    clear e
    go_enter Try.func15, Try.ntmps15
    go_wp2
    go_ret
    exact ⟨ret_k (by rw [E.out]), rfl⟩

set_option maxHeartbeats 400000 in
theorem refAdd_any (a b : Int) (ha : W16 a) (hb : W16 b) (w : World) :
    Calls Try.prog 16 #[.int .u16 a, .int .u16 b] w fun e w' => e = .returned (.int .u16 (ad a b)) ∧ w = w' := by
  obtain ⟨ha0, ha1⟩ := ha
  obtain ⟨hb0, hb1⟩ := hb
  by_cases h : 65535 < a + b
  · have e : ad a b = a + b - 65535 := by unfold ad; rw [if_pos h]
    have E := Lib.hid e
    clear e
    go_enter Try.func16, Try.ntmps16
    go_wp2
    go_ret
    exact ⟨ret_k (by rw [E.out]), rfl⟩
  · have e : ad a b = a + b := by unfold ad; rw [if_neg h]
    have E := Lib.hid e
    clear e
    go_enter Try.func16, Try.ntmps16
    go_wp2
    go_ret
    exact ⟨ret_k (by rw [E.out]), rfl⟩

set_option maxHeartbeats 400000 in
theorem worth_any (z : Int) (p : Nat) (hz : 0 ≤ z ∧ z ≤ 255) (w : World) (hp : p ≤ 9223372036854775807) :
    Calls Try.prog 25 #[.int .u8 z, .int .i64 p] w fun e w' => e = .returned (.int .u16 (wt p z)) ∧ w = w' := by
  obtain ⟨hz0, hz1⟩ := hz
  by_cases h : p % 2 = 0
  · have e : wt p z = z * 256 := by unfold wt; rw [if_pos h]
    have E := Lib.hid e
    have hm : ((p : Int) % 2 == 0) = true := by simp; omega
    clear e h
    go_enter Try.func25, Try.ntmps25
    go_wp2
    go_ret
    exact ⟨ret_k (by rw [E.out]), rfl⟩
  · have e : wt p z = z := by unfold wt; rw [if_neg h]
    have E := Lib.hid e
    have hm : ((p : Int) % 2 == 0) = false := by simp; omega
    clear e h
    go_enter Try.func25, Try.ntmps25
    go_wp2
    go_ret
    exact ⟨ret_k (by rw [E.out]), rfl⟩

theorem W16.ad {a b : Int} (ha : W16 a) (hb : W16 b) : W16 (ad a b) := ad_bd ha hb
theorem W16.fo {s : Int} (h : 0 ≤ s) : W16 (fo s) := fo_bd h
theorem W16.rest {a : Int} (h : W16 a) : W16 (65535 - a) := ⟨by have := h.2; omega, by have := h.1; omega⟩

set_option maxHeartbeats 400000 in
theorem update_any (c o n : Int) (hc : W16 c) (ho : W16 o) (hn : W16 n) (w : World) :
    Calls Try.prog 17 #[.int .u16 c, .int .u16 o, .int .u16 n] w fun e w' => e = .returned (.int .u16 (65535 - ad n (ad (65535 - c) (65535 - o)))) ∧ w = w' := by
  have H1 := Lib.hid (add_any (65535 - c) (65535 - o) hc.rest ho.rest w)
  have H2 := Lib.hid (add_any n (ad (65535 - c) (65535 - o)) hn (hc.rest.ad ho.rest) w)
  obtain ⟨r0, r1⟩ := hn.ad (hc.rest.ad ho.rest)
  obtain ⟨c0, c1⟩ := hc
  obtain ⟨o0, o1⟩ := ho
  obtain ⟨n0, n1⟩ := hn
  go_enter Try.func17, Try.ntmps17
  go_wp2_with fail
  refine Calls.mono H1.out ?_
  rintro e w' ⟨rfl, rfl⟩
  go_wp2_with fail
  refine Calls.mono H2.out ?_
  rintro e w' ⟨rfl, rfl⟩
  go_wp2
  go_ret
  exact ⟨rfl, rfl⟩

set_option maxHeartbeats 400000 in
theorem refUpdate_any (c o n : Int) (hc : W16 c) (ho : W16 o) (hn : W16 n) (w : World) :
    Calls Try.prog 18 #[.int .u16 c, .int .u16 o, .int .u16 n] w fun e w' => e = .returned (.int .u16 (65535 - ad n (ad (65535 - c) (65535 - o)))) ∧ w = w' := by
  have H1 := Lib.hid (refAdd_any (65535 - c) (65535 - o) hc.rest ho.rest w)
  have H2 := Lib.hid (refAdd_any n (ad (65535 - c) (65535 - o)) hn (hc.rest.ad ho.rest) w)
  obtain ⟨r0, r1⟩ := hn.ad (hc.rest.ad ho.rest)
  obtain ⟨c0, c1⟩ := hc
  obtain ⟨o0, o1⟩ := ho
  obtain ⟨n0, n1⟩ := hn
  go_enter Try.func18, Try.ntmps18
  go_wp2_with fail
  refine Calls.mono H1.out ?_
  rintro e w' ⟨rfl, rfl⟩
  go_wp2_with fail
  refine Calls.mono H2.out ?_
  rintro e w' ⟨rfl, rfl⟩
  go_wp2
  go_ret
  exact ⟨rfl, rfl⟩
end Go.Proofs.Ytelkjcgfielbpaa
