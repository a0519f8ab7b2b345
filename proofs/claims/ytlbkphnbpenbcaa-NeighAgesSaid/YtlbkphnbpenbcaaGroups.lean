/-
  The groups of an address of sixteen bytes, and the address of groups.
-/
import Derived.Test.YtlbkphnbpenbcaaValid
namespace Go.Proofs.Ytlbkphnbpenbcaa
open Go.RowKit
set_option linter.unusedVariables false

/-- Group k of four of a number of 64 bits. -/
def gr (n : Int) (k : Nat) : Int := n / 65536 ^ (3 - k) % 65536
theorem gr_0 (n : Int) : n / 281474976710656 % 65536 = gr n 0 := rfl
theorem gr_1 (n : Int) : n / 4294967296 % 65536 = gr n 1 := rfl
theorem gr_2 (n : Int) : n / 65536 % 65536 = gr n 2 := rfl
theorem gr_3 (n : Int) : n % 65536 = gr n 3 := by unfold gr; simp
theorem gr_0' (n : Int) (h0 : 0 ≤ n) (h1 : n ≤ 18446744073709551615) : gr n 0 = n / 281474976710656 := by rw [← gr_0]; omega
theorem gr_3' (n : Int) : gr n 3 = IntKind.u16.wrap n := by rw [← gr_3, IntKind.wrap_u16]
theorem gr_bd (n : Int) (k : Nat) : 0 ≤ gr n k ∧ gr n k ≤ 65535 := by unfold gr; omega
/-- The groups as a value. -/
abbrev grs (h l : Int) : Value := .agg #[.int .u16 (gr h 0), .int .u16 (gr h 1), .int .u16 (gr h 2), .int .u16 (gr h 3), .int .u16 (gr l 0), .int .u16 (gr l 1), .int .u16 (gr l 2), .int .u16 (gr l 3)]

set_option maxHeartbeats 1000000 in
theorem groups_any (s : Bool) (h l : Int) (hh : U6 h) (hl : U6 l) (w : World) :
    Calls Try.prog 63 #[adr s h l] w fun e w' => e = .returned (grs h l) ∧ Below w.heap.size w w' := by
  obtain ⟨h0, h1⟩ := hh
  obtain ⟨l0, l1⟩ := hl
  have E1 := Lib.hid (gr_0' h h0 h1)
  have E2 := Lib.hid (gr_0' l l0 l1)
  have E3 := Lib.hid (gr_3' h)
  have E4 := Lib.hid (gr_3' l)
  go_enter Try.func63, Try.ntmps63
  go_wp2
  go_loopw [6] (fun i wr => (i = .int .i64 0 ∧ wr = ((w.alloc (.cells #[.bool s, .int .u64 h, .int .u64 l] 30)).alloc (.cells #[.int .u16 0, .int .u16 0, .int .u16 0, .int .u16 0, .int .u16 0, .int .u16 0, .int .u16 0, .int .u16 0] 106)).alloc (.cells #[.int .u16 0, .int .u16 0, .int .u16 0, .int .u16 0, .int .u16 0, .int .u16 0, .int .u16 0, .int .u16 0] 106)) ∨ (i = .int .i64 1 ∧ wr = ((w.alloc (.cells #[.bool s, .int .u64 h, .int .u64 l] 30)).alloc (.cells #[.int .u16 0, .int .u16 0, .int .u16 0, .int .u16 0, .int .u16 0, .int .u16 0, .int .u16 0, .int .u16 0] 106)).alloc (.cells #[.int .u16 (gr h 0), .int .u16 0, .int .u16 0, .int .u16 0, .int .u16 (gr l 0), .int .u16 0, .int .u16 0, .int .u16 0] 106)) ∨ (i = .int .i64 2 ∧ wr = ((w.alloc (.cells #[.bool s, .int .u64 h, .int .u64 l] 30)).alloc (.cells #[.int .u16 0, .int .u16 0, .int .u16 0, .int .u16 0, .int .u16 0, .int .u16 0, .int .u16 0, .int .u16 0] 106)).alloc (.cells #[.int .u16 (gr h 0), .int .u16 (gr h 1), .int .u16 0, .int .u16 0, .int .u16 (gr l 0), .int .u16 (gr l 1), .int .u16 0, .int .u16 0] 106)) ∨ (i = .int .i64 3 ∧ wr = ((w.alloc (.cells #[.bool s, .int .u64 h, .int .u64 l] 30)).alloc (.cells #[.int .u16 0, .int .u16 0, .int .u16 0, .int .u16 0, .int .u16 0, .int .u16 0, .int .u16 0, .int .u16 0] 106)).alloc (.cells #[.int .u16 (gr h 0), .int .u16 (gr h 1), .int .u16 (gr h 2), .int .u16 0, .int .u16 (gr l 0), .int .u16 (gr l 1), .int .u16 (gr l 2), .int .u16 0] 106)) ∨ (i = .int .i64 4 ∧ wr = ((w.alloc (.cells #[.bool s, .int .u64 h, .int .u64 l] 30)).alloc (.cells #[.int .u16 0, .int .u16 0, .int .u16 0, .int .u16 0, .int .u16 0, .int .u16 0, .int .u16 0, .int .u16 0] 106)).alloc (.cells #[.int .u16 (gr h 0), .int .u16 (gr h 1), .int .u16 (gr h 2), .int .u16 (gr h 3), .int .u16 (gr l 0), .int .u16 (gr l 1), .int .u16 (gr l 2), .int .u16 (gr l 3)] 106))) (fun i _ => 4 - (intOf i).toNat)
  case atStart => exact Or.inl ⟨rfl, rfl⟩
  case round =>
    rcases hrel with ⟨rfl, rfl⟩ | ⟨rfl, rfl⟩ | ⟨rfl, rfl⟩ | ⟨rfl, rfl⟩ | ⟨rfl, rfl⟩
    · go_wp2
      go_roundw
      case rel => exact Or.inr (Or.inl ⟨rfl, by first | rfl | (rw [E1.out, E2.out]; done) | (rw [E3.out, E4.out]; done)⟩)
      case measure => simp [intOf]
    · go_wp2
      go_roundw
      case rel => exact Or.inr (Or.inr (Or.inl ⟨rfl, by first | rfl | (rw [E1.out, E2.out]; done) | (rw [E3.out, E4.out]; done)⟩))
      case measure => simp [intOf]
    · go_wp2
      go_roundw
      case rel => exact Or.inr (Or.inr (Or.inr (Or.inl ⟨rfl, by first | rfl | (rw [E1.out, E2.out]; done) | (rw [E3.out, E4.out]; done)⟩)))
      case measure => simp [intOf]
    · go_wp2
      go_roundw
      case rel => exact Or.inr (Or.inr (Or.inr (Or.inr (⟨rfl, by first | rfl | (rw [E1.out, E2.out]; done) | (rw [E3.out, E4.out]; done)⟩))))
      case measure => simp [intOf]

    · go_wp2
      exact bodyPost_ret (v := grs h l) (by simp [results, Try.results63, go_sem]) rfl ⟨rfl, (((Below.refl _ _).alloc (Nat.le_refl _) _).alloc (by simp) _).alloc (by simp only [World.size_alloc]; omega) _⟩
end Go.Proofs.Ytlbkphnbpenbcaa
