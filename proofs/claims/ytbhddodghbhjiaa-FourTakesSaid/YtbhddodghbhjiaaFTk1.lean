/-
  ip4.Take of any text: a piece.
-/
import Derived.Test.YtbhddodghbhjiaaFTkP
namespace Go.Proofs.Ytbhddodghbhjiaa
open Go.RowKit
set_option linter.unusedVariables false

set_option maxRecDepth 100000 in
set_option maxHeartbeats 8000000 in
theorem take_he (s : ByteArray) (hs : s.size ≤ 281474976710656) (w : World) (he : (szR s).2 ≠ 0) :
    Calls Try.prog 11 #[.string s] w fun e w' => e = .returned (tkRV s) ∧ Below w.heap.size w w' := by
  have HSz := Lib.hid (fun W => size_any s W)
  have H15Z : Hid ((#[.int .i64 0, .int .i64 0, .bool false, .bool false, .int .i64 0, .int .i64 0, .int .i64 0, .bool false, .int .u64 0, .int .u64 0, .bool false, .int .u64 0, .int .u64 0, .string ⟨#[]⟩, .string ⟨#[]⟩] : Array Value).size = 15 ∧ (#[.int .i64 0, .int .i64 0, .bool false, .bool false, .int .i64 0, .int .i64 0, .int .i64 0, .bool false, .int .u64 0, .int .u64 0, .bool false, .int .u64 0, .int .u64 0, .string ⟨#[]⟩, .string ⟨#[]⟩] : Array Value).all (·.oneCell') = true) := Lib.hid ⟨rfl, by simp [Value.oneCell']⟩
  have K0 := Lib.hid (Blk.new w 27 #[.int .i64 0, .int .i64 0, .bool false, .bool false, .int .i64 0, .int .i64 0, .int .i64 0, .bool false, .int .u64 0, .int .u64 0, .bool false, .int .u64 0, .int .u64 0, .string ⟨#[]⟩, .string ⟨#[]⟩])
  have L0 := Lib.hid ((Below.refl _ w).alloc (Nat.le_refl _) (.cells #[.int .i64 0, .int .i64 0, .bool false, .bool false, .int .i64 0, .int .i64 0, .int .i64 0, .bool false, .int .u64 0, .int .u64 0, .bool false, .int .u64 0, .int .u64 0, .string ⟨#[]⟩, .string ⟨#[]⟩] 27))
  obtain ⟨S, hS⟩ : ∃ x, (szR s).1 = x := ⟨_, rfl⟩
  have HX := Lib.hid (tk_sz he)
  obtain ⟨E, hE⟩ : ∃ x, (szR s).2 = x := ⟨_, rfl⟩
  unfold szV at HSz
  rw [hS, hE] at HSz
  rw [hE] at he HX
  have hE0 : (E == 0) = false := by simpa using he
  have g0 := (K0.out.cell 0).trans (show _ = some (.int .i64 0) by rfl)
  have g1 := (K0.out.cell 1).trans (show _ = some (.int .i64 0) by rfl)
  have g2 := (K0.out.cell 2).trans (show _ = some (.bool false) by rfl)
  have g3 := (K0.out.cell 3).trans (show _ = some (.bool false) by rfl)
  have g4 := (K0.out.cell 4).trans (show _ = some (.int .i64 0) by rfl)
  have g5 := (K0.out.cell 5).trans (show _ = some (.int .i64 0) by rfl)
  have g6 := (K0.out.cell 6).trans (show _ = some (.int .i64 0) by rfl)
  have g7 := (K0.out.cell 7).trans (show _ = some (.bool false) by rfl)
  have g8 := (K0.out.cell 8).trans (show _ = some (.int .u64 0) by rfl)
  have g9 := (K0.out.cell 9).trans (show _ = some (.int .u64 0) by rfl)
  have g10 := (K0.out.cell 10).trans (show _ = some (.bool false) by rfl)
  have g11 := (K0.out.cell 11).trans (show _ = some (.int .u64 0) by rfl)
  have g12 := (K0.out.cell 12).trans (show _ = some (.int .u64 0) by rfl)
  have g13 := (K0.out.cell 13).trans (show _ = some (.string (⟨#[]⟩ : ByteArray)) by rfl)
  have g14 := (K0.out.cell 14).trans (show _ = some (.string (⟨#[]⟩ : ByteArray)) by rfl)
  have z0 := K0.out.frozen 0
  have z1 := K0.out.frozen 1
  have z2 := K0.out.frozen 2
  have z3 := K0.out.frozen 3
  have z4 := K0.out.frozen 4
  have z5 := K0.out.frozen 5
  have z6 := K0.out.frozen 6
  have z7 := K0.out.frozen 7
  have z8 := K0.out.frozen 8
  have z9 := K0.out.frozen 9
  have z10 := K0.out.frozen 10
  have z11 := K0.out.frozen 11
  have z12 := K0.out.frozen 12
  have z13 := K0.out.frozen 13
  have z14 := K0.out.frozen 14

  clear hS hE he
  go_enter Try.func11, Try.ntmps11
  go_wp2_with fail
  refine Calls.mono (HSz.out _) ?_
  rintro e w1 ⟨rfl, rfl⟩
  go_wp2
  exact bodyPost_ret (v := .tuple #[noPk.val, .int .i64 E]) (by simp [results, Try.results11, go_sem, g0, g1, g2, g3, g4, g5, g6, g7, g8, g9, g10, g11, g12, g13, g14]) rfl ⟨by unfold tkRV; rw [HX.out], L0.out⟩
end Go.Proofs.Ytbhddodghbhjiaa
