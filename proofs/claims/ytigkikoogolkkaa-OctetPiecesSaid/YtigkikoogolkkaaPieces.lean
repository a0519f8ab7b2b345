/-
  What is proved: for any bytes, any place and any width, the number that octet.Get gives is made of its first byte and the number behind it, as the statement OctetPieces says; the call returns true, and leaves its arguments alone. No condition.
-/
import Derived.Test.YtigkikoogolkkaaIn
namespace Go.Proofs.Ytigkikoogolkkaa.Pieces
open Go.ChangeShapes Go.WideShapes Go.ChangeAt Go.RowKit
open Go.Proofs.Ytigkikoogolkkaa
set_option linter.unusedVariables false
open Go.ChangeMaps (open_string shut_string)

/-- The number of k + 1 bytes is the first one's times 256 for each behind it, and the rest. -/
theorem num_split {zs : List Int} {a k : Nat} (h : a + (k + 1) ≤ zs.length) :
    numOf ((zs.drop a).take (k + 1)) = numOf ((zs.drop a).take 1) * 256 ^ k + numOf ((zs.drop (a + 1)).take k) := by
  have e : (zs.drop a).take (k + 1) = (zs.drop a).take 1 ++ (zs.drop (a + 1)).take k := by
    rw [show k + 1 = 1 + k by omega, List.take_add, List.drop_drop]
  rw [e, numOf_append]
  congr 3
  simp; omega

theorem times_step {X : Int} {j k : Nat} (h0 : 0 ≤ X) (h1 : X < 256) (hj : j < k) (hk : k ≤ 7) : IntKind.u64.wrap (X * 256 ^ j * 256) = X * 256 ^ (j + 1) := by
  have hp := pow256_le j (by omega)
  have hp0 := pow256_pos j
  rw [IntKind.wrap_u64, Int.pow_succ, Int.mul_assoc]
  rcases (show j = 0 ∨ j = 1 ∨ j = 2 ∨ j = 3 ∨ j = 4 ∨ j = 5 ∨ j = 6 by omega) with rfl | rfl | rfl | rfl | rfl | rfl | rfl <;> omega

theorem sum_fits {zs : List Int} {a k : Nat} (hb : By zs) (hk : k ≤ 7) (h : a + (k + 1) ≤ zs.length) :
    (numOf ((zs.drop a).take (k + 1)) == IntKind.u64.wrap (numOf ((zs.drop a).take 1) * 256 ^ k + numOf ((zs.drop (a + 1)).take k))) = true := by
  have e := num_split h
  have hbd := numOf_bd (k + 1) _ (by simp; omega) ((hb.drop a).take (k + 1))
  rw [← e, IntKind.wrap_u64]
  have : numOf ((zs.drop a).take (k + 1)) < 18446744073709551616 := by
    rcases (show k = 0 ∨ k = 1 ∨ k = 2 ∨ k = 3 ∨ k = 4 ∨ k = 5 ∨ k = 6 ∨ k = 7 by omega) with rfl | rfl | rfl | rfl | rfl | rfl | rfl | rfl <;> omega
  rw [Int.emod_eq_of_lt hbd.1 this]
  simp

set_option maxHeartbeats 400000 in
theorem walk_no (A : Option Addr) (n c : Nat) (at_ k : Int) (w : World) (hn : n ≤ 9223372036854775807) (ha : at_ ≤ 9223372036854775807) (hno : NoNum n at_ k) :
    Calls Try.prog 8 #[.slice A n c, .int .i64 at_, .int .i64 k] w fun e w' => e = .returned (.bool true) ∧ Below w.heap.size w w' := by
  have hG := Lib.hid (fun w1 => get_no w1 A n c at_ k hno hn ha)
  clear hno
  go_enter Try.func8, Try.ntmps8
  go_wp2_with fail
  refine (awake_yes _).mono ?_
  rintro e w1 ⟨rfl, hB⟩
  go_wp2_with fail
  refine Calls.mono (hG.out w1) ?_
  rintro e w' ⟨rfl, rfl⟩
  go_wp2
  go_ret
  exact ⟨rfl, hB⟩

set_option maxHeartbeats 400000 in
theorem walk_0 (A : Option Addr) (n c a : Nat) (zs : List Int) (w : World) (hz : RI .u8 w w.heap.size A n zs) (hn : n ≤ 9223372036854775807) (ha : a ≤ n) :
    Calls Try.prog 8 #[.slice A n c, .int .i64 (a : Int), .int .i64 0] w fun e w' => e = .returned (.bool true) ∧ Below w.heap.size w w' := by
  have hG := Lib.hid (fun w1 (hB : Below w.heap.size w w1) => get_yes w1 w.heap.size A n c a 0 zs (hz.below hB) (by omega) (by omega) hn)
  clear hz
  go_enter Try.func8, Try.ntmps8
  go_wp2_with fail
  refine (awake_yes _).mono ?_
  rintro e w1 ⟨rfl, hB⟩
  go_wp2_with fail
  refine Calls.mono (hG.out w1 hB) ?_
  rintro e w' ⟨rfl, rfl⟩
  go_wp2
  go_ret
  exact ⟨rfl, hB⟩

set_option maxHeartbeats 400000 in
theorem walk_yes (A : Option Addr) (n c a k : Nat) (zs : List Int) (w : World) (hz : RI .u8 w w.heap.size A n zs) (hn : n ≤ 9223372036854775807) (hk : k ≤ 7) (ha : a + (k + 1) ≤ n) :
    Calls Try.prog 8 #[.slice A n c, .int .i64 (a : Int), .int .i64 ((k : Int) + 1)] w fun e w' => e = .returned (.bool true) ∧ Below w.heap.size w w' := by
  have hl := hz.1
  have hG := Lib.hid (fun w1 (hB : Below w.heap.size w w1) => get_yes_i w1 w.heap.size A n c a ((k : Int) + 1) zs (hz.below hB) (by omega) (by omega) (by omega) (by omega) hn)
  have hG1 := Lib.hid (fun w1 (hB : Below w.heap.size w w1) => get_yes_i w1 w.heap.size A n c a 1 zs (hz.below hB) (by omega) (by omega) (by omega) (by omega) hn)
  have hG2 := Lib.hid (fun w1 (hB : Below w.heap.size w w1) => get_yes_i w1 w.heap.size A n c ((a : Int) + 1) (k : Int) zs (hz.below hB) (by omega) (by omega) (by omega) (by omega) hn)
  obtain ⟨X, hX⟩ : ∃ X, X = numOf ((zs.drop (a : Int).toNat).take (1 : Int).toNat) := ⟨_, rfl⟩
  obtain ⟨Y, hY⟩ : ∃ Y, Y = numOf ((zs.drop ((a : Int) + 1).toNat).take (k : Int).toNat) := ⟨_, rfl⟩
  obtain ⟨N, hN⟩ : ∃ N, N = numOf ((zs.drop (a : Int).toNat).take ((k : Int) + 1).toNat) := ⟨_, rfl⟩
  rw [← hX] at hG1
  rw [← hY] at hG2
  rw [← hN] at hG
  have hS : (N == IntKind.u64.wrap (X * 256 ^ k + Y)) = true := by
    rw [hX, hY, hN]
    exact sum_fits hz.by_ hk (by omega)
  have hXb : 0 ≤ X ∧ X < 256 := by
    rw [hX]
    have := numOf_bd 1 ((zs.drop (a : Int).toNat).take (1 : Int).toNat) (by simp; omega) ((hz.by_.drop _).take _)
    simpa using this
  have hT := Lib.hid (fun j (hj : j < k) => times_step hXb.1 hXb.2 hj hk)
  clear hX hY hN hXb hl hz
  go_enter Try.func8, Try.ntmps8
  go_wp2_with fail
  refine (awake_yes _).mono ?_
  rintro e w1 ⟨rfl, hB⟩
  go_wp2_with fail
  refine Calls.mono (hG.out w1 hB) ?_
  rintro e w' ⟨rfl, rfl⟩
  go_wp2_with fail
  refine Calls.mono (hG1.out w1 hB) ?_
  rintro e w' ⟨rfl, rfl⟩
  go_wp2_with fail
  refine Calls.mono (hG2.out w1 hB) ?_
  rintro e w' ⟨rfl, rfl⟩
  go_wp2
  go_loop [10, 14] (fun x i => ∃ j : Nat, j ≤ k ∧ i = .int .i64 ((j : Int) + 1) ∧ x = .int .u64 (X * 256 ^ j)) (fun _ i => k + 1 - (intOf i).toNat)
  case atStart => exact ⟨0, Nat.zero_le _, rfl, by simp⟩
  case round =>
    obtain ⟨j, hj, rfl, rfl⟩ := hrel
    by_cases hlt : j < k
    · have HT := Lib.hid (hT.out j hlt)
      go_wp2
      go_round
      case rel => exact ⟨j + 1, by omega, by go_num, u64_eq HT.out⟩
      case measure => simp [intOf]; omega
    · obtain rfl : j = k := by omega
      go_wp2
      go_ret
      exact ⟨rfl, hB⟩

theorem walk (a0 : Option Addr) (len0 cap0 : Nat) (z0 : List Int) (a1 : Int) (a2 : Int) (w : World) (w0 : IsRow .u8 w a0 len0 cap0 z0) (w1 : (Lit.int .i64 a1).wf = true) :
    Calls Try.prog 8 #[.slice a0 len0 cap0, .int .i64 a1, .int .i64 a2] w fun e w' => e = .returned (.bool true) ∧ Below w.heap.size w w' := by
  obtain ⟨hz, hl, hm⟩ := w0.ri
  have b1 := i64_bd w1
  by_cases hno : NoNum len0 a1 a2
  · exact walk_no a0 len0 cap0 a1 a2 w (by omega) b1.2 hno
  · unfold NoNum at hno
    obtain ⟨a, rfl⟩ : ∃ a : Nat, a1 = a := ⟨a1.toNat, by omega⟩
    by_cases h0 : a2 = 0
    · subst h0
      exact walk_0 a0 len0 cap0 a _ w hz (by omega) (by omega)
    · obtain ⟨k, rfl⟩ : ∃ k : Nat, a2 = (k : Int) + 1 := ⟨(a2 - 1).toNat, by omega⟩
      exact walk_yes a0 len0 cap0 a k _ w hz (by omega) (by omega) (by omega)

set_option maxRecDepth 100000 in
theorem lifted (os : Os) (started : os.Started) (H : Type) (enc : TypeId × Value → H) :
    ReturnsInHanded {} Try.checked os 8 .any (Rows.octetPiecesSpec.pre6 enc Try.prog Try.f8 Rows.octetPiecesRow.domain false) (Rows.octetPiecesSpec.post enc Try.prog Try.f8 false true false false) := by
  refine returnsInHanded_of_change (C := Try.checked) own started (by kernel_rfl) Try.func8
    (ChangeSpec.witness6 (enc := enc) (C := Try.checked) false ⟨#[], #[.slice none 0 0, .int .i64 0, .int .i64 0], []⟩ 8 (by kernel_rfl) (by kernel_rfl) (by kernel_rfl) (by kernel_rfl)) ?_
  intro W base args ds gs before hval0 hW hcnd _
  have hval : ∀ (j : Nat) t v, Try.f8.params[j]? = some t → args[j]? = some v → Value.okWide Try.prog W .any base t v := hval0
  have hW' := hW
  obtain ⟨p, q, hA0, hV, rfl, hfz, hnd⟩ := hW
  have hA : DataW.TrodAll enc Try.prog W 0 (fun _ => true) true Try.f8.params.toList args.toList ds p := hA0
  rw [Try.params8] at hA hval
  obtain ⟨v0, vs0, d0, ds0, p0, q0, hargs, rfl, rfl, h0, r0⟩ := trodAll_cons hA
  obtain ⟨v1, vs1, d1, ds1, p1, q1, rfl, rfl, rfl, h1, r1⟩ := trodAll_cons r0
  obtain ⟨v2, vs2, d2, ds2, p2, q2, rfl, rfl, rfl, h2, r2⟩ := trodAll_cons r1
  obtain ⟨rfl, rfl, rfl⟩ := trodAll_nil r2
  obtain rfl : args = #[v0, v1, v2] := by cases args; simp_all
  obtain ⟨rfl, rfl⟩ := trodVars_none hV
  obtain ⟨a0, len0, cap0, rfl⟩ := okWide_slice Try.underlying22 (hval 0 22 v0 rfl rfl)
  have k0 := h0
  have lt0 : ∀ x ∈ p0, x.block < W.heap.size := by obtain ⟨m, hm⟩ := k0; exact DataW.trod_lt m _ _ _ hm
  obtain ⟨z0, w0⟩ : ∃ zs, IsRow .u8 W a0 len0 cap0 zs := by
    obtain ⟨fuel, hf⟩ := h0
    rcases open_ints Try.underlying22 Try.underlying5 (by kernel_rfl) hf with ⟨hcs, _⟩ | ⟨x, l, c, zs, hcs, _, hl, hm, hz, _, hcell, hwz⟩
    · simp [Value.cells] at hcs
      obtain ⟨rfl, rfl, rfl⟩ := hcs
      exact ⟨[], .inl ⟨rfl, rfl, rfl, rfl⟩⟩
    · simp [Value.cells] at hcs
      obtain ⟨rfl, rfl, rfl⟩ := hcs
      exact ⟨zs, .inr ⟨_, rfl, hl, hm, by simpa using hz, hcell, hwz⟩⟩
  obtain ⟨a1, rfl, rfl, rfl, w1⟩ := open_int Try.underlying3 (hval 1 3 v1 rfl rfl) h1
  obtain ⟨a2, rfl, rfl, rfl, w2⟩ := open_int Try.underlying3 (hval 2 3 v2 rfl rfl) h2
  clear hA0 hval0
  refine (walk a0 len0 cap0 z0 a1 a2 W w0 w1).mono fun e W' ⟨he, bel⟩ => ?_
  subst he
  exact ⟨_, rfl, _, _, _, [], _, [], hW', trodAll_mk1 (shut_bool Try.underlying4 _), (trodAll_cons_mk (Below.trod laidOut (by kernel_rfl) (of_decide_eq_true (by kernel_rfl)) k0 bel lt0) (trodAll_cons_mk (shut_int Try.underlying3 w1) (trodAll_cons_mk (shut_int Try.underlying3 w2) trodAll_mk0))), rfl, bel.frame _, fun h => by cases h⟩

theorem over : Rows.octetPiecesRow.holds Try.pinned (OpenSpec.ofChange Rows.octetPiecesSpec) :=
  OpenClaim.holds_of_wide 8 Try.f8 rfl rfl rfl rfl rfl rfl rfl ⟨rfl, rfl, rfl, rfl, rfl⟩ rfl rfl rfl rfl rfl (by kernel_rfl) Try.func8 (by kernel_rfl)
    (of_decide_eq_true (by kernel_rfl)) (by unfold Func.isWrapper; first | (rw [if_pos (by decide +kernel)]; kernel_rfl) | (rw [if_neg (by decide +kernel)]; exact ⟨rfl, rfl⟩))
    (fun os started H enc _ => lifted os started H enc)

theorem proved : Rows.OctetPiecesSaid := over
#print axioms proved
end Go.Proofs.Ytigkikoogolkkaa.Pieces
