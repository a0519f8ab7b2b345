/-
  addr.Solicited of any address.
-/
import Derived.Test.YtnhlgonldffgoaaDoorAwaken
namespace Go.Proofs.YtnhlgonldffgoaaDoor
open Go.RowKit
set_option linter.unusedVariables false

/-- What Solicited answers. -/
def solV (s : Bool) (l : Int) : Value := if s then adr true 18375249429625044992 (8573157376 + l % 16777216) else adr false 0 0
theorem and16 (a : Int) (h0 : 0 ≤ a) (h1 : a ≤ 65535) : bits BinOp.and IntKind.u16 a 255 = a % 256 := by
  obtain ⟨n, rfl⟩ : ∃ n : Nat, a = (n : Int) := ⟨a.toNat, by omega⟩
  have hx : n &&& 255 < 2 ^ 16 := Nat.and_lt_two_pow _ (by omega)
  have h1 : (BitVec.ofInt 16 (n : Int)).toNat = n := by
    rw [BitVec.ofInt_natCast, BitVec.toNat_ofNat]; exact Nat.mod_eq_of_lt (by omega)
  have h2 : (BitVec.ofInt 16 255).toNat = 255 := by decide
  show IntKind.u16.wrap ((BitVec.ofInt 16 (n : Int) &&& BitVec.ofInt 16 255).toNat : Int) = _
  have e : n &&& 255 = n % 256 := Nat.and_two_pow_sub_one_eq_mod n 8
  rw [BitVec.toNat_and, h1, h2, IntKind.wrap_u16, e]
  omega
theorem or16 (x : Int) (h0 : 0 ≤ x) (h1 : x ≤ 255) : bits BinOp.or IntKind.u16 65280 x = 65280 + x := by
  obtain ⟨n, rfl⟩ : ∃ n : Nat, x = (n : Int) := ⟨x.toNat, by omega⟩
  have h1 : (BitVec.ofInt 16 (n : Int)).toNat = n := by
    rw [BitVec.ofInt_natCast, BitVec.toNat_ofNat]; exact Nat.mod_eq_of_lt (by omega)
  have h2 : (BitVec.ofInt 16 65280).toNat = 65280 := by decide
  show IntKind.u16.wrap ((BitVec.ofInt 16 65280 ||| BitVec.ofInt 16 (n : Int)).toNat : Int) = _
  have e : 65280 ||| n = 65280 + n := (Nat.two_pow_add_eq_or_of_lt (i := 8) (b := n) (by omega) 255).symm
  rw [BitVec.toNat_or, h1, h2, IntKind.wrap_u16, e]
  omega
theorem sol_num (l : Int) (hl : U6 l) : n4 65282 0 0 0 = 18375249429625044992 ∧ n4 0 1 (65280 + gr l 2 % 256) (gr l 3) = 8573157376 + l % 16777216 := by
  obtain ⟨h0, h1⟩ := hl
  refine ⟨rfl, ?_⟩
  rw [← gr_2, ← gr_3]
  unfold n4
  omega
set_option maxHeartbeats 2000000 in
set_option maxRecDepth 100000 in
theorem sol_any (s : Bool) (h l : Int) (hh : U6 h) (hl : U6 l) (w : World) :
    Calls Tryd.prog 25 #[adr s h l] w fun e w' => e = .returned (solV s l) ∧ Below w.heap.size w w' := by
  cases s
  · obtain ⟨f1, f2, f3⟩ := (Blk.new w 25 #[.bool false, .int .u64 h, .int .u64 l]).c3
    go_enter Tryd.func25, Tryd.ntmps25
    go_wp2
    exact bodyPost_ret (v := adr false 0 0) (by simp [results, Tryd.results25, go_sem]) rfl ⟨rfl, ((Below.refl _ w).alloc (Nat.le_refl _) _).alloc (by simp only [World.size_alloc]; omega) _⟩
  · obtain ⟨x0, x1⟩ := gr_bd l 2
    have hb1 := and16 (gr l 2) x0 x1
    have hb2 := or16 (gr l 2 % 256) (by omega) (by omega)
    have H2 := Lib.hid (fun W => groups_at true h l hh hl (v := grs h l) rfl W)
    have H3 := Lib.hid (fun W => gaddr_any 65282 0 0 0 0 1 (65280 + gr l 2 % 256) (gr l 3) (by unfold U2; decide) (by unfold U2; decide) (by unfold U2; decide) (by unfold U2; decide) (by unfold U2; decide) (by unfold U2; decide) (by unfold U2; omega) (gr_bd l 3) W)
    have hE := sol_num l hl
    rw [hE.1, hE.2] at H3
    clear hE
    have hg : grs h l = .agg #[.int .u16 (gr h 0), .int .u16 (gr h 1), .int .u16 (gr h 2), .int .u16 (gr h 3), .int .u16 (gr l 0), .int .u16 (gr l 1), .int .u16 (gr l 2), .int .u16 (gr l 3)] := rfl
    rw [hg] at H2
    clear hg
    obtain ⟨g0, e0⟩ : ∃ x, gr h 0 = x := ⟨_, rfl⟩
    obtain ⟨g1, e1⟩ : ∃ x, gr h 1 = x := ⟨_, rfl⟩
    obtain ⟨g2, e2⟩ : ∃ x, gr h 2 = x := ⟨_, rfl⟩
    obtain ⟨g3, e3⟩ : ∃ x, gr h 3 = x := ⟨_, rfl⟩
    obtain ⟨g4, e4⟩ : ∃ x, gr l 0 = x := ⟨_, rfl⟩
    obtain ⟨g5, e5⟩ : ∃ x, gr l 1 = x := ⟨_, rfl⟩
    obtain ⟨g6, e6⟩ : ∃ x, gr l 2 = x := ⟨_, rfl⟩
    obtain ⟨g7, e7⟩ : ∃ x, gr l 3 = x := ⟨_, rfl⟩
    rw [e0, e1, e2, e3, e4, e5, e6, e7] at H2
    rw [e6, e7] at H3
    rw [e6] at hb1 hb2 x0 x1
    obtain ⟨R, hR⟩ : ∃ R, 8573157376 + l % 16777216 = R := ⟨_, rfl⟩
    have HS : Hid (solV true l = adr true 18375249429625044992 R) := Lib.hid (by unfold solV; rw [if_pos rfl, hR])
    rw [hR] at H3
    clear e0 e1 e2 e3 e4 e5 e6 e7 hR
    obtain ⟨Y, hY⟩ : ∃ Y, g6 % 256 = Y := ⟨_, rfl⟩
    rw [hY] at hb1 hb2 H3
    clear hY x0 x1
    go_enter Tryd.func25, Tryd.ntmps25
    go_wp2_with fail
    refine Calls.mono (H2.out _) ?_
    rintro e w1 ⟨rfl, hb⟩
    have R1 := Lib.hid ((Blk.new (w.alloc (.cells #[.bool true, .int .u64 h, .int .u64 l] 25)) 25 #[.bool false, .int .u64 0, .int .u64 0]).below hb (by simp only [World.size_alloc]; omega))
    have L1 := Lib.hid ((((Below.refl _ w).alloc (Nat.le_refl _) _).alloc (by simp) _).trans (hb.mono (by simp only [World.size_alloc]; omega)))
    have hs1 : w.heap.size + 1 < w1.heap.size := by have := hb.size; simp only [World.size_alloc] at this; omega
    rw [World.size_alloc] at R1
    clear hb
    go_wp2_with fail
    refine Calls.mono (H3.out _) ?_
    rintro e w2 ⟨rfl, hb⟩
    have R2 := Lib.hid ((R1.out.alloc (.cells #[.int .u16 g0, .int .u16 g1, .int .u16 g2, .int .u16 g3, .int .u16 g4, .int .u16 g5, .int .u16 g6, .int .u16 g7] 75)).below hb (by simp only [World.size_alloc]; omega))
    have L2 := Lib.hid ((L1.out.alloc (by omega) (.cells #[.int .u16 g0, .int .u16 g1, .int .u16 g2, .int .u16 g3, .int .u16 g4, .int .u16 g5, .int .u16 g6, .int .u16 g7] 75)).trans (hb.mono (by simp only [World.size_alloc]; omega)))
    obtain ⟨k1, k2, k3⟩ := R2.out.c3
    have z1 := R2.out.frozen 0
    have z2 := R2.out.frozen 1
    have z3 := R2.out.frozen 2
    clear hb
    go_wp2
    exact bodyPost_ret (v := adr true 18375249429625044992 R) (by simp [results, Tryd.results25, go_sem, k1, k2, k3]) rfl ⟨by rw [HS.out], ((L2.out.setCell (p := ⟨_, _, _⟩) (by simp) _).setCell (p := ⟨_, _, _⟩) (by simp) _).setCell (p := ⟨_, _, _⟩) (by simp) _⟩
set_option maxHeartbeats 2000000 in
set_option maxRecDepth 100000 in
theorem rsol_any (s : Bool) (h l : Int) (hl : U6 l) (w : World) :
    Calls Tryd.prog 26 #[adr s h l] w fun e w' => e = .returned (solV s l) ∧ Below w.heap.size w w' := by
  obtain ⟨f1, f2, f3⟩ := (Blk.new w 25 #[.bool s, .int .u64 h, .int .u64 l]).c3
  cases s
  · go_enter Tryd.func26, Tryd.ntmps26
    go_wp2
    exact bodyPost_ret (v := adr false 0 0) (by simp [results, Tryd.results26, go_sem]) rfl ⟨rfl, ((Below.refl _ w).alloc (Nat.le_refl _) _).alloc (by simp only [World.size_alloc]; omega) _⟩
  · obtain ⟨l0, l1⟩ := hl
    have hm : l.tmod 16777216 = l % 16777216 := Int.tmod_eq_emod_of_nonneg l0
    have hw : IntKind.u64.wrap (l % 16777216) = l % 16777216 := by rw [IntKind.wrap_u64]; omega
    obtain ⟨M, hM⟩ : ∃ M, l % 16777216 = M := ⟨_, rfl⟩
    have HS : Hid (solV true l = adr true 18375249429625044992 (8573157376 + M)) := Lib.hid (by unfold solV; rw [if_pos rfl, hM])
    have m0 : 0 ≤ M := by omega
    have m1 : M < 16777216 := by omega
    have hw2 : IntKind.u64.wrap (8573157376 + M) = 8573157376 + M := by rw [IntKind.wrap_u64]; omega
    rw [hM] at hm hw
    clear hM l0 l1 m1
    go_enter Tryd.func26, Tryd.ntmps26
    go_wp2
    exact bodyPost_ret (v := adr true 18375249429625044992 (8573157376 + M)) (by simp [results, Tryd.results26, go_sem]) rfl ⟨by rw [HS.out], ((Below.refl _ w).alloc (Nat.le_refl _) _).alloc (by simp only [World.size_alloc]; omega) _⟩
end Go.Proofs.YtnhlgonldffgoaaDoor
