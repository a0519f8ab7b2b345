/-
  ip4's small calls: which packets may be, the two bytes with Off; a packet's cells.
-/
import Derived.Test.YtbhddodghbhjiaaFAre
import Derived.Test.YtbhddodghbhjiaaFVal
namespace Go.Proofs.Ytbhddodghbhjiaa
open Go.RowKit
set_option linter.unusedVariables false

theorem wraps_i64 (n : Int) (h0 : 0 ≤ n) (h1 : n < 2 ^ 62) : IntKind.i64.wrap n = n := by rw [IntKind.wrap_i64]; omega
theorem and_255 (x : Int) (h0 : 0 ≤ x) (h1 : x < 65536) : bits .and .i64 x 255 = x % 256 := bits_mask .i64 62 (by decide) wraps_i64 8 (by decide) x h0 (by omega)
theorem and_8191 (x : Int) (h0 : 0 ≤ x) (h1 : x < 65536) : bits .and .i64 x 8191 = x % 8192 := bits_mask .i64 62 (by decide) wraps_i64 13 (by decide) x h0 (by omega)
theorem or_16384 (x : Int) (h0 : 0 ≤ x) (h1 : x ≤ 8191) : bits .or .i64 x 16384 = x + 16384 := by
  have h := bits_join .i64 62 (by decide) wraps_i64 14 16384 x (by decide) (by decide) (by decide) h0 (by omega) (by omega)
  have e : bits .or .i64 x 16384 = bits .or .i64 16384 x := by
    obtain ⟨a, rfl⟩ := Int.eq_ofNat_of_zero_le h0
    have h1 := (bits_nat .i64 62 (by decide) wraps_i64 a 16384 (by omega) (by decide)).2
    have h2 := (bits_nat .i64 62 (by decide) wraps_i64 16384 a (by decide) (by omega)).2
    rw [Nat.or_comm] at h1
    exact h1.trans h2.symm
  rw [e, h]; omega
theorem or_8192 (x : Int) (h0 : 0 ≤ x) (h1 : x ≤ 8191) : bits .or .i64 x 8192 = x + 8192 := by
  have h := bits_join .i64 62 (by decide) wraps_i64 13 8192 x (by decide) (by decide) (by decide) h0 (by omega) (by omega)
  have e : bits .or .i64 x 8192 = bits .or .i64 8192 x := by
    obtain ⟨a, rfl⟩ := Int.eq_ofNat_of_zero_le h0
    have h1 := (bits_nat .i64 62 (by decide) wraps_i64 a 8192 (by omega) (by decide)).2
    have h2 := (bits_nat .i64 62 (by decide) wraps_i64 8192 a (by decide) (by omega)).2
    rw [Nat.or_comm] at h1
    exact h1.trans h2.symm
  rw [e, h]; omega
theorem or_both (x : Int) (h0 : 0 ≤ x) (h1 : x ≤ 8191) : bits .or .i64 (x + 16384) 8192 = x + 16384 + 8192 := by
  obtain ⟨a, rfl⟩ := Int.eq_ofNat_of_zero_le h0
  have h2 := (bits_nat .i64 62 (by decide) wraps_i64 (a + 16384) 8192 (by omega) (by decide)).2
  have e1 : a + 16384 = 16384 ||| a := by
    have := Nat.two_pow_add_eq_or_of_lt (i := 14) (b := a) (by omega) 1
    rw [show (2 : Nat) ^ 14 * 1 = 16384 by decide] at this
    omega
  have e2 : 8192 ||| a = 8192 + a := by
    have := Nat.two_pow_add_eq_or_of_lt (i := 13) (b := a) (by omega) 1
    rw [show (2 : Nat) ^ 13 * 1 = 8192 by decide] at this
    omega
  have e3 : (24576 : Nat) ||| a = 24576 + a := by
    have := Nat.two_pow_add_eq_or_of_lt (i := 13) (b := a) (by omega) 3
    rw [show (2 : Nat) ^ 13 * 3 = 24576 by decide] at this
    omega
  have e4 : (a + 16384) ||| 8192 = a + 16384 + 8192 := by
    rw [e1, Nat.or_assoc, Nat.or_comm a 8192, ← Nat.or_assoc, show (16384 : Nat) ||| 8192 = 24576 by decide, e3, ← e1]; omega
  rw [e4] at h2
  simpa using h2
theorem and_pow (x : Int) (i : Nat) (h0 : 0 ≤ x) (h1 : x < 65536) (hi : i < 16) : bits .and .i64 x ((2 ^ i : Nat) : Int) = ((2 ^ i : Nat) : Int) * (x / ((2 ^ i : Nat) : Int) % 2) := by
  obtain ⟨a, rfl⟩ := Int.eq_ofNat_of_zero_le h0
  have h2 : 2 ^ i ≤ 2 ^ 15 := Nat.pow_le_pow_right (by decide) (by omega)
  rw [(bits_nat .i64 62 (by decide) wraps_i64 a (2 ^ i) (by omega) (by omega)).1]
  have : a &&& 2 ^ i = 2 ^ i * (a / 2 ^ i % 2) := by
    have ht : a.testBit i = decide (a / 2 ^ i % 2 = 1) := Nat.testBit_eq_decide_div_mod_eq
    apply Nat.eq_of_testBit_eq
    intro j
    rw [Nat.testBit_and, Nat.testBit_two_pow]
    by_cases hj : i = j
    · subst hj
      rw [ht, Nat.testBit_two_pow_mul]
      rcases Nat.mod_two_eq_zero_or_one (a / 2 ^ i) with h | h <;> rw [h] <;> simp
    · rcases Nat.mod_two_eq_zero_or_one (a / 2 ^ i) with h | h <;> rw [h]
      · simp [hj]
      · rw [Nat.mul_one, Nat.testBit_two_pow]; simp [hj]
  rw [this]
  simp
theorem and_16384 (x : Int) (h0 : 0 ≤ x) (h1 : x < 65536) : bits .and .i64 x 16384 = 16384 * (x / 16384 % 2) := and_pow x 14 h0 h1 (by decide)
theorem and_8192 (x : Int) (h0 : 0 ≤ x) (h1 : x < 65536) : bits .and .i64 x 8192 = 8192 * (x / 8192 % 2) := and_pow x 13 h0 h1 (by decide)
theorem and_32768 (x : Int) (h0 : 0 ≤ x) (h1 : x < 65536) : bits .and .i64 x 32768 = 32768 * (x / 32768 % 2) := and_pow x 15 h0 h1 (by decide)
theorem or_words (x y : Int) (x0 : 0 ≤ x) (x1 : x < 65536) (y0 : 0 ≤ y) (y1 : y < 65536) : bits .or .i64 (x * 65536) y = x * 65536 + y :=
  bits_join .i64 62 (by decide) wraps_i64 16 (x * 65536) y (by omega) (by omega) (by omega) y0 (by omega) (by omega)

set_option maxHeartbeats 1000000 in
theorem isFour_any (s : Bool) (h l : Int) (w : World) :
    Calls Try.prog 80 #[adr s h l] w fun e w' => e = .returned (.bool (foB s h l)) ∧ Below w.heap.size w w' := by
  obtain ⟨V1, hV1⟩ : ∃ v, vld s h l = v := ⟨_, rfl⟩
  have hR : foB s h l = (!s && V1) := by rw [← hV1]; cases s <;> simp [foB, vld]
  have HR := Lib.hid hR
  have H1 := Lib.hid (fun W => valid_at s h l W hV1)
  clear hR hV1
  cases s
  · go_enter Try.func80, Try.ntmps80
    go_wp2_with fail
    refine Calls.mono (H1.out _) ?_
    rintro e w1 ⟨rfl, hb⟩
    have L1 := ((Below.refl _ w).alloc (Nat.le_refl _) _).trans (hb.mono (by simp only [World.size_alloc]; omega))
    clear hb
    go_wp2
    go_ret
    exact ⟨ret_bool (by rw [HR.out]; simp), L1⟩
  · go_enter Try.func80, Try.ntmps80
    go_wp2
    go_ret
    exact ⟨ret_bool (by rw [HR.out]; simp), (Below.refl _ _).alloc (Nat.le_refl _) _⟩
theorem isFour_at (s : Bool) (h l : Int) {b : Bool} (e : foB s h l = b) (w : World) :
    Calls Try.prog 80 #[adr s h l] w fun e w' => e = .returned (.bool b) ∧ Below w.heap.size w w' := by
  subst e; exact isFour_any s h l w
theorem within_at (n m : Int) {b : Bool} (e : btw n m = b) (w : World) :
    Calls Try.prog 79 #[.int .i64 n, .int .i64 m] w fun e w' => e = .returned (.bool b) ∧ w = w' := by
  have HE := Lib.hid e
  by_cases h0 : 0 ≤ n
  · by_cases h1 : n ≤ m
    all_goals
      clear e
      go_enter Try.func79, Try.ntmps79
      go_wp2
      go_ret
      exact ⟨ret_bool (by rw [← HE.out]; simp [btw, h0, h1]), rfl⟩
  · clear e
    go_enter Try.func79, Try.ntmps79
    go_wp2
    go_ret
    exact ⟨ret_bool (by rw [← HE.out]; simp [btw]; omega), rfl⟩

/-- A packet's cells. -/
abbrev fcs (p : Pk) : Array Value := #[.int .i64 p.tos, .int .i64 p.id, .bool p.df, .bool p.mf, .int .i64 p.off, .int .i64 p.ttl, .int .i64 p.pro, .bool p.s, .int .u64 p.h, .int .u64 p.l, .bool p.s', .int .u64 p.h', .int .u64 p.l', .string p.o, .string p.d]
theorem Blk.f15 {w : World} {g : Nat} {t : TypeId} {p : Pk} (h : Blk w g t (fcs p)) : w.cell? ⟨g, 0, none⟩ = some (.int .i64 p.tos) ∧ w.cell? ⟨g, 1, none⟩ = some (.int .i64 p.id) ∧ w.cell? ⟨g, 2, none⟩ = some (.bool p.df) ∧ w.cell? ⟨g, 3, none⟩ = some (.bool p.mf) ∧ w.cell? ⟨g, 4, none⟩ = some (.int .i64 p.off) ∧ w.cell? ⟨g, 5, none⟩ = some (.int .i64 p.ttl) ∧ w.cell? ⟨g, 6, none⟩ = some (.int .i64 p.pro) ∧ w.cell? ⟨g, 7, none⟩ = some (.bool p.s) ∧ w.cell? ⟨g, 8, none⟩ = some (.int .u64 p.h) ∧ w.cell? ⟨g, 9, none⟩ = some (.int .u64 p.l) ∧ w.cell? ⟨g, 10, none⟩ = some (.bool p.s') ∧ w.cell? ⟨g, 11, none⟩ = some (.int .u64 p.h') ∧ w.cell? ⟨g, 12, none⟩ = some (.int .u64 p.l') ∧ w.cell? ⟨g, 13, none⟩ = some (.string p.o) ∧ w.cell? ⟨g, 14, none⟩ = some (.string p.d) :=
  ⟨(by rw [h.cell]; rfl), (by rw [h.cell]; rfl), (by rw [h.cell]; rfl), (by rw [h.cell]; rfl), (by rw [h.cell]; rfl), (by rw [h.cell]; rfl), (by rw [h.cell]; rfl), (by rw [h.cell]; rfl), (by rw [h.cell]; rfl), (by rw [h.cell]; rfl), (by rw [h.cell]; rfl), (by rw [h.cell]; rfl), (by rw [h.cell]; rfl), (by rw [h.cell]; rfl), (by rw [h.cell]; rfl)⟩

set_option maxRecDepth 100000 in
set_option maxHeartbeats 2000000 in
theorem piece_any (p : Pk) (h0 : 0 ≤ p.off) (h1 : p.off ≤ 8191) (w : World) :
    Calls Try.prog 82 #[p.val] w fun e w' => e = .returned (.int .i64 (offN p)) ∧ Below w.heap.size w w' := by
  obtain ⟨tos, id, df, mf, off, ttl, pro, s, h, l, s', h', l', o, d⟩ := p
  have o1 := or_16384 off h0 h1
  have o2 := or_8192 off h0 h1
  have o3 := or_both off h0 h1
  cases df <;> cases mf
  all_goals
    go_enter Try.func82, Try.ntmps82
    go_wp2
    go_ret
    exact ⟨ret_k (by simp [offN]), (Below.refl _ _).alloc (Nat.le_refl _) _⟩

set_option maxRecDepth 100000 in
set_option maxHeartbeats 4000000 in
theorem ispk_0 (p : Pk) (c0 : btw p.tos 255 = false) (w : World) :
    Calls Try.prog 51 #[p.val] w fun e w' => e = .returned (.bool false) ∧ Below w.heap.size w w' := by
  have H0 := Lib.hid (fun W => within_at p.tos 255 c0 W)
  have K0 := Blk.new w 27 (fcs p)
  have L0 := Lib.hid ((Below.refl _ w).alloc (Nat.le_refl _) (.cells (fcs p) 27))
  clear c0
  obtain ⟨f0, f1, f2, f3, f4, f5, f6, f7, f8, f9, f10, f11, f12, f13, f14⟩ := K0.f15
  have HK0 := Lib.hid K0
  clear K0
  go_enter Try.func51, Try.ntmps51
  go_wp2_with fail
  refine Calls.mono (H0.out _) ?_
  rintro e w1 ⟨rfl, rfl⟩
  go_wp2
  go_ret
  exact ⟨rfl, L0.out⟩
set_option maxRecDepth 100000 in
set_option maxHeartbeats 4000000 in
theorem ispk_1 (p : Pk) (c0 : btw p.tos 255 = true) (c1 : btw p.ttl 255 = false) (w : World) :
    Calls Try.prog 51 #[p.val] w fun e w' => e = .returned (.bool false) ∧ Below w.heap.size w w' := by
  have H0 := Lib.hid (fun W => within_at p.tos 255 c0 W)
  have H1 := Lib.hid (fun W => within_at p.ttl 255 c1 W)
  have K0 := Blk.new w 27 (fcs p)
  have L0 := Lib.hid ((Below.refl _ w).alloc (Nat.le_refl _) (.cells (fcs p) 27))
  clear c0 c1
  obtain ⟨f0, f1, f2, f3, f4, f5, f6, f7, f8, f9, f10, f11, f12, f13, f14⟩ := K0.f15
  have HK0 := Lib.hid K0
  clear K0
  go_enter Try.func51, Try.ntmps51
  go_wp2_with fail
  refine Calls.mono (H0.out _) ?_
  rintro e w1 ⟨rfl, rfl⟩
  go_wp2_with fail
  refine Calls.mono (H1.out _) ?_
  rintro e w1 ⟨rfl, rfl⟩
  go_wp2
  go_ret
  exact ⟨rfl, L0.out⟩
set_option maxRecDepth 100000 in
set_option maxHeartbeats 4000000 in
theorem ispk_2 (p : Pk) (c0 : btw p.tos 255 = true) (c1 : btw p.ttl 255 = true) (c2 : btw p.pro 255 = false) (w : World) :
    Calls Try.prog 51 #[p.val] w fun e w' => e = .returned (.bool false) ∧ Below w.heap.size w w' := by
  have H0 := Lib.hid (fun W => within_at p.tos 255 c0 W)
  have H1 := Lib.hid (fun W => within_at p.ttl 255 c1 W)
  have H2 := Lib.hid (fun W => within_at p.pro 255 c2 W)
  have K0 := Blk.new w 27 (fcs p)
  have L0 := Lib.hid ((Below.refl _ w).alloc (Nat.le_refl _) (.cells (fcs p) 27))
  clear c0 c1 c2
  obtain ⟨f0, f1, f2, f3, f4, f5, f6, f7, f8, f9, f10, f11, f12, f13, f14⟩ := K0.f15
  have HK0 := Lib.hid K0
  clear K0
  go_enter Try.func51, Try.ntmps51
  go_wp2_with fail
  refine Calls.mono (H0.out _) ?_
  rintro e w1 ⟨rfl, rfl⟩
  go_wp2_with fail
  refine Calls.mono (H1.out _) ?_
  rintro e w1 ⟨rfl, rfl⟩
  go_wp2_with fail
  refine Calls.mono (H2.out _) ?_
  rintro e w1 ⟨rfl, rfl⟩
  go_wp2
  go_ret
  exact ⟨rfl, L0.out⟩
set_option maxRecDepth 100000 in
set_option maxHeartbeats 4000000 in
theorem ispk_3 (p : Pk) (c0 : btw p.tos 255 = true) (c1 : btw p.ttl 255 = true) (c2 : btw p.pro 255 = true) (c3 : btw p.id 65535 = false) (w : World) :
    Calls Try.prog 51 #[p.val] w fun e w' => e = .returned (.bool false) ∧ Below w.heap.size w w' := by
  have H0 := Lib.hid (fun W => within_at p.tos 255 c0 W)
  have H1 := Lib.hid (fun W => within_at p.ttl 255 c1 W)
  have H2 := Lib.hid (fun W => within_at p.pro 255 c2 W)
  have H3 := Lib.hid (fun W => within_at p.id 65535 c3 W)
  have K0 := Blk.new w 27 (fcs p)
  have L0 := Lib.hid ((Below.refl _ w).alloc (Nat.le_refl _) (.cells (fcs p) 27))
  clear c0 c1 c2 c3
  obtain ⟨f0, f1, f2, f3, f4, f5, f6, f7, f8, f9, f10, f11, f12, f13, f14⟩ := K0.f15
  have HK0 := Lib.hid K0
  clear K0
  go_enter Try.func51, Try.ntmps51
  go_wp2_with fail
  refine Calls.mono (H0.out _) ?_
  rintro e w1 ⟨rfl, rfl⟩
  go_wp2_with fail
  refine Calls.mono (H1.out _) ?_
  rintro e w1 ⟨rfl, rfl⟩
  go_wp2_with fail
  refine Calls.mono (H2.out _) ?_
  rintro e w1 ⟨rfl, rfl⟩
  go_wp2_with fail
  refine Calls.mono (H3.out _) ?_
  rintro e w1 ⟨rfl, rfl⟩
  go_wp2
  go_ret
  exact ⟨rfl, L0.out⟩
set_option maxRecDepth 100000 in
set_option maxHeartbeats 4000000 in
theorem ispk_4 (p : Pk) (c0 : btw p.tos 255 = true) (c1 : btw p.ttl 255 = true) (c2 : btw p.pro 255 = true) (c3 : btw p.id 65535 = true) (c4 : btw p.off 8191 = false) (w : World) :
    Calls Try.prog 51 #[p.val] w fun e w' => e = .returned (.bool false) ∧ Below w.heap.size w w' := by
  have H0 := Lib.hid (fun W => within_at p.tos 255 c0 W)
  have H1 := Lib.hid (fun W => within_at p.ttl 255 c1 W)
  have H2 := Lib.hid (fun W => within_at p.pro 255 c2 W)
  have H3 := Lib.hid (fun W => within_at p.id 65535 c3 W)
  have H4 := Lib.hid (fun W => within_at p.off 8191 c4 W)
  have K0 := Blk.new w 27 (fcs p)
  have L0 := Lib.hid ((Below.refl _ w).alloc (Nat.le_refl _) (.cells (fcs p) 27))
  clear c0 c1 c2 c3 c4
  obtain ⟨f0, f1, f2, f3, f4, f5, f6, f7, f8, f9, f10, f11, f12, f13, f14⟩ := K0.f15
  have HK0 := Lib.hid K0
  clear K0
  go_enter Try.func51, Try.ntmps51
  go_wp2_with fail
  refine Calls.mono (H0.out _) ?_
  rintro e w1 ⟨rfl, rfl⟩
  go_wp2_with fail
  refine Calls.mono (H1.out _) ?_
  rintro e w1 ⟨rfl, rfl⟩
  go_wp2_with fail
  refine Calls.mono (H2.out _) ?_
  rintro e w1 ⟨rfl, rfl⟩
  go_wp2_with fail
  refine Calls.mono (H3.out _) ?_
  rintro e w1 ⟨rfl, rfl⟩
  go_wp2_with fail
  refine Calls.mono (H4.out _) ?_
  rintro e w1 ⟨rfl, rfl⟩
  go_wp2
  go_ret
  exact ⟨rfl, L0.out⟩
set_option maxRecDepth 100000 in
set_option maxHeartbeats 4000000 in
theorem ispk_5 (p : Pk) (c0 : btw p.tos 255 = true) (c1 : btw p.ttl 255 = true) (c2 : btw p.pro 255 = true) (c3 : btw p.id 65535 = true) (c4 : btw p.off 8191 = true) (c5 : foB p.s p.h p.l = false) (w : World) :
    Calls Try.prog 51 #[p.val] w fun e w' => e = .returned (.bool false) ∧ Below w.heap.size w w' := by
  have H0 := Lib.hid (fun W => within_at p.tos 255 c0 W)
  have H1 := Lib.hid (fun W => within_at p.ttl 255 c1 W)
  have H2 := Lib.hid (fun W => within_at p.pro 255 c2 W)
  have H3 := Lib.hid (fun W => within_at p.id 65535 c3 W)
  have H4 := Lib.hid (fun W => within_at p.off 8191 c4 W)
  have H5 := Lib.hid (fun W => isFour_at p.s p.h p.l c5 W)
  have K0 := Blk.new w 27 (fcs p)
  have L0 := Lib.hid ((Below.refl _ w).alloc (Nat.le_refl _) (.cells (fcs p) 27))
  clear c0 c1 c2 c3 c4 c5
  obtain ⟨f0, f1, f2, f3, f4, f5, f6, f7, f8, f9, f10, f11, f12, f13, f14⟩ := K0.f15
  have HK0 := Lib.hid K0
  clear K0
  go_enter Try.func51, Try.ntmps51
  go_wp2_with fail
  refine Calls.mono (H0.out _) ?_
  rintro e w1 ⟨rfl, rfl⟩
  go_wp2_with fail
  refine Calls.mono (H1.out _) ?_
  rintro e w1 ⟨rfl, rfl⟩
  go_wp2_with fail
  refine Calls.mono (H2.out _) ?_
  rintro e w1 ⟨rfl, rfl⟩
  go_wp2_with fail
  refine Calls.mono (H3.out _) ?_
  rintro e w1 ⟨rfl, rfl⟩
  go_wp2_with fail
  refine Calls.mono (H4.out _) ?_
  rintro e w1 ⟨rfl, rfl⟩
  go_wp2_with fail
  refine Calls.mono (H5.out _) ?_
  rintro e v1 ⟨rfl, hb⟩
  have HK1 := Lib.hid (HK0.out.below hb (HK0.out.lt))
  have L1 := Lib.hid (L0.out.trans (hb.mono L0.out.size))
  clear hb f0 f1 f2 f3 f4 f5 f6 f7 f8 f9 f10 f11 f12 f13 f14
  obtain ⟨f0, f1, f2, f3, f4, f5, f6, f7, f8, f9, f10, f11, f12, f13, f14⟩ := HK1.out.f15
  go_wp2
  go_ret
  exact ⟨rfl, L1.out⟩
set_option maxRecDepth 100000 in
set_option maxHeartbeats 4000000 in
theorem ispk_6 (p : Pk) (c0 : btw p.tos 255 = true) (c1 : btw p.ttl 255 = true) (c2 : btw p.pro 255 = true) (c3 : btw p.id 65535 = true) (c4 : btw p.off 8191 = true) (c5 : foB p.s p.h p.l = true) (c6 : foB p.s' p.h' p.l' = false) (w : World) :
    Calls Try.prog 51 #[p.val] w fun e w' => e = .returned (.bool false) ∧ Below w.heap.size w w' := by
  have H0 := Lib.hid (fun W => within_at p.tos 255 c0 W)
  have H1 := Lib.hid (fun W => within_at p.ttl 255 c1 W)
  have H2 := Lib.hid (fun W => within_at p.pro 255 c2 W)
  have H3 := Lib.hid (fun W => within_at p.id 65535 c3 W)
  have H4 := Lib.hid (fun W => within_at p.off 8191 c4 W)
  have H5 := Lib.hid (fun W => isFour_at p.s p.h p.l c5 W)
  have H6 := Lib.hid (fun W => isFour_at p.s' p.h' p.l' c6 W)
  have K0 := Blk.new w 27 (fcs p)
  have L0 := Lib.hid ((Below.refl _ w).alloc (Nat.le_refl _) (.cells (fcs p) 27))
  clear c0 c1 c2 c3 c4 c5 c6
  obtain ⟨f0, f1, f2, f3, f4, f5, f6, f7, f8, f9, f10, f11, f12, f13, f14⟩ := K0.f15
  have HK0 := Lib.hid K0
  clear K0
  go_enter Try.func51, Try.ntmps51
  go_wp2_with fail
  refine Calls.mono (H0.out _) ?_
  rintro e w1 ⟨rfl, rfl⟩
  go_wp2_with fail
  refine Calls.mono (H1.out _) ?_
  rintro e w1 ⟨rfl, rfl⟩
  go_wp2_with fail
  refine Calls.mono (H2.out _) ?_
  rintro e w1 ⟨rfl, rfl⟩
  go_wp2_with fail
  refine Calls.mono (H3.out _) ?_
  rintro e w1 ⟨rfl, rfl⟩
  go_wp2_with fail
  refine Calls.mono (H4.out _) ?_
  rintro e w1 ⟨rfl, rfl⟩
  go_wp2_with fail
  refine Calls.mono (H5.out _) ?_
  rintro e v1 ⟨rfl, hb⟩
  have HK1 := Lib.hid (HK0.out.below hb (HK0.out.lt))
  have L1 := Lib.hid (L0.out.trans (hb.mono L0.out.size))
  clear hb f0 f1 f2 f3 f4 f5 f6 f7 f8 f9 f10 f11 f12 f13 f14
  obtain ⟨f0, f1, f2, f3, f4, f5, f6, f7, f8, f9, f10, f11, f12, f13, f14⟩ := HK1.out.f15
  go_wp2_with fail
  refine Calls.mono (H6.out _) ?_
  rintro e v2 ⟨rfl, hb⟩
  have HK2 := Lib.hid (HK1.out.below hb (HK1.out.lt))
  have L2 := Lib.hid (L1.out.trans (hb.mono L1.out.size))
  clear hb f0 f1 f2 f3 f4 f5 f6 f7 f8 f9 f10 f11 f12 f13 f14
  obtain ⟨f0, f1, f2, f3, f4, f5, f6, f7, f8, f9, f10, f11, f12, f13, f14⟩ := HK2.out.f15
  go_wp2
  go_ret
  exact ⟨rfl, L2.out⟩
set_option maxRecDepth 100000 in
set_option maxHeartbeats 4000000 in
theorem ispk_7 (p : Pk) (c0 : btw p.tos 255 = true) (c1 : btw p.ttl 255 = true) (c2 : btw p.pro 255 = true) (c3 : btw p.id 65535 = true) (c4 : btw p.off 8191 = true) (c5 : foB p.s p.h p.l = true) (c6 : foB p.s' p.h' p.l' = true) (c7 : ¬ p.o.size ≤ 40) (w : World) :
    Calls Try.prog 51 #[p.val] w fun e w' => e = .returned (.bool false) ∧ Below w.heap.size w w' := by
  have H0 := Lib.hid (fun W => within_at p.tos 255 c0 W)
  have H1 := Lib.hid (fun W => within_at p.ttl 255 c1 W)
  have H2 := Lib.hid (fun W => within_at p.pro 255 c2 W)
  have H3 := Lib.hid (fun W => within_at p.id 65535 c3 W)
  have H4 := Lib.hid (fun W => within_at p.off 8191 c4 W)
  have H5 := Lib.hid (fun W => isFour_at p.s p.h p.l c5 W)
  have H6 := Lib.hid (fun W => isFour_at p.s' p.h' p.l' c6 W)
  have d7 : ¬ (p.o.size : Int) ≤ 40 := by omega
  have K0 := Blk.new w 27 (fcs p)
  have L0 := Lib.hid ((Below.refl _ w).alloc (Nat.le_refl _) (.cells (fcs p) 27))
  clear c0 c1 c2 c3 c4 c5 c6 c7
  obtain ⟨f0, f1, f2, f3, f4, f5, f6, f7, f8, f9, f10, f11, f12, f13, f14⟩ := K0.f15
  have HK0 := Lib.hid K0
  clear K0
  go_enter Try.func51, Try.ntmps51
  go_wp2_with fail
  refine Calls.mono (H0.out _) ?_
  rintro e w1 ⟨rfl, rfl⟩
  go_wp2_with fail
  refine Calls.mono (H1.out _) ?_
  rintro e w1 ⟨rfl, rfl⟩
  go_wp2_with fail
  refine Calls.mono (H2.out _) ?_
  rintro e w1 ⟨rfl, rfl⟩
  go_wp2_with fail
  refine Calls.mono (H3.out _) ?_
  rintro e w1 ⟨rfl, rfl⟩
  go_wp2_with fail
  refine Calls.mono (H4.out _) ?_
  rintro e w1 ⟨rfl, rfl⟩
  go_wp2_with fail
  refine Calls.mono (H5.out _) ?_
  rintro e v1 ⟨rfl, hb⟩
  have HK1 := Lib.hid (HK0.out.below hb (HK0.out.lt))
  have L1 := Lib.hid (L0.out.trans (hb.mono L0.out.size))
  clear hb f0 f1 f2 f3 f4 f5 f6 f7 f8 f9 f10 f11 f12 f13 f14
  obtain ⟨f0, f1, f2, f3, f4, f5, f6, f7, f8, f9, f10, f11, f12, f13, f14⟩ := HK1.out.f15
  go_wp2_with fail
  refine Calls.mono (H6.out _) ?_
  rintro e v2 ⟨rfl, hb⟩
  have HK2 := Lib.hid (HK1.out.below hb (HK1.out.lt))
  have L2 := Lib.hid (L1.out.trans (hb.mono L1.out.size))
  clear hb f0 f1 f2 f3 f4 f5 f6 f7 f8 f9 f10 f11 f12 f13 f14
  obtain ⟨f0, f1, f2, f3, f4, f5, f6, f7, f8, f9, f10, f11, f12, f13, f14⟩ := HK2.out.f15
  go_wp2
  go_ret
  exact ⟨rfl, L2.out⟩
set_option maxRecDepth 100000 in
set_option maxHeartbeats 4000000 in
theorem ispk_8 (p : Pk) (c0 : btw p.tos 255 = true) (c1 : btw p.ttl 255 = true) (c2 : btw p.pro 255 = true) (c3 : btw p.id 65535 = true) (c4 : btw p.off 8191 = true) (c5 : foB p.s p.h p.l = true) (c6 : foB p.s' p.h' p.l' = true) (c7 : p.o.size ≤ 40) (c8 : ¬ p.o.size % 4 = 0) (w : World) :
    Calls Try.prog 51 #[p.val] w fun e w' => e = .returned (.bool false) ∧ Below w.heap.size w w' := by
  have H0 := Lib.hid (fun W => within_at p.tos 255 c0 W)
  have H1 := Lib.hid (fun W => within_at p.ttl 255 c1 W)
  have H2 := Lib.hid (fun W => within_at p.pro 255 c2 W)
  have H3 := Lib.hid (fun W => within_at p.id 65535 c3 W)
  have H4 := Lib.hid (fun W => within_at p.off 8191 c4 W)
  have H5 := Lib.hid (fun W => isFour_at p.s p.h p.l c5 W)
  have H6 := Lib.hid (fun W => isFour_at p.s' p.h' p.l' c6 W)
  have d7 : (p.o.size : Int) ≤ 40 := by omega
  have d8 : (((p.o.size : Int) % 4) == 0) = false := by simp; omega
  have K0 := Blk.new w 27 (fcs p)
  have L0 := Lib.hid ((Below.refl _ w).alloc (Nat.le_refl _) (.cells (fcs p) 27))
  clear c0 c1 c2 c3 c4 c5 c6 c7 c8
  obtain ⟨f0, f1, f2, f3, f4, f5, f6, f7, f8, f9, f10, f11, f12, f13, f14⟩ := K0.f15
  have HK0 := Lib.hid K0
  clear K0
  go_enter Try.func51, Try.ntmps51
  go_wp2_with fail
  refine Calls.mono (H0.out _) ?_
  rintro e w1 ⟨rfl, rfl⟩
  go_wp2_with fail
  refine Calls.mono (H1.out _) ?_
  rintro e w1 ⟨rfl, rfl⟩
  go_wp2_with fail
  refine Calls.mono (H2.out _) ?_
  rintro e w1 ⟨rfl, rfl⟩
  go_wp2_with fail
  refine Calls.mono (H3.out _) ?_
  rintro e w1 ⟨rfl, rfl⟩
  go_wp2_with fail
  refine Calls.mono (H4.out _) ?_
  rintro e w1 ⟨rfl, rfl⟩
  go_wp2_with fail
  refine Calls.mono (H5.out _) ?_
  rintro e v1 ⟨rfl, hb⟩
  have HK1 := Lib.hid (HK0.out.below hb (HK0.out.lt))
  have L1 := Lib.hid (L0.out.trans (hb.mono L0.out.size))
  clear hb f0 f1 f2 f3 f4 f5 f6 f7 f8 f9 f10 f11 f12 f13 f14
  obtain ⟨f0, f1, f2, f3, f4, f5, f6, f7, f8, f9, f10, f11, f12, f13, f14⟩ := HK1.out.f15
  go_wp2_with fail
  refine Calls.mono (H6.out _) ?_
  rintro e v2 ⟨rfl, hb⟩
  have HK2 := Lib.hid (HK1.out.below hb (HK1.out.lt))
  have L2 := Lib.hid (L1.out.trans (hb.mono L1.out.size))
  clear hb f0 f1 f2 f3 f4 f5 f6 f7 f8 f9 f10 f11 f12 f13 f14
  obtain ⟨f0, f1, f2, f3, f4, f5, f6, f7, f8, f9, f10, f11, f12, f13, f14⟩ := HK2.out.f15
  go_wp2
  go_ret
  exact ⟨rfl, L2.out⟩
set_option maxRecDepth 100000 in
set_option maxHeartbeats 4000000 in
theorem ispk_9 (p : Pk) (c0 : btw p.tos 255 = true) (c1 : btw p.ttl 255 = true) (c2 : btw p.pro 255 = true) (c3 : btw p.id 65535 = true) (c4 : btw p.off 8191 = true) (c5 : foB p.s p.h p.l = true) (c6 : foB p.s' p.h' p.l' = true) (c7 : p.o.size ≤ 40) (c8 : p.o.size % 4 = 0) (c9 : opB p.o = false) (w : World) :
    Calls Try.prog 51 #[p.val] w fun e w' => e = .returned (.bool false) ∧ Below w.heap.size w w' := by
  have H0 := Lib.hid (fun W => within_at p.tos 255 c0 W)
  have H1 := Lib.hid (fun W => within_at p.ttl 255 c1 W)
  have H2 := Lib.hid (fun W => within_at p.pro 255 c2 W)
  have H3 := Lib.hid (fun W => within_at p.id 65535 c3 W)
  have H4 := Lib.hid (fun W => within_at p.off 8191 c4 W)
  have H5 := Lib.hid (fun W => isFour_at p.s p.h p.l c5 W)
  have H6 := Lib.hid (fun W => isFour_at p.s' p.h' p.l' c6 W)
  have d7 : (p.o.size : Int) ≤ 40 := by omega
  have d8 : (((p.o.size : Int) % 4) == 0) = true := by simp; omega
  have H9 := Lib.hid (fun W => are_any p.o (by omega) W)
  rw [c9] at H9
  have K0 := Blk.new w 27 (fcs p)
  have L0 := Lib.hid ((Below.refl _ w).alloc (Nat.le_refl _) (.cells (fcs p) 27))
  clear c0 c1 c2 c3 c4 c5 c6 c7 c8 c9
  obtain ⟨f0, f1, f2, f3, f4, f5, f6, f7, f8, f9, f10, f11, f12, f13, f14⟩ := K0.f15
  have HK0 := Lib.hid K0
  clear K0
  go_enter Try.func51, Try.ntmps51
  go_wp2_with fail
  refine Calls.mono (H0.out _) ?_
  rintro e w1 ⟨rfl, rfl⟩
  go_wp2_with fail
  refine Calls.mono (H1.out _) ?_
  rintro e w1 ⟨rfl, rfl⟩
  go_wp2_with fail
  refine Calls.mono (H2.out _) ?_
  rintro e w1 ⟨rfl, rfl⟩
  go_wp2_with fail
  refine Calls.mono (H3.out _) ?_
  rintro e w1 ⟨rfl, rfl⟩
  go_wp2_with fail
  refine Calls.mono (H4.out _) ?_
  rintro e w1 ⟨rfl, rfl⟩
  go_wp2_with fail
  refine Calls.mono (H5.out _) ?_
  rintro e v1 ⟨rfl, hb⟩
  have HK1 := Lib.hid (HK0.out.below hb (HK0.out.lt))
  have L1 := Lib.hid (L0.out.trans (hb.mono L0.out.size))
  clear hb f0 f1 f2 f3 f4 f5 f6 f7 f8 f9 f10 f11 f12 f13 f14
  obtain ⟨f0, f1, f2, f3, f4, f5, f6, f7, f8, f9, f10, f11, f12, f13, f14⟩ := HK1.out.f15
  go_wp2_with fail
  refine Calls.mono (H6.out _) ?_
  rintro e v2 ⟨rfl, hb⟩
  have HK2 := Lib.hid (HK1.out.below hb (HK1.out.lt))
  have L2 := Lib.hid (L1.out.trans (hb.mono L1.out.size))
  clear hb f0 f1 f2 f3 f4 f5 f6 f7 f8 f9 f10 f11 f12 f13 f14
  obtain ⟨f0, f1, f2, f3, f4, f5, f6, f7, f8, f9, f10, f11, f12, f13, f14⟩ := HK2.out.f15
  go_wp2_with fail
  refine Calls.mono (H9.out _) ?_
  rintro e w1 ⟨rfl, rfl⟩
  go_wp2
  go_ret
  exact ⟨rfl, L2.out⟩
set_option maxRecDepth 100000 in
set_option maxHeartbeats 4000000 in
theorem ispk_10 (p : Pk) (c0 : btw p.tos 255 = true) (c1 : btw p.ttl 255 = true) (c2 : btw p.pro 255 = true) (c3 : btw p.id 65535 = true) (c4 : btw p.off 8191 = true) (c5 : foB p.s p.h p.l = true) (c6 : foB p.s' p.h' p.l' = true) (c7 : p.o.size ≤ 40) (c8 : p.o.size % 4 = 0) (c9 : opB p.o = true) (w : World) :
    Calls Try.prog 51 #[p.val] w fun e w' => e = .returned (.bool true) ∧ Below w.heap.size w w' := by
  have H0 := Lib.hid (fun W => within_at p.tos 255 c0 W)
  have H1 := Lib.hid (fun W => within_at p.ttl 255 c1 W)
  have H2 := Lib.hid (fun W => within_at p.pro 255 c2 W)
  have H3 := Lib.hid (fun W => within_at p.id 65535 c3 W)
  have H4 := Lib.hid (fun W => within_at p.off 8191 c4 W)
  have H5 := Lib.hid (fun W => isFour_at p.s p.h p.l c5 W)
  have H6 := Lib.hid (fun W => isFour_at p.s' p.h' p.l' c6 W)
  have d7 : (p.o.size : Int) ≤ 40 := by omega
  have d8 : (((p.o.size : Int) % 4) == 0) = true := by simp; omega
  have H9 := Lib.hid (fun W => are_any p.o (by omega) W)
  rw [c9] at H9
  have K0 := Blk.new w 27 (fcs p)
  have L0 := Lib.hid ((Below.refl _ w).alloc (Nat.le_refl _) (.cells (fcs p) 27))
  clear c0 c1 c2 c3 c4 c5 c6 c7 c8 c9
  obtain ⟨f0, f1, f2, f3, f4, f5, f6, f7, f8, f9, f10, f11, f12, f13, f14⟩ := K0.f15
  have HK0 := Lib.hid K0
  clear K0
  go_enter Try.func51, Try.ntmps51
  go_wp2_with fail
  refine Calls.mono (H0.out _) ?_
  rintro e w1 ⟨rfl, rfl⟩
  go_wp2_with fail
  refine Calls.mono (H1.out _) ?_
  rintro e w1 ⟨rfl, rfl⟩
  go_wp2_with fail
  refine Calls.mono (H2.out _) ?_
  rintro e w1 ⟨rfl, rfl⟩
  go_wp2_with fail
  refine Calls.mono (H3.out _) ?_
  rintro e w1 ⟨rfl, rfl⟩
  go_wp2_with fail
  refine Calls.mono (H4.out _) ?_
  rintro e w1 ⟨rfl, rfl⟩
  go_wp2_with fail
  refine Calls.mono (H5.out _) ?_
  rintro e v1 ⟨rfl, hb⟩
  have HK1 := Lib.hid (HK0.out.below hb (HK0.out.lt))
  have L1 := Lib.hid (L0.out.trans (hb.mono L0.out.size))
  clear hb f0 f1 f2 f3 f4 f5 f6 f7 f8 f9 f10 f11 f12 f13 f14
  obtain ⟨f0, f1, f2, f3, f4, f5, f6, f7, f8, f9, f10, f11, f12, f13, f14⟩ := HK1.out.f15
  go_wp2_with fail
  refine Calls.mono (H6.out _) ?_
  rintro e v2 ⟨rfl, hb⟩
  have HK2 := Lib.hid (HK1.out.below hb (HK1.out.lt))
  have L2 := Lib.hid (L1.out.trans (hb.mono L1.out.size))
  clear hb f0 f1 f2 f3 f4 f5 f6 f7 f8 f9 f10 f11 f12 f13 f14
  obtain ⟨f0, f1, f2, f3, f4, f5, f6, f7, f8, f9, f10, f11, f12, f13, f14⟩ := HK2.out.f15
  go_wp2_with fail
  refine Calls.mono (H9.out _) ?_
  rintro e w1 ⟨rfl, rfl⟩
  go_wp2
  go_ret
  exact ⟨rfl, L2.out⟩
theorem ispk_any (p : Pk) {V : Bool} (hV : rgB p = V) (w : World) :
    Calls Try.prog 51 #[p.val] w fun e w' => e = .returned (.bool V) ∧ Below w.heap.size w w' := by
  have E : rgB p = (btw p.tos 255 && btw p.ttl 255 && btw p.pro 255 && btw p.id 65535 && btw p.off 8191 && foB p.s p.h p.l && foB p.s' p.h' p.l' && decide (p.o.size ≤ 40) && decide (p.o.size % 4 = 0) && opB p.o) := by simp only [rgB]
  rw [hV] at E
  rcases Bool.eq_false_or_eq_true (btw p.tos 255) with c0 | c0
  rotate_left
  · have : V = false := by rw [E]; simp [c0]
    subst this
    exact ispk_0 p c0 w
  rcases Bool.eq_false_or_eq_true (btw p.ttl 255) with c1 | c1
  rotate_left
  · have : V = false := by rw [E]; simp [c0, c1]
    subst this
    exact ispk_1 p c0 c1 w
  rcases Bool.eq_false_or_eq_true (btw p.pro 255) with c2 | c2
  rotate_left
  · have : V = false := by rw [E]; simp [c0, c1, c2]
    subst this
    exact ispk_2 p c0 c1 c2 w
  rcases Bool.eq_false_or_eq_true (btw p.id 65535) with c3 | c3
  rotate_left
  · have : V = false := by rw [E]; simp [c0, c1, c2, c3]
    subst this
    exact ispk_3 p c0 c1 c2 c3 w
  rcases Bool.eq_false_or_eq_true (btw p.off 8191) with c4 | c4
  rotate_left
  · have : V = false := by rw [E]; simp [c0, c1, c2, c3, c4]
    subst this
    exact ispk_4 p c0 c1 c2 c3 c4 w
  rcases Bool.eq_false_or_eq_true (foB p.s p.h p.l) with c5 | c5
  rotate_left
  · have : V = false := by rw [E]; simp [c0, c1, c2, c3, c4, c5]
    subst this
    exact ispk_5 p c0 c1 c2 c3 c4 c5 w
  rcases Bool.eq_false_or_eq_true (foB p.s' p.h' p.l') with c6 | c6
  rotate_left
  · have : V = false := by rw [E]; simp [c0, c1, c2, c3, c4, c5, c6]
    subst this
    exact ispk_6 p c0 c1 c2 c3 c4 c5 c6 w
  by_cases c7 : p.o.size ≤ 40
  rotate_left
  · have : V = false := by rw [E]; simp [c0, c1, c2, c3, c4, c5, c6, c7]
    subst this
    exact ispk_7 p c0 c1 c2 c3 c4 c5 c6 c7 w
  by_cases c8 : p.o.size % 4 = 0
  rotate_left
  · have : V = false := by rw [E]; simp [c0, c1, c2, c3, c4, c5, c6, c7, c8]
    subst this
    exact ispk_8 p c0 c1 c2 c3 c4 c5 c6 c7 c8 w
  rcases Bool.eq_false_or_eq_true (opB p.o) with c9 | c9
  rotate_left
  · have : V = false := by rw [E]; simp [c0, c1, c2, c3, c4, c5, c6, c7, c8, c9]
    subst this
    exact ispk_9 p c0 c1 c2 c3 c4 c5 c6 c7 c8 c9 w
  have : V = true := by rw [E]; simp [c0, c1, c2, c3, c4, c5, c6, c7, c8, c9]
  subst this
  exact ispk_10 p c0 c1 c2 c3 c4 c5 c6 c7 c8 c9 w
end Go.Proofs.Ytbhddodghbhjiaa
