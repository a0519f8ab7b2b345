/-
  ip6.isPacket of any packet; a packet's cells; the parts of a header's first number.
-/
import Derived.Test.YtbhddodghbhjiaaSNum
import Derived.Test.YtbhddodghbhjiaaFVal
namespace Go.Proofs.Ytbhddodghbhjiaa
open Go.RowKit
set_option linter.unusedVariables false

theorem swraps (n : Int) (h0 : 0 ≤ n) (h1 : n < 2 ^ 62) : IntKind.i64.wrap n = n := by rw [IntKind.wrap_i64]; omega
theorem sand_255 (x : Int) (h0 : 0 ≤ x) (h1 : x < 4294967296) : bits .and .i64 x 255 = x % 256 := bits_mask .i64 62 (by decide) swraps 8 (by decide) x h0 (by omega)
theorem sand_20 (x : Int) (h0 : 0 ≤ x) (h1 : x < 4294967296) : bits .and .i64 x 1048575 = x % 1048576 := bits_mask .i64 62 (by decide) swraps 20 (by decide) x h0 (by omega)
theorem sor_28 (x : Int) (h0 : 0 ≤ x) (h1 : x < 268435456) : bits .or .i64 1610612736 x = 1610612736 + x := bits_join .i64 62 (by decide) swraps 28 1610612736 x (by decide) (by decide) (by decide) h0 (by omega) (by omega)
theorem sor_20 (x y : Int) (h0 : 0 ≤ x) (h1 : x < 256) (h2 : 0 ≤ y) (h3 : y < 1048576) : bits .or .i64 (1610612736 + x * 1048576) y = 1610612736 + x * 1048576 + y := bits_join .i64 62 (by decide) swraps 20 (1610612736 + x * 1048576) y (by omega) (by omega) (by omega) h2 (by omega) (by omega)

theorem swithin_at (n m : Int) {b : Bool} (e : bt n m = b) (w : World) :
    Calls Try.prog 72 #[.int .i64 n, .int .i64 m] w fun e w' => e = .returned (.bool b) ∧ w = w' := by
  have HE := Lib.hid e
  by_cases h0 : 0 ≤ n
  · by_cases h1 : n ≤ m
    all_goals
      clear e
      go_enter Try.func72, Try.ntmps72
      go_wp2
      go_ret
      exact ⟨ret_bool (by rw [← HE.out]; simp [bt, h0, h1]), rfl⟩
  · clear e
    go_enter Try.func72, Try.ntmps72
    go_wp2
    go_ret
    exact ⟨ret_bool (by rw [← HE.out]; simp [bt]; omega), rfl⟩

theorem Blk.s11 {w : World} {g : Nat} {t : TypeId} {p : Sx} (h : Blk w g t (scs p)) : w.cell? ⟨g, 0, none⟩ = some (.int .i64 p.c) ∧ w.cell? ⟨g, 1, none⟩ = some (.int .i64 p.f) ∧ w.cell? ⟨g, 2, none⟩ = some (.int .i64 p.n) ∧ w.cell? ⟨g, 3, none⟩ = some (.int .i64 p.h) ∧ w.cell? ⟨g, 4, none⟩ = some (.bool p.s) ∧ w.cell? ⟨g, 5, none⟩ = some (.int .u64 p.a) ∧ w.cell? ⟨g, 6, none⟩ = some (.int .u64 p.b) ∧ w.cell? ⟨g, 7, none⟩ = some (.bool p.s') ∧ w.cell? ⟨g, 8, none⟩ = some (.int .u64 p.a') ∧ w.cell? ⟨g, 9, none⟩ = some (.int .u64 p.b') ∧ w.cell? ⟨g, 10, none⟩ = some (.string p.d) :=
  ⟨(by rw [h.cell]; rfl), (by rw [h.cell]; rfl), (by rw [h.cell]; rfl), (by rw [h.cell]; rfl), (by rw [h.cell]; rfl), (by rw [h.cell]; rfl), (by rw [h.cell]; rfl), (by rw [h.cell]; rfl), (by rw [h.cell]; rfl), (by rw [h.cell]; rfl), (by rw [h.cell]; rfl)⟩

set_option maxRecDepth 100000 in
set_option maxHeartbeats 2000000 in
theorem spk_0 (p : Sx) (c0 : bt p.c 255 = false) (w : World) :
    Calls Try.prog 42 #[p.val] w fun e w' => e = .returned (.bool false) ∧ Below w.heap.size w w' := by
  have H0 := Lib.hid (fun W => swithin_at p.c 255 c0 W)
  have K0 := Blk.new w 35 (scs p)
  have L0 := Lib.hid ((Below.refl _ w).alloc (Nat.le_refl _) (.cells (scs p) 35))
  obtain ⟨f0, f1, f2, f3, f4, f5, f6, f7, f8, f9, f10⟩ := K0.s11
  clear c0
  go_enter Try.func42, Try.ntmps42
  go_wp2_with fail
  refine Calls.mono (H0.out _) ?_
  rintro e w0 ⟨rfl, rfl⟩
  go_wp2
  go_ret
  exact ⟨rfl, L0.out⟩
set_option maxRecDepth 100000 in
set_option maxHeartbeats 2000000 in
theorem spk_1 (p : Sx) (c0 : bt p.c 255 = true) (c1 : bt p.f 1048575 = false) (w : World) :
    Calls Try.prog 42 #[p.val] w fun e w' => e = .returned (.bool false) ∧ Below w.heap.size w w' := by
  have H0 := Lib.hid (fun W => swithin_at p.c 255 c0 W)
  have H1 := Lib.hid (fun W => swithin_at p.f 1048575 c1 W)
  have K0 := Blk.new w 35 (scs p)
  have L0 := Lib.hid ((Below.refl _ w).alloc (Nat.le_refl _) (.cells (scs p) 35))
  obtain ⟨f0, f1, f2, f3, f4, f5, f6, f7, f8, f9, f10⟩ := K0.s11
  clear c0 c1
  go_enter Try.func42, Try.ntmps42
  go_wp2_with fail
  refine Calls.mono (H0.out _) ?_
  rintro e w0 ⟨rfl, rfl⟩
  go_wp2_with fail
  refine Calls.mono (H1.out _) ?_
  rintro e w1 ⟨rfl, rfl⟩
  go_wp2
  go_ret
  exact ⟨rfl, L0.out⟩
set_option maxRecDepth 100000 in
set_option maxHeartbeats 2000000 in
theorem spk_2 (p : Sx) (c0 : bt p.c 255 = true) (c1 : bt p.f 1048575 = true) (c2 : bt p.n 255 = false) (w : World) :
    Calls Try.prog 42 #[p.val] w fun e w' => e = .returned (.bool false) ∧ Below w.heap.size w w' := by
  have H0 := Lib.hid (fun W => swithin_at p.c 255 c0 W)
  have H1 := Lib.hid (fun W => swithin_at p.f 1048575 c1 W)
  have H2 := Lib.hid (fun W => swithin_at p.n 255 c2 W)
  have K0 := Blk.new w 35 (scs p)
  have L0 := Lib.hid ((Below.refl _ w).alloc (Nat.le_refl _) (.cells (scs p) 35))
  obtain ⟨f0, f1, f2, f3, f4, f5, f6, f7, f8, f9, f10⟩ := K0.s11
  clear c0 c1 c2
  go_enter Try.func42, Try.ntmps42
  go_wp2_with fail
  refine Calls.mono (H0.out _) ?_
  rintro e w0 ⟨rfl, rfl⟩
  go_wp2_with fail
  refine Calls.mono (H1.out _) ?_
  rintro e w1 ⟨rfl, rfl⟩
  go_wp2_with fail
  refine Calls.mono (H2.out _) ?_
  rintro e w2 ⟨rfl, rfl⟩
  go_wp2
  go_ret
  exact ⟨rfl, L0.out⟩
set_option maxRecDepth 100000 in
set_option maxHeartbeats 2000000 in
theorem spk_3 (p : Sx) (c0 : bt p.c 255 = true) (c1 : bt p.f 1048575 = true) (c2 : bt p.n 255 = true) (c3 : bt p.h 255 = false) (w : World) :
    Calls Try.prog 42 #[p.val] w fun e w' => e = .returned (.bool false) ∧ Below w.heap.size w w' := by
  have H0 := Lib.hid (fun W => swithin_at p.c 255 c0 W)
  have H1 := Lib.hid (fun W => swithin_at p.f 1048575 c1 W)
  have H2 := Lib.hid (fun W => swithin_at p.n 255 c2 W)
  have H3 := Lib.hid (fun W => swithin_at p.h 255 c3 W)
  have K0 := Blk.new w 35 (scs p)
  have L0 := Lib.hid ((Below.refl _ w).alloc (Nat.le_refl _) (.cells (scs p) 35))
  obtain ⟨f0, f1, f2, f3, f4, f5, f6, f7, f8, f9, f10⟩ := K0.s11
  clear c0 c1 c2 c3
  go_enter Try.func42, Try.ntmps42
  go_wp2_with fail
  refine Calls.mono (H0.out _) ?_
  rintro e w0 ⟨rfl, rfl⟩
  go_wp2_with fail
  refine Calls.mono (H1.out _) ?_
  rintro e w1 ⟨rfl, rfl⟩
  go_wp2_with fail
  refine Calls.mono (H2.out _) ?_
  rintro e w2 ⟨rfl, rfl⟩
  go_wp2_with fail
  refine Calls.mono (H3.out _) ?_
  rintro e w3 ⟨rfl, rfl⟩
  go_wp2
  go_ret
  exact ⟨rfl, L0.out⟩
set_option maxRecDepth 100000 in
set_option maxHeartbeats 2000000 in
theorem spk_4 (p : Sx) (c0 : bt p.c 255 = true) (c1 : bt p.f 1048575 = true) (c2 : bt p.n 255 = true) (c3 : bt p.h 255 = true) (c4 : p.s = false) (w : World) :
    Calls Try.prog 42 #[p.val] w fun e w' => e = .returned (.bool false) ∧ Below w.heap.size w w' := by
  have H0 := Lib.hid (fun W => swithin_at p.c 255 c0 W)
  have H1 := Lib.hid (fun W => swithin_at p.f 1048575 c1 W)
  have H2 := Lib.hid (fun W => swithin_at p.n 255 c2 W)
  have H3 := Lib.hid (fun W => swithin_at p.h 255 c3 W)
  have K0 := Blk.new w 35 (scs p)
  have L0 := Lib.hid ((Below.refl _ w).alloc (Nat.le_refl _) (.cells (scs p) 35))
  obtain ⟨f0, f1, f2, f3, f4, f5, f6, f7, f8, f9, f10⟩ := K0.s11
  rw [c4] at f4
  have K1 := Lib.hid K0.s11
  clear K0
  clear c0 c1 c2 c3
  have HC4 := Lib.hid c4
  clear c4
  go_enter Try.func42, Try.ntmps42
  go_wp2_with fail
  refine Calls.mono (H0.out _) ?_
  rintro e w0 ⟨rfl, rfl⟩
  go_wp2_with fail
  refine Calls.mono (H1.out _) ?_
  rintro e w1 ⟨rfl, rfl⟩
  go_wp2_with fail
  refine Calls.mono (H2.out _) ?_
  rintro e w2 ⟨rfl, rfl⟩
  go_wp2_with fail
  refine Calls.mono (H3.out _) ?_
  rintro e w3 ⟨rfl, rfl⟩
  go_wp2
  go_ret
  exact ⟨rfl, L0.out⟩
set_option maxRecDepth 100000 in
set_option maxHeartbeats 2000000 in
theorem spk_5 (p : Sx) (c0 : bt p.c 255 = true) (c1 : bt p.f 1048575 = true) (c2 : bt p.n 255 = true) (c3 : bt p.h 255 = true) (c4 : p.s = true) (c5 : p.s' = false) (w : World) :
    Calls Try.prog 42 #[p.val] w fun e w' => e = .returned (.bool false) ∧ Below w.heap.size w w' := by
  have H0 := Lib.hid (fun W => swithin_at p.c 255 c0 W)
  have H1 := Lib.hid (fun W => swithin_at p.f 1048575 c1 W)
  have H2 := Lib.hid (fun W => swithin_at p.n 255 c2 W)
  have H3 := Lib.hid (fun W => swithin_at p.h 255 c3 W)
  have K0 := Blk.new w 35 (scs p)
  have L0 := Lib.hid ((Below.refl _ w).alloc (Nat.le_refl _) (.cells (scs p) 35))
  obtain ⟨f0, f1, f2, f3, f4, f5, f6, f7, f8, f9, f10⟩ := K0.s11
  rw [c4] at f4
  rw [c5] at f7
  have K1 := Lib.hid K0.s11
  clear K0
  clear c0 c1 c2 c3
  have HC4 := Lib.hid c4
  clear c4
  have HC5 := Lib.hid c5
  clear c5
  go_enter Try.func42, Try.ntmps42
  go_wp2_with fail
  refine Calls.mono (H0.out _) ?_
  rintro e w0 ⟨rfl, rfl⟩
  go_wp2_with fail
  refine Calls.mono (H1.out _) ?_
  rintro e w1 ⟨rfl, rfl⟩
  go_wp2_with fail
  refine Calls.mono (H2.out _) ?_
  rintro e w2 ⟨rfl, rfl⟩
  go_wp2_with fail
  refine Calls.mono (H3.out _) ?_
  rintro e w3 ⟨rfl, rfl⟩
  go_wp2
  go_ret
  exact ⟨rfl, L0.out⟩
set_option maxRecDepth 100000 in
set_option maxHeartbeats 2000000 in
theorem spk_6 (p : Sx) (c0 : bt p.c 255 = true) (c1 : bt p.f 1048575 = true) (c2 : bt p.n 255 = true) (c3 : bt p.h 255 = true) (c4 : p.s = true) (c5 : p.s' = true) (w : World) :
    Calls Try.prog 42 #[p.val] w fun e w' => e = .returned (.bool true) ∧ Below w.heap.size w w' := by
  have H0 := Lib.hid (fun W => swithin_at p.c 255 c0 W)
  have H1 := Lib.hid (fun W => swithin_at p.f 1048575 c1 W)
  have H2 := Lib.hid (fun W => swithin_at p.n 255 c2 W)
  have H3 := Lib.hid (fun W => swithin_at p.h 255 c3 W)
  have K0 := Blk.new w 35 (scs p)
  have L0 := Lib.hid ((Below.refl _ w).alloc (Nat.le_refl _) (.cells (scs p) 35))
  obtain ⟨f0, f1, f2, f3, f4, f5, f6, f7, f8, f9, f10⟩ := K0.s11
  rw [c4] at f4
  rw [c5] at f7
  have K1 := Lib.hid K0.s11
  clear K0
  clear c0 c1 c2 c3
  have HC4 := Lib.hid c4
  clear c4
  have HC5 := Lib.hid c5
  clear c5
  go_enter Try.func42, Try.ntmps42
  go_wp2_with fail
  refine Calls.mono (H0.out _) ?_
  rintro e w0 ⟨rfl, rfl⟩
  go_wp2_with fail
  refine Calls.mono (H1.out _) ?_
  rintro e w1 ⟨rfl, rfl⟩
  go_wp2_with fail
  refine Calls.mono (H2.out _) ?_
  rintro e w2 ⟨rfl, rfl⟩
  go_wp2_with fail
  refine Calls.mono (H3.out _) ?_
  rintro e w3 ⟨rfl, rfl⟩
  go_wp2
  go_ret
  exact ⟨rfl, L0.out⟩
theorem spk_any (p : Sx) {V : Bool} (hV : rgSB p = V) (w : World) :
    Calls Try.prog 42 #[p.val] w fun e w' => e = .returned (.bool V) ∧ Below w.heap.size w w' := by
  have E : rgSB p = (bt p.c 255 && bt p.f 1048575 && bt p.n 255 && bt p.h 255 && p.s && p.s') := rfl
  rw [hV] at E
  rcases Bool.eq_false_or_eq_true (bt p.c 255) with c0 | c0
  rotate_left
  · have : V = false := by rw [E]; simp [c0]
    subst this
    exact spk_0 p c0 w
  rcases Bool.eq_false_or_eq_true (bt p.f 1048575) with c1 | c1
  rotate_left
  · have : V = false := by rw [E]; simp [c0, c1]
    subst this
    exact spk_1 p c0 c1 w
  rcases Bool.eq_false_or_eq_true (bt p.n 255) with c2 | c2
  rotate_left
  · have : V = false := by rw [E]; simp [c0, c1, c2]
    subst this
    exact spk_2 p c0 c1 c2 w
  rcases Bool.eq_false_or_eq_true (bt p.h 255) with c3 | c3
  rotate_left
  · have : V = false := by rw [E]; simp [c0, c1, c2, c3]
    subst this
    exact spk_3 p c0 c1 c2 c3 w
  rcases Bool.eq_false_or_eq_true (p.s) with c4 | c4
  rotate_left
  · have : V = false := by rw [E]; simp [c0, c1, c2, c3, c4]
    subst this
    exact spk_4 p c0 c1 c2 c3 c4 w
  rcases Bool.eq_false_or_eq_true (p.s') with c5 | c5
  rotate_left
  · have : V = false := by rw [E]; simp [c0, c1, c2, c3, c4, c5]
    subst this
    exact spk_5 p c0 c1 c2 c3 c4 c5 w
  have : V = true := by rw [E]; simp [c0, c1, c2, c3, c4, c5]
  subst this
  exact spk_6 p c0 c1 c2 c3 c4 c5 w
end Go.Proofs.Ytbhddodghbhjiaa
