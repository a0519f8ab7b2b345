/-
  icmp: a message as its family sees it, and what each family answers.
-/
import Derived.Test.YtljdebpemdjliaaINum
import Derived.Test.YtljdebpemdjliaaPseudo
import Derived.Test.YtljdebpemdjliaaTOne
import Derived.Test.YtljdebpemdjliaaFApps
import Derived.Test.YtljdebpemdjliaaPut
import Derived.Test.YtljdebpemdjliaaICp
import Derived.Handy
namespace Go.Proofs.Ytljdebpemdjliaa
open Go.RowKit
set_option linter.unusedVariables false

theorem ret_bool {a b : Bool} (h : a = b) : Ending.returned (.bool a) = .returned (.bool b) := by rw [h]
/-- An address by value. -/
structure Ad where
  s : Bool
  h : Int
  l : Int
abbrev acs (a : Ad) : Array Value := #[.bool a.s, .int .u64 a.h, .int .u64 a.l]
abbrev Ad.val (a : Ad) : Value := .agg (acs a)
structure WfA (a : Ad) : Prop where
  h : 0 ≤ a.h ∧ a.h ≤ 18446744073709551615
  l : 0 ≤ a.l ∧ a.l ≤ 18446744073709551615
/-- What is summed up beside the bytes. -/
def psI (six : Bool) (a b : Ad) (n : Int) : Int := if six then tot 0 (psd6 a.h a.l b.h b.l n 58) else 0
theorem psd6_bys (fh fl th tl n p : Int) : Bys (psd6 fh fl th tl n p) := by
  unfold psd6
  have h := putOf_by
  exact ((((((h 8 fh).app (h 8 fl)).app (h 8 th)).app (h 8 tl)).app (h 4 _)).app (h 3 0)).app (h 1 _) |>.bysI
theorem psI_nn (six : Bool) (a b : Ad) (n : Int) : 0 ≤ psI six a b n := by
  unfold psI
  split
  · exact tot_nonneg (psd6_bys _ _ _ _ _ _) 0
  · exact Int.le_refl _
theorem Blk.i5 {w : World} {g : Nat} {t : TypeId} {m : Ms} (h : Blk w g t (mcs m)) : w.cell? ⟨g, 0, none⟩ = some (.bool m.s) ∧ w.cell? ⟨g, 1, none⟩ = some (.int .i64 m.k) ∧ w.cell? ⟨g, 2, none⟩ = some (.int .i64 m.c) ∧ w.cell? ⟨g, 3, none⟩ = some (.int .i64 m.r) ∧ w.cell? ⟨g, 4, none⟩ = some (.string m.d) :=
  ⟨by rw [h.cell]; rfl, by rw [h.cell]; rfl, by rw [h.cell]; rfl, by rw [h.cell]; rfl, by rw [h.cell]; rfl⟩
theorem Blk.i3 {w : World} {g : Nat} {t : TypeId} {a : Ad} (h : Blk w g t (acs a)) : w.cell? ⟨g, 0, none⟩ = some (.bool a.s) ∧ w.cell? ⟨g, 1, none⟩ = some (.int .u64 a.h) ∧ w.cell? ⟨g, 2, none⟩ = some (.int .u64 a.l) :=
  ⟨by rw [h.cell]; rfl, by rw [h.cell]; rfl, by rw [h.cell]; rfl⟩

theorem within_at (n m : Int) {b : Bool} (e : bti n m = b) (w : World) :
    Calls Try.prog 54 #[.int .i64 n, .int .i64 m] w fun e w' => e = .returned (.bool b) ∧ w = w' := by
  have HE := Lib.hid e
  by_cases h0 : 0 ≤ n
  · by_cases h1 : n ≤ m
    all_goals
      clear e
      go_enter Try.func54, Try.ntmps54
      go_wp2
      go_ret
      exact ⟨ret_bool (by rw [← HE.out]; simp [bti, h0, h1]), rfl⟩
  · clear e
    go_enter Try.func54, Try.ntmps54
    go_wp2
    go_ret
    exact ⟨ret_bool (by rw [← HE.out]; simp [bti]; omega), rfl⟩

set_option maxHeartbeats 1000000 in
theorem fam6 (m : Ms) (hs : m.s = true) (w : World) :
    Calls Try.prog 20 #[m.val] w fun e w' => e = .returned (.iface 63 m.val) ∧ Below w.heap.size w w' := by
  have K0 := Blk.new w 23 (mcs m)
  have L0 := Lib.hid ((Below.refl _ w).alloc (Nat.le_refl _) (.cells (mcs m) 23))
  obtain ⟨f0, f1, f2, f3, f4⟩ := K0.i5
  rw [hs] at f0
  clear K0
  go_enter Try.func20, Try.ntmps20
  go_wp2
  go_ret
  exact ⟨by simp only [Ms.val, mcs, hs]; rfl, L0.out⟩
set_option maxHeartbeats 1000000 in
theorem fam4 (m : Ms) (hs : m.s = false) (w : World) :
    Calls Try.prog 20 #[m.val] w fun e w' => e = .returned (.iface 64 m.val) ∧ Below w.heap.size w w' := by
  have K0 := Blk.new w 23 (mcs m)
  have L0 := Lib.hid ((Below.refl _ w).alloc (Nat.le_refl _) (.cells (mcs m) 23))
  obtain ⟨f0, f1, f2, f3, f4⟩ := K0.i5
  rw [hs] at f0
  clear K0
  go_enter Try.func20, Try.ntmps20
  go_wp2
  go_ret
  exact ⟨by simp only [Ms.val, mcs, hs]; rfl, L0.out⟩

set_option maxHeartbeats 1000000 in
theorem may4 (m : Ms) (a b : Ad) (w : World) :
    Calls Try.prog 65 #[m.val, a.val, b.val] w fun e w' => e = .returned (.bool true) ∧ Below w.heap.size w w' := by
  have L0 := Lib.hid ((((Below.refl _ w).alloc (Nat.le_refl _) (.cells (mcs m) 64)).alloc (by simp) (.cells (acs a) 26)).alloc (by simp; omega) (.cells (acs b) 26))
  go_enter Try.func65, Try.ntmps65
  go_wp2
  go_ret
  exact ⟨rfl, L0.out⟩
set_option maxHeartbeats 1000000 in
theorem may6 (m : Ms) (a b : Ad) (w : World) :
    Calls Try.prog 56 #[m.val, a.val, b.val] w fun e w' => e = .returned (.bool (a.s && b.s)) ∧ Below w.heap.size w w' := by
  have L0 := Lib.hid ((((Below.refl _ w).alloc (Nat.le_refl _) (.cells (mcs m) 63)).alloc (by simp) (.cells (acs a) 26)).alloc (by simp; omega) (.cells (acs b) 26))
  obtain ⟨s, h, l⟩ := a
  obtain ⟨s', h', l'⟩ := b
  cases s <;> cases s'
  all_goals
    go_enter Try.func56, Try.ntmps56
    go_wp2
    go_ret
    exact ⟨rfl, L0.out⟩

set_option maxHeartbeats 2000000 in
theorem isv_at (m : Ms) (w : World) :
    Calls Try.prog 52 #[m.val] w fun e w' => e = .returned (.bool (rgIB m)) ∧ Below w.heap.size w w' := by
  have K0 := Blk.new w 61 (mcs m)
  have L0 := Lib.hid ((Below.refl _ w).alloc (Nat.le_refl _) (.cells (mcs m) 61))
  obtain ⟨f0, f1, f2, f3, f4⟩ := K0.i5
  clear K0
  have HE : Hid (rgIB m = (bti m.k 255 && bti m.c 255 && bti m.r 4294967295 && decide (m.d.size ≤ 65000))) := Lib.hid rfl
  rcases Bool.eq_false_or_eq_true (bti m.k 255) with c0 | c0
  rotate_left
  · have H0 := Lib.hid (fun W => within_at m.k 255 c0 W)
    have HX : Hid (false = rgIB m) := Lib.hid (by rw [HE.out, c0]; rfl)
    clear c0 HE
    go_enter Try.func52, Try.ntmps52
    go_wp2_with fail
    refine Calls.mono (H0.out _) ?_
    rintro e w0 ⟨rfl, rfl⟩
    go_wp2
    go_ret
    exact ⟨ret_bool HX.out, L0.out⟩
  rcases Bool.eq_false_or_eq_true (bti m.c 255) with c1 | c1
  rotate_left
  · have H0 := Lib.hid (fun W => within_at m.k 255 c0 W)
    have H1 := Lib.hid (fun W => within_at m.c 255 c1 W)
    have HX : Hid (false = rgIB m) := Lib.hid (by rw [HE.out, c0, c1]; rfl)
    clear c0 c1 HE
    go_enter Try.func52, Try.ntmps52
    go_wp2_with fail
    refine Calls.mono (H0.out _) ?_
    rintro e w0 ⟨rfl, rfl⟩
    go_wp2_with fail
    refine Calls.mono (H1.out _) ?_
    rintro e w0 ⟨rfl, rfl⟩
    go_wp2
    go_ret
    exact ⟨ret_bool HX.out, L0.out⟩
  rcases Bool.eq_false_or_eq_true (bti m.r 4294967295) with c2 | c2
  rotate_left
  · have H0 := Lib.hid (fun W => within_at m.k 255 c0 W)
    have H1 := Lib.hid (fun W => within_at m.c 255 c1 W)
    have H2 := Lib.hid (fun W => within_at m.r 4294967295 c2 W)
    have HX : Hid (false = rgIB m) := Lib.hid (by rw [HE.out, c0, c1, c2]; rfl)
    clear c0 c1 c2 HE
    go_enter Try.func52, Try.ntmps52
    go_wp2_with fail
    refine Calls.mono (H0.out _) ?_
    rintro e w0 ⟨rfl, rfl⟩
    go_wp2_with fail
    refine Calls.mono (H1.out _) ?_
    rintro e w0 ⟨rfl, rfl⟩
    go_wp2_with fail
    refine Calls.mono (H2.out _) ?_
    rintro e w0 ⟨rfl, rfl⟩
    go_wp2
    go_ret
    exact ⟨ret_bool HX.out, L0.out⟩
  have H0 := Lib.hid (fun W => within_at m.k 255 c0 W)
  have H1 := Lib.hid (fun W => within_at m.c 255 c1 W)
  have H2 := Lib.hid (fun W => within_at m.r 4294967295 c2 W)
  have HX : Hid (decide ((m.d.size : Int) ≤ 65000) = rgIB m) := Lib.hid (by rw [HE.out, c0, c1, c2, Bool.and_true, Bool.true_and, Bool.true_and]; exact decide_eq_decide.2 (by omega))
  clear c0 c1 c2 HE
  go_enter Try.func52, Try.ntmps52
  go_wp2_with fail
  refine Calls.mono (H0.out _) ?_
  rintro e w0 ⟨rfl, rfl⟩
  go_wp2_with fail
  refine Calls.mono (H1.out _) ?_
  rintro e w0 ⟨rfl, rfl⟩
  go_wp2_with fail
  refine Calls.mono (H2.out _) ?_
  rintro e w0 ⟨rfl, rfl⟩
  go_wp2
  go_ret
  exact ⟨ret_bool (by rw [← HX.out]), L0.out⟩
end Go.Proofs.Ytljdebpemdjliaa
