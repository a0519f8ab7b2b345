/-
  prefix.Halves of any range: what has no halves.
-/
import Derived.Test.YtecgmejfkfoceaaDoorPHv
import Derived.BigGuard
namespace Go.Proofs.YtecgmejfkfoceaaDoor
open Go.RowKit
set_option linter.unusedVariables false

theorem hvV_no {s : Bool} {h l : Nat} {b : Int} (hk : ¬ (pvl s h l b = true ∧ b < (wd s : Int))) (hl : N64 l) : hvV s h l b = .tuple #[pfx false 0 0 0, pfx false 0 0 0, .int .i64 1] := by
  unfold hvV
  rw [if_neg]
  intro e
  simp only [Bool.and_eq_true, decide_eq_true_eq] at e
  have := (okn_iff.1 ((pvl_iff hl).1 e.1).2.1).2
  exact hk ⟨e.1, by omega⟩

set_option maxRecDepth 100000 in
set_option maxHeartbeats 4000000 in
theorem halves_bad (s : Bool) (h l : Nat) (b : Int) (hh : N64 h) (hl : N64 l) (hp : pvl s h l b = false) (w : World) :
    Calls Tryd.prog 27 #[pfx s h l b] w fun e w' => e = .returned (.tuple #[pfx false 0 0 0, pfx false 0 0 0, .int .i64 1]) ∧ Below w.heap.size w w' := by
  have HV := Lib.hid (fun w => pvalid_at s h l b hh hl hp w)
  clear hp
  go_enter Tryd.func27, Tryd.ntmps27
  go_wp2
  have K0 := Lib.hid (((Blk.new w 26 #[.bool s, .int .u64 h, .int .u64 l, .int .i64 b]).alloc (.cells #[.bool false, .int .u64 0, .int .u64 0, .int .i64 0] 26)).alloc (.cells #[.bool false, .int .u64 0, .int .u64 0, .int .i64 0] 26))
  have M0 := Lib.hid ((Blk.new (w.alloc (.cells #[.bool s, .int .u64 h, .int .u64 l, .int .i64 b] 26)) 26 #[.bool false, .int .u64 0, .int .u64 0, .int .i64 0]).alloc (.cells #[.bool false, .int .u64 0, .int .u64 0, .int .i64 0] 26))
  have N0 := Lib.hid (Blk.new ((w.alloc (.cells #[.bool s, .int .u64 h, .int .u64 l, .int .i64 b] 26)).alloc (.cells #[.bool false, .int .u64 0, .int .u64 0, .int .i64 0] 26)) 26 #[.bool false, .int .u64 0, .int .u64 0, .int .i64 0])
  have L0 := Lib.hid ((((Below.refl _ w).alloc (Nat.le_refl _) (.cells #[.bool s, .int .u64 h, .int .u64 l, .int .i64 b] 26)).alloc (by simp) (.cells #[.bool false, .int .u64 0, .int .u64 0, .int .i64 0] 26)).alloc (by simp only [World.size_alloc]; omega) (.cells #[.bool false, .int .u64 0, .int .u64 0, .int .i64 0] 26))
  have s0 : w.heap.size + 2 < (((w.alloc (.cells #[.bool s, .int .u64 h, .int .u64 l, .int .i64 b] 26)).alloc (.cells #[.bool false, .int .u64 0, .int .u64 0, .int .i64 0] 26)).alloc (.cells #[.bool false, .int .u64 0, .int .u64 0, .int .i64 0] 26)).heap.size := by simp only [World.size_alloc]; omega
  rw [World.size_alloc] at M0
  rw [World.size_alloc, World.size_alloc] at N0
  generalize ((w.alloc (.cells #[.bool s, .int .u64 h, .int .u64 l, .int .i64 b] 26)).alloc (.cells #[.bool false, .int .u64 0, .int .u64 0, .int .i64 0] 26)).alloc (.cells #[.bool false, .int .u64 0, .int .u64 0, .int .i64 0] 26) = w0 at *
  have HC : Hid (∀ W', Below w0.heap.size w0 W' →
     W'.cell? ⟨w.heap.size, 0, none⟩ = some (.bool s) ∧ W'.cell? ⟨w.heap.size, 1, none⟩ = some (.int .u64 h) ∧ W'.cell? ⟨w.heap.size, 2, none⟩ = some (.int .u64 l) ∧ W'.cell? ⟨w.heap.size, 3, none⟩ = some (.int .i64 b)) := by
    show ∀ W', _ → _
    intro W' hB
    exact (K0.out.below hB (by omega)).c4
  have hR : Below w0.heap.size w0 w0.drew := (Below.refl _ _).drew
  obtain ⟨f0, f1, f2, f3⟩ := K0.out.c4

  first
    | (go_region_with (go_at_call 17; (with_reducible refine Calls.mono (HV.out _) ?_); rintro e W' ⟨rfl, hb⟩; replace hR := hR.trans (hb.mono hR.size); clear hb))
    | skip
  all_goals
    have L5 := Lib.hid hR
    have M5 := Lib.hid (M0.out.below L5.out (by omega))
    have N5 := Lib.hid (N0.out.below L5.out (by omega))
    clear hR
    obtain ⟨m0, m1, m2, m3⟩ := M5.out.c4
    obtain ⟨n0, n1, n2, n3⟩ := N5.out.c4
    have a0 := M5.out.frozen 0
    have a1 := M5.out.frozen 1
    have a2 := M5.out.frozen 2
    have a3 := M5.out.frozen 3
    have b0 := N5.out.frozen 0
    have b1 := N5.out.frozen 1
    have b2 := N5.out.frozen 2
    have b3 := N5.out.frozen 3
    go_wp2
    refine bodyPost_ret (v := .tuple #[pfx false 0 0 0, pfx false 0 0 0, .int .i64 1]) (by simp [results, Tryd.results27, go_sem, m0, m1, m2, m3, n0, n1, n2, n3]) rfl ⟨rfl, ?_⟩
    iterate 8 refine Below.setCell ?_ (by first | (simp; done) | (simp; omega)) _
    exact L0.out.trans (L5.out.mono L0.out.size)

set_option maxRecDepth 100000 in
set_option maxHeartbeats 4000000 in
theorem halves_full (s : Bool) (h l : Nat) (b : Int) (hh : N64 h) (hl : N64 l) (hp : pvl s h l b = true) (W : Int) (hW : (wd s : Int) = W) (hb : b = W) (w : World) :
    Calls Tryd.prog 27 #[pfx s h l b] w fun e w' => e = .returned (.tuple #[pfx false 0 0 0, pfx false 0 0 0, .int .i64 1]) ∧ Below w.heap.size w w' := by
  have HV := Lib.hid (fun w => pvalid_at s h l b hh hl hp w)
  have HW := Lib.hid (fun w => width_at s h l W hW w)
  subst hb
  clear hp hW
  go_enter Tryd.func27, Tryd.ntmps27
  go_wp2
  have K0 := Lib.hid (((Blk.new w 26 #[.bool s, .int .u64 h, .int .u64 l, .int .i64 b]).alloc (.cells #[.bool false, .int .u64 0, .int .u64 0, .int .i64 0] 26)).alloc (.cells #[.bool false, .int .u64 0, .int .u64 0, .int .i64 0] 26))
  have M0 := Lib.hid ((Blk.new (w.alloc (.cells #[.bool s, .int .u64 h, .int .u64 l, .int .i64 b] 26)) 26 #[.bool false, .int .u64 0, .int .u64 0, .int .i64 0]).alloc (.cells #[.bool false, .int .u64 0, .int .u64 0, .int .i64 0] 26))
  have N0 := Lib.hid (Blk.new ((w.alloc (.cells #[.bool s, .int .u64 h, .int .u64 l, .int .i64 b] 26)).alloc (.cells #[.bool false, .int .u64 0, .int .u64 0, .int .i64 0] 26)) 26 #[.bool false, .int .u64 0, .int .u64 0, .int .i64 0])
  have L0 := Lib.hid ((((Below.refl _ w).alloc (Nat.le_refl _) (.cells #[.bool s, .int .u64 h, .int .u64 l, .int .i64 b] 26)).alloc (by simp) (.cells #[.bool false, .int .u64 0, .int .u64 0, .int .i64 0] 26)).alloc (by simp only [World.size_alloc]; omega) (.cells #[.bool false, .int .u64 0, .int .u64 0, .int .i64 0] 26))
  have s0 : w.heap.size + 2 < (((w.alloc (.cells #[.bool s, .int .u64 h, .int .u64 l, .int .i64 b] 26)).alloc (.cells #[.bool false, .int .u64 0, .int .u64 0, .int .i64 0] 26)).alloc (.cells #[.bool false, .int .u64 0, .int .u64 0, .int .i64 0] 26)).heap.size := by simp only [World.size_alloc]; omega
  rw [World.size_alloc] at M0
  rw [World.size_alloc, World.size_alloc] at N0
  generalize ((w.alloc (.cells #[.bool s, .int .u64 h, .int .u64 l, .int .i64 b] 26)).alloc (.cells #[.bool false, .int .u64 0, .int .u64 0, .int .i64 0] 26)).alloc (.cells #[.bool false, .int .u64 0, .int .u64 0, .int .i64 0] 26) = w0 at *
  have HC : Hid (∀ W', Below w0.heap.size w0 W' →
     W'.cell? ⟨w.heap.size, 0, none⟩ = some (.bool s) ∧ W'.cell? ⟨w.heap.size, 1, none⟩ = some (.int .u64 h) ∧ W'.cell? ⟨w.heap.size, 2, none⟩ = some (.int .u64 l) ∧ W'.cell? ⟨w.heap.size, 3, none⟩ = some (.int .i64 b)) := by
    show ∀ W', _ → _
    intro W' hB
    exact (K0.out.below hB (by omega)).c4
  have hR : Below w0.heap.size w0 w0.drew := (Below.refl _ _).drew
  obtain ⟨f0, f1, f2, f3⟩ := K0.out.c4
  have gd : (!true) = false := rfl
  go_region_held3 (fun w' => w'.cell? ⟨w.heap.size, 0, none⟩ = some (.bool s) ∧ w'.cell? ⟨w.heap.size, 1, none⟩ = some (.int .u64 h) ∧ w'.cell? ⟨w.heap.size, 2, none⟩ = some (.int .u64 l) ∧ w'.cell? ⟨w.heap.size, 3, none⟩ = some (.int .i64 b))
    (first | exact HC.out _ hR | go_keep)
    (first
      | (go_at_call 17; (with_reducible refine Calls.mono (HV.out _) ?_); rintro e W' ⟨rfl, hb⟩; replace hR := hR.trans (hb.mono hR.size); clear hb)
      | (go_at_call 48; (with_reducible refine Calls.mono (HW.out _) ?_); rintro e W' ⟨rfl, hb⟩; replace hR := hR.trans (hb.mono hR.size); clear hb))
  have bw : (b == b) = true := by simp
  have L5 := Lib.hid hR
  have M5 := Lib.hid (M0.out.below L5.out (by omega))
  have N5 := Lib.hid (N0.out.below L5.out (by omega))
  clear hR
  obtain ⟨m0, m1, m2, m3⟩ := M5.out.c4
  obtain ⟨n0, n1, n2, n3⟩ := N5.out.c4
  have a0 := M5.out.frozen 0
  have a1 := M5.out.frozen 1
  have a2 := M5.out.frozen 2
  have a3 := M5.out.frozen 3
  have b0 := N5.out.frozen 0
  have b1 := N5.out.frozen 1
  have b2 := N5.out.frozen 2
  have b3 := N5.out.frozen 3
  go_wp2
  refine bodyPost_ret (v := .tuple #[pfx false 0 0 0, pfx false 0 0 0, .int .i64 1]) (by simp [results, Tryd.results27, go_sem, m0, m1, m2, m3, n0, n1, n2, n3]) rfl ⟨rfl, ?_⟩
  iterate 8 refine Below.setCell ?_ (by first | (simp; done) | (simp; omega)) _
  exact L0.out.trans (L5.out.mono L0.out.size)

theorem halves_any (s : Bool) (h l : Nat) (b : Int) (hh : N64 h) (hl : N64 l) {v : Value} (ev : hvV s h l b = v) (w : World) :
    Calls Tryd.prog 27 #[pfx s h l b] w fun e w' => e = .returned v ∧ Below w.heap.size w w' := by
  subst ev
  by_cases hk : pvl s h l b = true ∧ b < (wd s : Int)
  · exact halves_yes s h l b hh hl hk.1 hk.2 w
  · rw [hvV_no hk hl]
    by_cases hp : pvl s h l b = true
    · have := (okn_iff.1 ((pvl_iff hl).1 hp).2.1).2
      exact halves_full s h l b hh hl hp _ rfl (by have : ¬ b < (wd s : Int) := fun x => hk ⟨hp, x⟩; omega) w
    · exact halves_bad s h l b hh hl (by simpa using hp) w
end Go.Proofs.YtecgmejfkfoceaaDoor
