/-
  prefix.Print of any range.
-/
import Derived.Test.YtecgmejfkfoceaaDoorPTw
import Derived.Test.YtecgmejfkfoceaaDoorPrint
import Derived.Lib.AppendIntMem
namespace Go.Proofs.YtecgmejfkfoceaaDoor
open Go.RowKit
set_option linter.unusedVariables false

theorem itoa_at (b : Int) (h0 : 0 ≤ b) (h1 : b ≤ 200) (w : World) (hE : Env w) :
    Calls Tryd.prog 53 #[.int .i64 b] w fun e w' => e = .returned (.string ⟨(Lib.decDigits b.toNat).toArray⟩) ∧ Below w.heap.size w w' := by
  refine (Tryd.strconv_Itoa b (by omega) (by omega) w hE.2.2.2.1).mono ?_
  rintro e w' ⟨rfl, k, os, rfl⟩
  obtain ⟨n, rfl⟩ := Int.eq_ofNat_of_zero_le h0
  refine ⟨by rw [Lib.itoa_nonneg]; rfl, ?_⟩
  exact Go.Lib.below_grow w.heap.size w (Nat.le_refl _) k os
set_option maxRecDepth 100000 in
set_option maxHeartbeats 4000000 in
theorem pprint_any (s : Bool) (h l : Nat) (b : Int) (hh : N64 h) (hl : N64 l) (w : World) (hE : Env w) :
    Calls Tryd.prog 25 #[pfx s h l b] w fun e w' => e = .returned (.string ⟨(pprn s h l b).toArray⟩) ∧ Below w.heap.size w w' := by
  have hE1 := Lib.hid (hE.alloc (.cells #[.bool s, .int .u64 h, .int .u64 l, .int .i64 b] 26))
  cases hp : pvl s h l b
  · have HV := Lib.hid (fun w => pvalid_at s h l b hh hl hp w)
    rw [pprn_no hp]
    clear hp
    go_enter Tryd.func25, Tryd.ntmps25
    go_wp2_with fail
    refine Calls.mono (HV.out _) ?_
    rintro e w1 ⟨rfl, hb⟩
    have L1 := Lib.hid (((Below.refl _ w).alloc (Nat.le_refl _) _).trans (hb.mono (by simp only [World.size_alloc]; omega)))
    clear hb
    go_wp2
    go_ret
    exact ⟨rfl, L1.out⟩
  · have HV := Lib.hid (fun w => pvalid_at s h l b hh hl hp w)
    obtain ⟨o1, o2⟩ := okn_iff.1 ((pvl_iff hl).1 hp).2.1
    have w128 : wd s ≤ 128 := by unfold wd; split <;> omega
    have HP := Lib.hid (fun w hE => print_any s h l (n64_u6 hh) (n64_u6 hl) w hE)
    have HI := Lib.hid (fun w hE => itoa_at b o1 (by omega) w hE)
    have e := pprn_yes hp
    have q1 := prn_len s h l
    have q2 : (Lib.decDigits b.toNat).length ≤ 3 := dig_len ⟨b.toNat, by omega⟩
    obtain ⟨P, hP⟩ : ∃ P : ByteArray, P = ⟨(prn s h l).toArray⟩ := ⟨_, rfl⟩
    obtain ⟨D, hD⟩ : ∃ D : ByteArray, D = ⟨(Lib.decDigits b.toNat).toArray⟩ := ⟨_, rfl⟩
    have sP : P.size ≤ 200 := by rw [hP, Lib.size_eq]; exact q1
    have sD : D.size ≤ 3 := by rw [hD, Lib.size_eq]; exact q2
    rw [← hP] at HP
    rw [← hD] at HI
    have hR : (⟨(pprn s h l b).toArray⟩ : ByteArray) = P ++ ⟨#[47]⟩ ++ D := by
      rw [e, hP, hD]
      apply ByteArray.ext
      simp
    rw [hR]
    have hadd1 : ∀ W : World, (Op.stringOp .add P ⟨#[47]⟩).run Tryd.prog W = .ok (.string (P ++ ⟨#[47]⟩)) W := fun W => run_string_add_sum _ _ _ (by show P.size + 1 ≤ _; omega)
    have hadd2 : ∀ W : World, (Op.stringOp .add (P ++ ⟨#[47]⟩) D).run Tryd.prog W = .ok (.string (P ++ ⟨#[47]⟩ ++ D)) W := fun W => run_string_add_sum _ _ _ (by rw [ByteArray.size_append]; show P.size + 1 + D.size ≤ _; omega)
    clear hp o2 w128 e q1 q2 hP hD sP sD hR o1
    go_enter Tryd.func25, Tryd.ntmps25
    go_wp2_with fail
    refine Calls.mono (HV.out _) ?_
    rintro e w1 ⟨rfl, hb⟩
    have K1 := Lib.hid ((Blk.new w 26 #[.bool s, .int .u64 h, .int .u64 l, .int .i64 b]).below hb (by simp only [World.size_alloc]; omega))
    have L1 := Lib.hid (((Below.refl _ w).alloc (Nat.le_refl _) _).trans (hb.mono (by simp only [World.size_alloc]; omega)))
    have E1 := Lib.hid (hE1.out.below hb)
    have s1 : w.heap.size < w1.heap.size := by have := hb.size; simp only [World.size_alloc] at this; omega
    clear hb
    have HC : Hid (∀ W', Below w1.heap.size w1 W' → W'.cell? ⟨w.heap.size, 0, none⟩ = some (.bool s) ∧ W'.cell? ⟨w.heap.size, 1, none⟩ = some (.int .u64 h) ∧ W'.cell? ⟨w.heap.size, 2, none⟩ = some (.int .u64 l) ∧ W'.cell? ⟨w.heap.size, 3, none⟩ = some (.int .i64 b)) := by
      show ∀ W', _ → _
      intro W' hB
      exact (K1.out.below hB s1).c4
    have hR : Below w1.heap.size w1 w1.drew := (Below.refl _ _).drew
    obtain ⟨f0, f1, f2, f3⟩ := K1.out.c4
    go_wp2
    go_region_held3 (fun w' => w'.cell? ⟨w.heap.size, 0, none⟩ = some (.bool s) ∧ w'.cell? ⟨w.heap.size, 1, none⟩ = some (.int .u64 h) ∧ w'.cell? ⟨w.heap.size, 2, none⟩ = some (.int .u64 l) ∧ w'.cell? ⟨w.heap.size, 3, none⟩ = some (.int .i64 b))
      (first | exact HC.out _ hR | go_keep)
      (first
        | (go_at_call 37; (with_reducible refine Calls.mono (HP.out _ (E1.out.below hR)) ?_); rintro e W' ⟨rfl, hb⟩; replace hR := hR.trans (hb.mono hR.size); clear hb)
        | (go_at_call 53; (with_reducible refine Calls.mono (HI.out _ (E1.out.below hR)) ?_); rintro e W' ⟨rfl, hb⟩; replace hR := hR.trans (hb.mono hR.size); clear hb))
    all_goals
      have L5 := Lib.hid (L1.out.trans (hR.mono L1.out.size))
      clear hR f0 f1 f2 f3
      go_wp2
      go_ret
      exact ⟨rfl, L5.out⟩
end Go.Proofs.YtecgmejfkfoceaaDoor
