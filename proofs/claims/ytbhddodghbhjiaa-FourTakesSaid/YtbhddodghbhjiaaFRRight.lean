/-
  The document's own between, four, Right.
-/
import Derived.Test.YtbhddodghbhjiaaFROpt
import Derived.Test.YtbhddodghbhjiaaFROut
import Derived.Test.YtbhddodghbhjiaaFPk
namespace Go.Proofs.Ytbhddodghbhjiaa
open Go.RowKit
set_option linter.unusedVariables false

theorem rbetween_at (n m : Int) {b : Bool} (e : btw n m = b) (w : World) :
    Calls Try.prog 87 #[.int .i64 n, .int .i64 m] w fun e w' => e = .returned (.bool b) ∧ w = w' := by
  have HE := Lib.hid e
  by_cases h0 : 0 ≤ n
  · by_cases h1 : n ≤ m
    all_goals
      clear e
      go_enter Try.func87, Try.ntmps87
      go_wp2
      go_ret
      exact ⟨ret_bool (by rw [← HE.out]; simp [btw, h0, h1]), rfl⟩
  · clear e
    go_enter Try.func87, Try.ntmps87
    go_wp2
    go_ret
    exact ⟨ret_bool (by rw [← HE.out]; simp [btw]; omega), rfl⟩
set_option maxHeartbeats 1000000 in
theorem rfour_at (s : Bool) (h l : Int) {b : Bool} (e : foB s h l = b) (w : World) :
    Calls Try.prog 88 #[adr s h l] w fun e w' => e = .returned (.bool b) ∧ Below w.heap.size w w' := by
  obtain ⟨V1, hV1⟩ : ∃ v, vld s h l = v := ⟨_, rfl⟩
  have hR : b = (!s && V1) := by rw [← e, ← hV1]; cases s <;> simp [foB, vld]
  have HR := Lib.hid hR
  have H1 := Lib.hid (fun W => rvalid_at s h l W hV1)
  have K0 := Lib.hid (Blk.new w 25 #[.bool s, .int .u64 h, .int .u64 l])
  have L0 := Lib.hid ((Below.refl _ w).alloc (Nat.le_refl _) (.cells #[.bool s, .int .u64 h, .int .u64 l] 25))
  clear hR hV1 e
  cases V1 <;> cases s
  all_goals
    obtain ⟨f1, f2, f3⟩ := K0.out.c3
    go_enter Try.func88, Try.ntmps88
    go_wp2_with fail
    refine Calls.mono (H1.out _) ?_
    rintro e w1 ⟨rfl, hb⟩
    have L1 := Lib.hid (L0.out.trans (hb.mono L0.out.size))
    have K1 := Lib.hid (K0.out.below hb K0.out.lt)
    clear hb f1 f2 f3
    obtain ⟨f1, f2, f3⟩ := K1.out.c3
    go_wp2
    go_ret
    exact ⟨ret_bool (by rw [HR.out]; simp), L1.out⟩
theorem eO_yes {l : List UInt8} (h : (opn l).isSome = true) : eO (opn l) = 0 := by
  cases hh : opn l with
  | none => rw [hh] at h; cases h
  | some _ => rfl
theorem eO_no {l : List UInt8} (h : (opn l).isSome = false) : eO (opn l) = 50 := by
  cases hh : opn l with
  | none => rfl
  | some _ => rw [hh] at h; cases h

set_option maxRecDepth 100000 in
set_option maxHeartbeats 4000000 in
theorem rr_0_0 (p : Pk) (hs : p.o.size ≤ 4398046511104) (c0 : btw p.tos 255 = false) (e0 : foB p.s p.h p.l = false) (w : World) :
    Calls Try.prog 69 #[p.val] w fun e w' => e = .returned (.bool false) ∧ Below w.heap.size w w' := by
  have HO := Lib.hid (fun W => out_ro (ropt_any p.o hs W))
  obtain ⟨E, hE⟩ : ∃ E, eO (opn p.o.data.toList) = E := ⟨_, rfl⟩
  rw [hE] at HO
  clear hE
  obtain ⟨n, hn⟩ : ∃ n, ((opn p.o.data.toList).getD []).length = n := ⟨_, rfl⟩
  rw [hn] at HO
  clear hn
  have N0 := Lib.hid (fun W => rbetween_at p.tos 255 c0 W)
  have F0 := Lib.hid (fun W => rfour_at p.s p.h p.l e0 W)
  have K0 := Blk.new w 27 (fcs p)
  have L0 := Lib.hid ((Below.refl _ w).alloc (Nat.le_refl _) (.cells (fcs p) 27))
  clear hs c0 e0
  obtain ⟨f0, f1, f2, f3, f4, f5, f6, f7, f8, f9, f10, f11, f12, f13, f14⟩ := K0.f15
  have HK0 := Lib.hid K0
  clear K0
  go_enter Try.func69, Try.ntmps69
  go_wp2_with fail
  refine Calls.mono (HO.out _) ?_
  rintro e v1 ⟨A, c, rfl, -, hb⟩
  have HK1 := Lib.hid (HK0.out.below hb HK0.out.lt)
  have L1 := Lib.hid (L0.out.trans (hb.mono L0.out.size))
  clear hb f0 f1 f2 f3 f4 f5 f6 f7 f8 f9 f10 f11 f12 f13 f14
  obtain ⟨f0, f1, f2, f3, f4, f5, f6, f7, f8, f9, f10, f11, f12, f13, f14⟩ := HK1.out.f15
  go_wp2_with fail
  refine Calls.mono (N0.out _) ?_
  rintro e w1 ⟨rfl, rfl⟩
  go_wp2_with fail
  refine Calls.mono (F0.out _) ?_
  rintro e v2 ⟨rfl, hb⟩
  have HK2 := Lib.hid (HK1.out.below hb HK1.out.lt)
  have L2 := Lib.hid (L1.out.trans (hb.mono L1.out.size))
  clear hb f0 f1 f2 f3 f4 f5 f6 f7 f8 f9 f10 f11 f12 f13 f14
  obtain ⟨f0, f1, f2, f3, f4, f5, f6, f7, f8, f9, f10, f11, f12, f13, f14⟩ := HK2.out.f15
  go_wp2
  go_ret
  exact ⟨rfl, L2.out⟩
set_option maxRecDepth 100000 in
set_option maxHeartbeats 4000000 in
theorem rr_0_1 (p : Pk) (hs : p.o.size ≤ 4398046511104) (c0 : btw p.tos 255 = false) (e0 : foB p.s p.h p.l = true) (e1 : foB p.s' p.h' p.l' = false) (w : World) :
    Calls Try.prog 69 #[p.val] w fun e w' => e = .returned (.bool false) ∧ Below w.heap.size w w' := by
  have HO := Lib.hid (fun W => out_ro (ropt_any p.o hs W))
  obtain ⟨E, hE⟩ : ∃ E, eO (opn p.o.data.toList) = E := ⟨_, rfl⟩
  rw [hE] at HO
  clear hE
  obtain ⟨n, hn⟩ : ∃ n, ((opn p.o.data.toList).getD []).length = n := ⟨_, rfl⟩
  rw [hn] at HO
  clear hn
  have N0 := Lib.hid (fun W => rbetween_at p.tos 255 c0 W)
  have F0 := Lib.hid (fun W => rfour_at p.s p.h p.l e0 W)
  have F1 := Lib.hid (fun W => rfour_at p.s' p.h' p.l' e1 W)
  have K0 := Blk.new w 27 (fcs p)
  have L0 := Lib.hid ((Below.refl _ w).alloc (Nat.le_refl _) (.cells (fcs p) 27))
  clear hs c0 e0 e1
  obtain ⟨f0, f1, f2, f3, f4, f5, f6, f7, f8, f9, f10, f11, f12, f13, f14⟩ := K0.f15
  have HK0 := Lib.hid K0
  clear K0
  go_enter Try.func69, Try.ntmps69
  go_wp2_with fail
  refine Calls.mono (HO.out _) ?_
  rintro e v1 ⟨A, c, rfl, -, hb⟩
  have HK1 := Lib.hid (HK0.out.below hb HK0.out.lt)
  have L1 := Lib.hid (L0.out.trans (hb.mono L0.out.size))
  clear hb f0 f1 f2 f3 f4 f5 f6 f7 f8 f9 f10 f11 f12 f13 f14
  obtain ⟨f0, f1, f2, f3, f4, f5, f6, f7, f8, f9, f10, f11, f12, f13, f14⟩ := HK1.out.f15
  go_wp2_with fail
  refine Calls.mono (N0.out _) ?_
  rintro e w1 ⟨rfl, rfl⟩
  go_wp2_with fail
  refine Calls.mono (F0.out _) ?_
  rintro e v2 ⟨rfl, hb⟩
  have HK2 := Lib.hid (HK1.out.below hb HK1.out.lt)
  have L2 := Lib.hid (L1.out.trans (hb.mono L1.out.size))
  clear hb f0 f1 f2 f3 f4 f5 f6 f7 f8 f9 f10 f11 f12 f13 f14
  obtain ⟨f0, f1, f2, f3, f4, f5, f6, f7, f8, f9, f10, f11, f12, f13, f14⟩ := HK2.out.f15
  go_wp2_with fail
  refine Calls.mono (F1.out _) ?_
  rintro e v3 ⟨rfl, hb⟩
  have HK3 := Lib.hid (HK2.out.below hb HK2.out.lt)
  have L3 := Lib.hid (L2.out.trans (hb.mono L2.out.size))
  clear hb f0 f1 f2 f3 f4 f5 f6 f7 f8 f9 f10 f11 f12 f13 f14
  obtain ⟨f0, f1, f2, f3, f4, f5, f6, f7, f8, f9, f10, f11, f12, f13, f14⟩ := HK3.out.f15
  go_wp2
  go_ret
  exact ⟨rfl, L3.out⟩
set_option maxRecDepth 100000 in
set_option maxHeartbeats 4000000 in
theorem rr_0_2 (p : Pk) (hs : p.o.size ≤ 4398046511104) (c0 : btw p.tos 255 = false) (e0 : foB p.s p.h p.l = true) (e1 : foB p.s' p.h' p.l' = true) (w : World) :
    Calls Try.prog 69 #[p.val] w fun e w' => e = .returned (.bool false) ∧ Below w.heap.size w w' := by
  have HO := Lib.hid (fun W => out_ro (ropt_any p.o hs W))
  obtain ⟨E, hE⟩ : ∃ E, eO (opn p.o.data.toList) = E := ⟨_, rfl⟩
  rw [hE] at HO
  clear hE
  obtain ⟨n, hn⟩ : ∃ n, ((opn p.o.data.toList).getD []).length = n := ⟨_, rfl⟩
  rw [hn] at HO
  clear hn
  have N0 := Lib.hid (fun W => rbetween_at p.tos 255 c0 W)
  have F0 := Lib.hid (fun W => rfour_at p.s p.h p.l e0 W)
  have F1 := Lib.hid (fun W => rfour_at p.s' p.h' p.l' e1 W)
  have K0 := Blk.new w 27 (fcs p)
  have L0 := Lib.hid ((Below.refl _ w).alloc (Nat.le_refl _) (.cells (fcs p) 27))
  clear hs c0 e0 e1
  obtain ⟨f0, f1, f2, f3, f4, f5, f6, f7, f8, f9, f10, f11, f12, f13, f14⟩ := K0.f15
  have HK0 := Lib.hid K0
  clear K0
  go_enter Try.func69, Try.ntmps69
  go_wp2_with fail
  refine Calls.mono (HO.out _) ?_
  rintro e v1 ⟨A, c, rfl, -, hb⟩
  have HK1 := Lib.hid (HK0.out.below hb HK0.out.lt)
  have L1 := Lib.hid (L0.out.trans (hb.mono L0.out.size))
  clear hb f0 f1 f2 f3 f4 f5 f6 f7 f8 f9 f10 f11 f12 f13 f14
  obtain ⟨f0, f1, f2, f3, f4, f5, f6, f7, f8, f9, f10, f11, f12, f13, f14⟩ := HK1.out.f15
  go_wp2_with fail
  refine Calls.mono (N0.out _) ?_
  rintro e w1 ⟨rfl, rfl⟩
  go_wp2_with fail
  refine Calls.mono (F0.out _) ?_
  rintro e v2 ⟨rfl, hb⟩
  have HK2 := Lib.hid (HK1.out.below hb HK1.out.lt)
  have L2 := Lib.hid (L1.out.trans (hb.mono L1.out.size))
  clear hb f0 f1 f2 f3 f4 f5 f6 f7 f8 f9 f10 f11 f12 f13 f14
  obtain ⟨f0, f1, f2, f3, f4, f5, f6, f7, f8, f9, f10, f11, f12, f13, f14⟩ := HK2.out.f15
  go_wp2_with fail
  refine Calls.mono (F1.out _) ?_
  rintro e v3 ⟨rfl, hb⟩
  have HK3 := Lib.hid (HK2.out.below hb HK2.out.lt)
  have L3 := Lib.hid (L2.out.trans (hb.mono L2.out.size))
  clear hb f0 f1 f2 f3 f4 f5 f6 f7 f8 f9 f10 f11 f12 f13 f14
  obtain ⟨f0, f1, f2, f3, f4, f5, f6, f7, f8, f9, f10, f11, f12, f13, f14⟩ := HK3.out.f15
  go_wp2
  go_ret
  exact ⟨rfl, L3.out⟩
set_option maxRecDepth 100000 in
set_option maxHeartbeats 4000000 in
theorem rr_1_0 (p : Pk) (hs : p.o.size ≤ 4398046511104) (c0 : btw p.tos 255 = true) (c1 : btw p.ttl 255 = false) (e0 : foB p.s p.h p.l = false) (w : World) :
    Calls Try.prog 69 #[p.val] w fun e w' => e = .returned (.bool false) ∧ Below w.heap.size w w' := by
  have HO := Lib.hid (fun W => out_ro (ropt_any p.o hs W))
  obtain ⟨E, hE⟩ : ∃ E, eO (opn p.o.data.toList) = E := ⟨_, rfl⟩
  rw [hE] at HO
  clear hE
  obtain ⟨n, hn⟩ : ∃ n, ((opn p.o.data.toList).getD []).length = n := ⟨_, rfl⟩
  rw [hn] at HO
  clear hn
  have N0 := Lib.hid (fun W => rbetween_at p.tos 255 c0 W)
  have N1 := Lib.hid (fun W => rbetween_at p.ttl 255 c1 W)
  have F0 := Lib.hid (fun W => rfour_at p.s p.h p.l e0 W)
  have K0 := Blk.new w 27 (fcs p)
  have L0 := Lib.hid ((Below.refl _ w).alloc (Nat.le_refl _) (.cells (fcs p) 27))
  clear hs c0 c1 e0
  obtain ⟨f0, f1, f2, f3, f4, f5, f6, f7, f8, f9, f10, f11, f12, f13, f14⟩ := K0.f15
  have HK0 := Lib.hid K0
  clear K0
  go_enter Try.func69, Try.ntmps69
  go_wp2_with fail
  refine Calls.mono (HO.out _) ?_
  rintro e v1 ⟨A, c, rfl, -, hb⟩
  have HK1 := Lib.hid (HK0.out.below hb HK0.out.lt)
  have L1 := Lib.hid (L0.out.trans (hb.mono L0.out.size))
  clear hb f0 f1 f2 f3 f4 f5 f6 f7 f8 f9 f10 f11 f12 f13 f14
  obtain ⟨f0, f1, f2, f3, f4, f5, f6, f7, f8, f9, f10, f11, f12, f13, f14⟩ := HK1.out.f15
  go_wp2_with fail
  refine Calls.mono (N0.out _) ?_
  rintro e w1 ⟨rfl, rfl⟩
  go_wp2_with fail
  refine Calls.mono (N1.out _) ?_
  rintro e w1 ⟨rfl, rfl⟩
  go_wp2_with fail
  refine Calls.mono (F0.out _) ?_
  rintro e v2 ⟨rfl, hb⟩
  have HK2 := Lib.hid (HK1.out.below hb HK1.out.lt)
  have L2 := Lib.hid (L1.out.trans (hb.mono L1.out.size))
  clear hb f0 f1 f2 f3 f4 f5 f6 f7 f8 f9 f10 f11 f12 f13 f14
  obtain ⟨f0, f1, f2, f3, f4, f5, f6, f7, f8, f9, f10, f11, f12, f13, f14⟩ := HK2.out.f15
  go_wp2
  go_ret
  exact ⟨rfl, L2.out⟩
set_option maxRecDepth 100000 in
set_option maxHeartbeats 4000000 in
theorem rr_1_1 (p : Pk) (hs : p.o.size ≤ 4398046511104) (c0 : btw p.tos 255 = true) (c1 : btw p.ttl 255 = false) (e0 : foB p.s p.h p.l = true) (e1 : foB p.s' p.h' p.l' = false) (w : World) :
    Calls Try.prog 69 #[p.val] w fun e w' => e = .returned (.bool false) ∧ Below w.heap.size w w' := by
  have HO := Lib.hid (fun W => out_ro (ropt_any p.o hs W))
  obtain ⟨E, hE⟩ : ∃ E, eO (opn p.o.data.toList) = E := ⟨_, rfl⟩
  rw [hE] at HO
  clear hE
  obtain ⟨n, hn⟩ : ∃ n, ((opn p.o.data.toList).getD []).length = n := ⟨_, rfl⟩
  rw [hn] at HO
  clear hn
  have N0 := Lib.hid (fun W => rbetween_at p.tos 255 c0 W)
  have N1 := Lib.hid (fun W => rbetween_at p.ttl 255 c1 W)
  have F0 := Lib.hid (fun W => rfour_at p.s p.h p.l e0 W)
  have F1 := Lib.hid (fun W => rfour_at p.s' p.h' p.l' e1 W)
  have K0 := Blk.new w 27 (fcs p)
  have L0 := Lib.hid ((Below.refl _ w).alloc (Nat.le_refl _) (.cells (fcs p) 27))
  clear hs c0 c1 e0 e1
  obtain ⟨f0, f1, f2, f3, f4, f5, f6, f7, f8, f9, f10, f11, f12, f13, f14⟩ := K0.f15
  have HK0 := Lib.hid K0
  clear K0
  go_enter Try.func69, Try.ntmps69
  go_wp2_with fail
  refine Calls.mono (HO.out _) ?_
  rintro e v1 ⟨A, c, rfl, -, hb⟩
  have HK1 := Lib.hid (HK0.out.below hb HK0.out.lt)
  have L1 := Lib.hid (L0.out.trans (hb.mono L0.out.size))
  clear hb f0 f1 f2 f3 f4 f5 f6 f7 f8 f9 f10 f11 f12 f13 f14
  obtain ⟨f0, f1, f2, f3, f4, f5, f6, f7, f8, f9, f10, f11, f12, f13, f14⟩ := HK1.out.f15
  go_wp2_with fail
  refine Calls.mono (N0.out _) ?_
  rintro e w1 ⟨rfl, rfl⟩
  go_wp2_with fail
  refine Calls.mono (N1.out _) ?_
  rintro e w1 ⟨rfl, rfl⟩
  go_wp2_with fail
  refine Calls.mono (F0.out _) ?_
  rintro e v2 ⟨rfl, hb⟩
  have HK2 := Lib.hid (HK1.out.below hb HK1.out.lt)
  have L2 := Lib.hid (L1.out.trans (hb.mono L1.out.size))
  clear hb f0 f1 f2 f3 f4 f5 f6 f7 f8 f9 f10 f11 f12 f13 f14
  obtain ⟨f0, f1, f2, f3, f4, f5, f6, f7, f8, f9, f10, f11, f12, f13, f14⟩ := HK2.out.f15
  go_wp2_with fail
  refine Calls.mono (F1.out _) ?_
  rintro e v3 ⟨rfl, hb⟩
  have HK3 := Lib.hid (HK2.out.below hb HK2.out.lt)
  have L3 := Lib.hid (L2.out.trans (hb.mono L2.out.size))
  clear hb f0 f1 f2 f3 f4 f5 f6 f7 f8 f9 f10 f11 f12 f13 f14
  obtain ⟨f0, f1, f2, f3, f4, f5, f6, f7, f8, f9, f10, f11, f12, f13, f14⟩ := HK3.out.f15
  go_wp2
  go_ret
  exact ⟨rfl, L3.out⟩
set_option maxRecDepth 100000 in
set_option maxHeartbeats 4000000 in
theorem rr_1_2 (p : Pk) (hs : p.o.size ≤ 4398046511104) (c0 : btw p.tos 255 = true) (c1 : btw p.ttl 255 = false) (e0 : foB p.s p.h p.l = true) (e1 : foB p.s' p.h' p.l' = true) (w : World) :
    Calls Try.prog 69 #[p.val] w fun e w' => e = .returned (.bool false) ∧ Below w.heap.size w w' := by
  have HO := Lib.hid (fun W => out_ro (ropt_any p.o hs W))
  obtain ⟨E, hE⟩ : ∃ E, eO (opn p.o.data.toList) = E := ⟨_, rfl⟩
  rw [hE] at HO
  clear hE
  obtain ⟨n, hn⟩ : ∃ n, ((opn p.o.data.toList).getD []).length = n := ⟨_, rfl⟩
  rw [hn] at HO
  clear hn
  have N0 := Lib.hid (fun W => rbetween_at p.tos 255 c0 W)
  have N1 := Lib.hid (fun W => rbetween_at p.ttl 255 c1 W)
  have F0 := Lib.hid (fun W => rfour_at p.s p.h p.l e0 W)
  have F1 := Lib.hid (fun W => rfour_at p.s' p.h' p.l' e1 W)
  have K0 := Blk.new w 27 (fcs p)
  have L0 := Lib.hid ((Below.refl _ w).alloc (Nat.le_refl _) (.cells (fcs p) 27))
  clear hs c0 c1 e0 e1
  obtain ⟨f0, f1, f2, f3, f4, f5, f6, f7, f8, f9, f10, f11, f12, f13, f14⟩ := K0.f15
  have HK0 := Lib.hid K0
  clear K0
  go_enter Try.func69, Try.ntmps69
  go_wp2_with fail
  refine Calls.mono (HO.out _) ?_
  rintro e v1 ⟨A, c, rfl, -, hb⟩
  have HK1 := Lib.hid (HK0.out.below hb HK0.out.lt)
  have L1 := Lib.hid (L0.out.trans (hb.mono L0.out.size))
  clear hb f0 f1 f2 f3 f4 f5 f6 f7 f8 f9 f10 f11 f12 f13 f14
  obtain ⟨f0, f1, f2, f3, f4, f5, f6, f7, f8, f9, f10, f11, f12, f13, f14⟩ := HK1.out.f15
  go_wp2_with fail
  refine Calls.mono (N0.out _) ?_
  rintro e w1 ⟨rfl, rfl⟩
  go_wp2_with fail
  refine Calls.mono (N1.out _) ?_
  rintro e w1 ⟨rfl, rfl⟩
  go_wp2_with fail
  refine Calls.mono (F0.out _) ?_
  rintro e v2 ⟨rfl, hb⟩
  have HK2 := Lib.hid (HK1.out.below hb HK1.out.lt)
  have L2 := Lib.hid (L1.out.trans (hb.mono L1.out.size))
  clear hb f0 f1 f2 f3 f4 f5 f6 f7 f8 f9 f10 f11 f12 f13 f14
  obtain ⟨f0, f1, f2, f3, f4, f5, f6, f7, f8, f9, f10, f11, f12, f13, f14⟩ := HK2.out.f15
  go_wp2_with fail
  refine Calls.mono (F1.out _) ?_
  rintro e v3 ⟨rfl, hb⟩
  have HK3 := Lib.hid (HK2.out.below hb HK2.out.lt)
  have L3 := Lib.hid (L2.out.trans (hb.mono L2.out.size))
  clear hb f0 f1 f2 f3 f4 f5 f6 f7 f8 f9 f10 f11 f12 f13 f14
  obtain ⟨f0, f1, f2, f3, f4, f5, f6, f7, f8, f9, f10, f11, f12, f13, f14⟩ := HK3.out.f15
  go_wp2
  go_ret
  exact ⟨rfl, L3.out⟩
set_option maxRecDepth 100000 in
set_option maxHeartbeats 4000000 in
theorem rr_2_0 (p : Pk) (hs : p.o.size ≤ 4398046511104) (c0 : btw p.tos 255 = true) (c1 : btw p.ttl 255 = true) (c2 : btw p.pro 255 = false) (e0 : foB p.s p.h p.l = false) (w : World) :
    Calls Try.prog 69 #[p.val] w fun e w' => e = .returned (.bool false) ∧ Below w.heap.size w w' := by
  have HO := Lib.hid (fun W => out_ro (ropt_any p.o hs W))
  obtain ⟨E, hE⟩ : ∃ E, eO (opn p.o.data.toList) = E := ⟨_, rfl⟩
  rw [hE] at HO
  clear hE
  obtain ⟨n, hn⟩ : ∃ n, ((opn p.o.data.toList).getD []).length = n := ⟨_, rfl⟩
  rw [hn] at HO
  clear hn
  have N0 := Lib.hid (fun W => rbetween_at p.tos 255 c0 W)
  have N1 := Lib.hid (fun W => rbetween_at p.ttl 255 c1 W)
  have N2 := Lib.hid (fun W => rbetween_at p.pro 255 c2 W)
  have F0 := Lib.hid (fun W => rfour_at p.s p.h p.l e0 W)
  have K0 := Blk.new w 27 (fcs p)
  have L0 := Lib.hid ((Below.refl _ w).alloc (Nat.le_refl _) (.cells (fcs p) 27))
  clear hs c0 c1 c2 e0
  obtain ⟨f0, f1, f2, f3, f4, f5, f6, f7, f8, f9, f10, f11, f12, f13, f14⟩ := K0.f15
  have HK0 := Lib.hid K0
  clear K0
  go_enter Try.func69, Try.ntmps69
  go_wp2_with fail
  refine Calls.mono (HO.out _) ?_
  rintro e v1 ⟨A, c, rfl, -, hb⟩
  have HK1 := Lib.hid (HK0.out.below hb HK0.out.lt)
  have L1 := Lib.hid (L0.out.trans (hb.mono L0.out.size))
  clear hb f0 f1 f2 f3 f4 f5 f6 f7 f8 f9 f10 f11 f12 f13 f14
  obtain ⟨f0, f1, f2, f3, f4, f5, f6, f7, f8, f9, f10, f11, f12, f13, f14⟩ := HK1.out.f15
  go_wp2_with fail
  refine Calls.mono (N0.out _) ?_
  rintro e w1 ⟨rfl, rfl⟩
  go_wp2_with fail
  refine Calls.mono (N1.out _) ?_
  rintro e w1 ⟨rfl, rfl⟩
  go_wp2_with fail
  refine Calls.mono (N2.out _) ?_
  rintro e w1 ⟨rfl, rfl⟩
  go_wp2_with fail
  refine Calls.mono (F0.out _) ?_
  rintro e v2 ⟨rfl, hb⟩
  have HK2 := Lib.hid (HK1.out.below hb HK1.out.lt)
  have L2 := Lib.hid (L1.out.trans (hb.mono L1.out.size))
  clear hb f0 f1 f2 f3 f4 f5 f6 f7 f8 f9 f10 f11 f12 f13 f14
  obtain ⟨f0, f1, f2, f3, f4, f5, f6, f7, f8, f9, f10, f11, f12, f13, f14⟩ := HK2.out.f15
  go_wp2
  go_ret
  exact ⟨rfl, L2.out⟩
set_option maxRecDepth 100000 in
set_option maxHeartbeats 4000000 in
theorem rr_2_1 (p : Pk) (hs : p.o.size ≤ 4398046511104) (c0 : btw p.tos 255 = true) (c1 : btw p.ttl 255 = true) (c2 : btw p.pro 255 = false) (e0 : foB p.s p.h p.l = true) (e1 : foB p.s' p.h' p.l' = false) (w : World) :
    Calls Try.prog 69 #[p.val] w fun e w' => e = .returned (.bool false) ∧ Below w.heap.size w w' := by
  have HO := Lib.hid (fun W => out_ro (ropt_any p.o hs W))
  obtain ⟨E, hE⟩ : ∃ E, eO (opn p.o.data.toList) = E := ⟨_, rfl⟩
  rw [hE] at HO
  clear hE
  obtain ⟨n, hn⟩ : ∃ n, ((opn p.o.data.toList).getD []).length = n := ⟨_, rfl⟩
  rw [hn] at HO
  clear hn
  have N0 := Lib.hid (fun W => rbetween_at p.tos 255 c0 W)
  have N1 := Lib.hid (fun W => rbetween_at p.ttl 255 c1 W)
  have N2 := Lib.hid (fun W => rbetween_at p.pro 255 c2 W)
  have F0 := Lib.hid (fun W => rfour_at p.s p.h p.l e0 W)
  have F1 := Lib.hid (fun W => rfour_at p.s' p.h' p.l' e1 W)
  have K0 := Blk.new w 27 (fcs p)
  have L0 := Lib.hid ((Below.refl _ w).alloc (Nat.le_refl _) (.cells (fcs p) 27))
  clear hs c0 c1 c2 e0 e1
  obtain ⟨f0, f1, f2, f3, f4, f5, f6, f7, f8, f9, f10, f11, f12, f13, f14⟩ := K0.f15
  have HK0 := Lib.hid K0
  clear K0
  go_enter Try.func69, Try.ntmps69
  go_wp2_with fail
  refine Calls.mono (HO.out _) ?_
  rintro e v1 ⟨A, c, rfl, -, hb⟩
  have HK1 := Lib.hid (HK0.out.below hb HK0.out.lt)
  have L1 := Lib.hid (L0.out.trans (hb.mono L0.out.size))
  clear hb f0 f1 f2 f3 f4 f5 f6 f7 f8 f9 f10 f11 f12 f13 f14
  obtain ⟨f0, f1, f2, f3, f4, f5, f6, f7, f8, f9, f10, f11, f12, f13, f14⟩ := HK1.out.f15
  go_wp2_with fail
  refine Calls.mono (N0.out _) ?_
  rintro e w1 ⟨rfl, rfl⟩
  go_wp2_with fail
  refine Calls.mono (N1.out _) ?_
  rintro e w1 ⟨rfl, rfl⟩
  go_wp2_with fail
  refine Calls.mono (N2.out _) ?_
  rintro e w1 ⟨rfl, rfl⟩
  go_wp2_with fail
  refine Calls.mono (F0.out _) ?_
  rintro e v2 ⟨rfl, hb⟩
  have HK2 := Lib.hid (HK1.out.below hb HK1.out.lt)
  have L2 := Lib.hid (L1.out.trans (hb.mono L1.out.size))
  clear hb f0 f1 f2 f3 f4 f5 f6 f7 f8 f9 f10 f11 f12 f13 f14
  obtain ⟨f0, f1, f2, f3, f4, f5, f6, f7, f8, f9, f10, f11, f12, f13, f14⟩ := HK2.out.f15
  go_wp2_with fail
  refine Calls.mono (F1.out _) ?_
  rintro e v3 ⟨rfl, hb⟩
  have HK3 := Lib.hid (HK2.out.below hb HK2.out.lt)
  have L3 := Lib.hid (L2.out.trans (hb.mono L2.out.size))
  clear hb f0 f1 f2 f3 f4 f5 f6 f7 f8 f9 f10 f11 f12 f13 f14
  obtain ⟨f0, f1, f2, f3, f4, f5, f6, f7, f8, f9, f10, f11, f12, f13, f14⟩ := HK3.out.f15
  go_wp2
  go_ret
  exact ⟨rfl, L3.out⟩
set_option maxRecDepth 100000 in
set_option maxHeartbeats 4000000 in
theorem rr_2_2 (p : Pk) (hs : p.o.size ≤ 4398046511104) (c0 : btw p.tos 255 = true) (c1 : btw p.ttl 255 = true) (c2 : btw p.pro 255 = false) (e0 : foB p.s p.h p.l = true) (e1 : foB p.s' p.h' p.l' = true) (w : World) :
    Calls Try.prog 69 #[p.val] w fun e w' => e = .returned (.bool false) ∧ Below w.heap.size w w' := by
  have HO := Lib.hid (fun W => out_ro (ropt_any p.o hs W))
  obtain ⟨E, hE⟩ : ∃ E, eO (opn p.o.data.toList) = E := ⟨_, rfl⟩
  rw [hE] at HO
  clear hE
  obtain ⟨n, hn⟩ : ∃ n, ((opn p.o.data.toList).getD []).length = n := ⟨_, rfl⟩
  rw [hn] at HO
  clear hn
  have N0 := Lib.hid (fun W => rbetween_at p.tos 255 c0 W)
  have N1 := Lib.hid (fun W => rbetween_at p.ttl 255 c1 W)
  have N2 := Lib.hid (fun W => rbetween_at p.pro 255 c2 W)
  have F0 := Lib.hid (fun W => rfour_at p.s p.h p.l e0 W)
  have F1 := Lib.hid (fun W => rfour_at p.s' p.h' p.l' e1 W)
  have K0 := Blk.new w 27 (fcs p)
  have L0 := Lib.hid ((Below.refl _ w).alloc (Nat.le_refl _) (.cells (fcs p) 27))
  clear hs c0 c1 c2 e0 e1
  obtain ⟨f0, f1, f2, f3, f4, f5, f6, f7, f8, f9, f10, f11, f12, f13, f14⟩ := K0.f15
  have HK0 := Lib.hid K0
  clear K0
  go_enter Try.func69, Try.ntmps69
  go_wp2_with fail
  refine Calls.mono (HO.out _) ?_
  rintro e v1 ⟨A, c, rfl, -, hb⟩
  have HK1 := Lib.hid (HK0.out.below hb HK0.out.lt)
  have L1 := Lib.hid (L0.out.trans (hb.mono L0.out.size))
  clear hb f0 f1 f2 f3 f4 f5 f6 f7 f8 f9 f10 f11 f12 f13 f14
  obtain ⟨f0, f1, f2, f3, f4, f5, f6, f7, f8, f9, f10, f11, f12, f13, f14⟩ := HK1.out.f15
  go_wp2_with fail
  refine Calls.mono (N0.out _) ?_
  rintro e w1 ⟨rfl, rfl⟩
  go_wp2_with fail
  refine Calls.mono (N1.out _) ?_
  rintro e w1 ⟨rfl, rfl⟩
  go_wp2_with fail
  refine Calls.mono (N2.out _) ?_
  rintro e w1 ⟨rfl, rfl⟩
  go_wp2_with fail
  refine Calls.mono (F0.out _) ?_
  rintro e v2 ⟨rfl, hb⟩
  have HK2 := Lib.hid (HK1.out.below hb HK1.out.lt)
  have L2 := Lib.hid (L1.out.trans (hb.mono L1.out.size))
  clear hb f0 f1 f2 f3 f4 f5 f6 f7 f8 f9 f10 f11 f12 f13 f14
  obtain ⟨f0, f1, f2, f3, f4, f5, f6, f7, f8, f9, f10, f11, f12, f13, f14⟩ := HK2.out.f15
  go_wp2_with fail
  refine Calls.mono (F1.out _) ?_
  rintro e v3 ⟨rfl, hb⟩
  have HK3 := Lib.hid (HK2.out.below hb HK2.out.lt)
  have L3 := Lib.hid (L2.out.trans (hb.mono L2.out.size))
  clear hb f0 f1 f2 f3 f4 f5 f6 f7 f8 f9 f10 f11 f12 f13 f14
  obtain ⟨f0, f1, f2, f3, f4, f5, f6, f7, f8, f9, f10, f11, f12, f13, f14⟩ := HK3.out.f15
  go_wp2
  go_ret
  exact ⟨rfl, L3.out⟩
set_option maxRecDepth 100000 in
set_option maxHeartbeats 4000000 in
theorem rr_3_0 (p : Pk) (hs : p.o.size ≤ 4398046511104) (c0 : btw p.tos 255 = true) (c1 : btw p.ttl 255 = true) (c2 : btw p.pro 255 = true) (c3 : btw p.id 65535 = false) (e0 : foB p.s p.h p.l = false) (w : World) :
    Calls Try.prog 69 #[p.val] w fun e w' => e = .returned (.bool false) ∧ Below w.heap.size w w' := by
  have HO := Lib.hid (fun W => out_ro (ropt_any p.o hs W))
  obtain ⟨E, hE⟩ : ∃ E, eO (opn p.o.data.toList) = E := ⟨_, rfl⟩
  rw [hE] at HO
  clear hE
  obtain ⟨n, hn⟩ : ∃ n, ((opn p.o.data.toList).getD []).length = n := ⟨_, rfl⟩
  rw [hn] at HO
  clear hn
  have N0 := Lib.hid (fun W => rbetween_at p.tos 255 c0 W)
  have N1 := Lib.hid (fun W => rbetween_at p.ttl 255 c1 W)
  have N2 := Lib.hid (fun W => rbetween_at p.pro 255 c2 W)
  have N3 := Lib.hid (fun W => rbetween_at p.id 65535 c3 W)
  have F0 := Lib.hid (fun W => rfour_at p.s p.h p.l e0 W)
  have K0 := Blk.new w 27 (fcs p)
  have L0 := Lib.hid ((Below.refl _ w).alloc (Nat.le_refl _) (.cells (fcs p) 27))
  clear hs c0 c1 c2 c3 e0
  obtain ⟨f0, f1, f2, f3, f4, f5, f6, f7, f8, f9, f10, f11, f12, f13, f14⟩ := K0.f15
  have HK0 := Lib.hid K0
  clear K0
  go_enter Try.func69, Try.ntmps69
  go_wp2_with fail
  refine Calls.mono (HO.out _) ?_
  rintro e v1 ⟨A, c, rfl, -, hb⟩
  have HK1 := Lib.hid (HK0.out.below hb HK0.out.lt)
  have L1 := Lib.hid (L0.out.trans (hb.mono L0.out.size))
  clear hb f0 f1 f2 f3 f4 f5 f6 f7 f8 f9 f10 f11 f12 f13 f14
  obtain ⟨f0, f1, f2, f3, f4, f5, f6, f7, f8, f9, f10, f11, f12, f13, f14⟩ := HK1.out.f15
  go_wp2_with fail
  refine Calls.mono (N0.out _) ?_
  rintro e w1 ⟨rfl, rfl⟩
  go_wp2_with fail
  refine Calls.mono (N1.out _) ?_
  rintro e w1 ⟨rfl, rfl⟩
  go_wp2_with fail
  refine Calls.mono (N2.out _) ?_
  rintro e w1 ⟨rfl, rfl⟩
  go_wp2_with fail
  refine Calls.mono (N3.out _) ?_
  rintro e w1 ⟨rfl, rfl⟩
  go_wp2_with fail
  refine Calls.mono (F0.out _) ?_
  rintro e v2 ⟨rfl, hb⟩
  have HK2 := Lib.hid (HK1.out.below hb HK1.out.lt)
  have L2 := Lib.hid (L1.out.trans (hb.mono L1.out.size))
  clear hb f0 f1 f2 f3 f4 f5 f6 f7 f8 f9 f10 f11 f12 f13 f14
  obtain ⟨f0, f1, f2, f3, f4, f5, f6, f7, f8, f9, f10, f11, f12, f13, f14⟩ := HK2.out.f15
  go_wp2
  go_ret
  exact ⟨rfl, L2.out⟩
set_option maxRecDepth 100000 in
set_option maxHeartbeats 4000000 in
theorem rr_3_1 (p : Pk) (hs : p.o.size ≤ 4398046511104) (c0 : btw p.tos 255 = true) (c1 : btw p.ttl 255 = true) (c2 : btw p.pro 255 = true) (c3 : btw p.id 65535 = false) (e0 : foB p.s p.h p.l = true) (e1 : foB p.s' p.h' p.l' = false) (w : World) :
    Calls Try.prog 69 #[p.val] w fun e w' => e = .returned (.bool false) ∧ Below w.heap.size w w' := by
  have HO := Lib.hid (fun W => out_ro (ropt_any p.o hs W))
  obtain ⟨E, hE⟩ : ∃ E, eO (opn p.o.data.toList) = E := ⟨_, rfl⟩
  rw [hE] at HO
  clear hE
  obtain ⟨n, hn⟩ : ∃ n, ((opn p.o.data.toList).getD []).length = n := ⟨_, rfl⟩
  rw [hn] at HO
  clear hn
  have N0 := Lib.hid (fun W => rbetween_at p.tos 255 c0 W)
  have N1 := Lib.hid (fun W => rbetween_at p.ttl 255 c1 W)
  have N2 := Lib.hid (fun W => rbetween_at p.pro 255 c2 W)
  have N3 := Lib.hid (fun W => rbetween_at p.id 65535 c3 W)
  have F0 := Lib.hid (fun W => rfour_at p.s p.h p.l e0 W)
  have F1 := Lib.hid (fun W => rfour_at p.s' p.h' p.l' e1 W)
  have K0 := Blk.new w 27 (fcs p)
  have L0 := Lib.hid ((Below.refl _ w).alloc (Nat.le_refl _) (.cells (fcs p) 27))
  clear hs c0 c1 c2 c3 e0 e1
  obtain ⟨f0, f1, f2, f3, f4, f5, f6, f7, f8, f9, f10, f11, f12, f13, f14⟩ := K0.f15
  have HK0 := Lib.hid K0
  clear K0
  go_enter Try.func69, Try.ntmps69
  go_wp2_with fail
  refine Calls.mono (HO.out _) ?_
  rintro e v1 ⟨A, c, rfl, -, hb⟩
  have HK1 := Lib.hid (HK0.out.below hb HK0.out.lt)
  have L1 := Lib.hid (L0.out.trans (hb.mono L0.out.size))
  clear hb f0 f1 f2 f3 f4 f5 f6 f7 f8 f9 f10 f11 f12 f13 f14
  obtain ⟨f0, f1, f2, f3, f4, f5, f6, f7, f8, f9, f10, f11, f12, f13, f14⟩ := HK1.out.f15
  go_wp2_with fail
  refine Calls.mono (N0.out _) ?_
  rintro e w1 ⟨rfl, rfl⟩
  go_wp2_with fail
  refine Calls.mono (N1.out _) ?_
  rintro e w1 ⟨rfl, rfl⟩
  go_wp2_with fail
  refine Calls.mono (N2.out _) ?_
  rintro e w1 ⟨rfl, rfl⟩
  go_wp2_with fail
  refine Calls.mono (N3.out _) ?_
  rintro e w1 ⟨rfl, rfl⟩
  go_wp2_with fail
  refine Calls.mono (F0.out _) ?_
  rintro e v2 ⟨rfl, hb⟩
  have HK2 := Lib.hid (HK1.out.below hb HK1.out.lt)
  have L2 := Lib.hid (L1.out.trans (hb.mono L1.out.size))
  clear hb f0 f1 f2 f3 f4 f5 f6 f7 f8 f9 f10 f11 f12 f13 f14
  obtain ⟨f0, f1, f2, f3, f4, f5, f6, f7, f8, f9, f10, f11, f12, f13, f14⟩ := HK2.out.f15
  go_wp2_with fail
  refine Calls.mono (F1.out _) ?_
  rintro e v3 ⟨rfl, hb⟩
  have HK3 := Lib.hid (HK2.out.below hb HK2.out.lt)
  have L3 := Lib.hid (L2.out.trans (hb.mono L2.out.size))
  clear hb f0 f1 f2 f3 f4 f5 f6 f7 f8 f9 f10 f11 f12 f13 f14
  obtain ⟨f0, f1, f2, f3, f4, f5, f6, f7, f8, f9, f10, f11, f12, f13, f14⟩ := HK3.out.f15
  go_wp2
  go_ret
  exact ⟨rfl, L3.out⟩
set_option maxRecDepth 100000 in
set_option maxHeartbeats 4000000 in
theorem rr_3_2 (p : Pk) (hs : p.o.size ≤ 4398046511104) (c0 : btw p.tos 255 = true) (c1 : btw p.ttl 255 = true) (c2 : btw p.pro 255 = true) (c3 : btw p.id 65535 = false) (e0 : foB p.s p.h p.l = true) (e1 : foB p.s' p.h' p.l' = true) (w : World) :
    Calls Try.prog 69 #[p.val] w fun e w' => e = .returned (.bool false) ∧ Below w.heap.size w w' := by
  have HO := Lib.hid (fun W => out_ro (ropt_any p.o hs W))
  obtain ⟨E, hE⟩ : ∃ E, eO (opn p.o.data.toList) = E := ⟨_, rfl⟩
  rw [hE] at HO
  clear hE
  obtain ⟨n, hn⟩ : ∃ n, ((opn p.o.data.toList).getD []).length = n := ⟨_, rfl⟩
  rw [hn] at HO
  clear hn
  have N0 := Lib.hid (fun W => rbetween_at p.tos 255 c0 W)
  have N1 := Lib.hid (fun W => rbetween_at p.ttl 255 c1 W)
  have N2 := Lib.hid (fun W => rbetween_at p.pro 255 c2 W)
  have N3 := Lib.hid (fun W => rbetween_at p.id 65535 c3 W)
  have F0 := Lib.hid (fun W => rfour_at p.s p.h p.l e0 W)
  have F1 := Lib.hid (fun W => rfour_at p.s' p.h' p.l' e1 W)
  have K0 := Blk.new w 27 (fcs p)
  have L0 := Lib.hid ((Below.refl _ w).alloc (Nat.le_refl _) (.cells (fcs p) 27))
  clear hs c0 c1 c2 c3 e0 e1
  obtain ⟨f0, f1, f2, f3, f4, f5, f6, f7, f8, f9, f10, f11, f12, f13, f14⟩ := K0.f15
  have HK0 := Lib.hid K0
  clear K0
  go_enter Try.func69, Try.ntmps69
  go_wp2_with fail
  refine Calls.mono (HO.out _) ?_
  rintro e v1 ⟨A, c, rfl, -, hb⟩
  have HK1 := Lib.hid (HK0.out.below hb HK0.out.lt)
  have L1 := Lib.hid (L0.out.trans (hb.mono L0.out.size))
  clear hb f0 f1 f2 f3 f4 f5 f6 f7 f8 f9 f10 f11 f12 f13 f14
  obtain ⟨f0, f1, f2, f3, f4, f5, f6, f7, f8, f9, f10, f11, f12, f13, f14⟩ := HK1.out.f15
  go_wp2_with fail
  refine Calls.mono (N0.out _) ?_
  rintro e w1 ⟨rfl, rfl⟩
  go_wp2_with fail
  refine Calls.mono (N1.out _) ?_
  rintro e w1 ⟨rfl, rfl⟩
  go_wp2_with fail
  refine Calls.mono (N2.out _) ?_
  rintro e w1 ⟨rfl, rfl⟩
  go_wp2_with fail
  refine Calls.mono (N3.out _) ?_
  rintro e w1 ⟨rfl, rfl⟩
  go_wp2_with fail
  refine Calls.mono (F0.out _) ?_
  rintro e v2 ⟨rfl, hb⟩
  have HK2 := Lib.hid (HK1.out.below hb HK1.out.lt)
  have L2 := Lib.hid (L1.out.trans (hb.mono L1.out.size))
  clear hb f0 f1 f2 f3 f4 f5 f6 f7 f8 f9 f10 f11 f12 f13 f14
  obtain ⟨f0, f1, f2, f3, f4, f5, f6, f7, f8, f9, f10, f11, f12, f13, f14⟩ := HK2.out.f15
  go_wp2_with fail
  refine Calls.mono (F1.out _) ?_
  rintro e v3 ⟨rfl, hb⟩
  have HK3 := Lib.hid (HK2.out.below hb HK2.out.lt)
  have L3 := Lib.hid (L2.out.trans (hb.mono L2.out.size))
  clear hb f0 f1 f2 f3 f4 f5 f6 f7 f8 f9 f10 f11 f12 f13 f14
  obtain ⟨f0, f1, f2, f3, f4, f5, f6, f7, f8, f9, f10, f11, f12, f13, f14⟩ := HK3.out.f15
  go_wp2
  go_ret
  exact ⟨rfl, L3.out⟩
set_option maxRecDepth 100000 in
set_option maxHeartbeats 4000000 in
theorem rr_4_0 (p : Pk) (hs : p.o.size ≤ 4398046511104) (c0 : btw p.tos 255 = true) (c1 : btw p.ttl 255 = true) (c2 : btw p.pro 255 = true) (c3 : btw p.id 65535 = true) (c4 : btw p.off 8191 = false) (e0 : foB p.s p.h p.l = false) (w : World) :
    Calls Try.prog 69 #[p.val] w fun e w' => e = .returned (.bool false) ∧ Below w.heap.size w w' := by
  have HO := Lib.hid (fun W => out_ro (ropt_any p.o hs W))
  obtain ⟨E, hE⟩ : ∃ E, eO (opn p.o.data.toList) = E := ⟨_, rfl⟩
  rw [hE] at HO
  clear hE
  obtain ⟨n, hn⟩ : ∃ n, ((opn p.o.data.toList).getD []).length = n := ⟨_, rfl⟩
  rw [hn] at HO
  clear hn
  have N0 := Lib.hid (fun W => rbetween_at p.tos 255 c0 W)
  have N1 := Lib.hid (fun W => rbetween_at p.ttl 255 c1 W)
  have N2 := Lib.hid (fun W => rbetween_at p.pro 255 c2 W)
  have N3 := Lib.hid (fun W => rbetween_at p.id 65535 c3 W)
  have N4 := Lib.hid (fun W => rbetween_at p.off 8191 c4 W)
  have F0 := Lib.hid (fun W => rfour_at p.s p.h p.l e0 W)
  have K0 := Blk.new w 27 (fcs p)
  have L0 := Lib.hid ((Below.refl _ w).alloc (Nat.le_refl _) (.cells (fcs p) 27))
  clear hs c0 c1 c2 c3 c4 e0
  obtain ⟨f0, f1, f2, f3, f4, f5, f6, f7, f8, f9, f10, f11, f12, f13, f14⟩ := K0.f15
  have HK0 := Lib.hid K0
  clear K0
  go_enter Try.func69, Try.ntmps69
  go_wp2_with fail
  refine Calls.mono (HO.out _) ?_
  rintro e v1 ⟨A, c, rfl, -, hb⟩
  have HK1 := Lib.hid (HK0.out.below hb HK0.out.lt)
  have L1 := Lib.hid (L0.out.trans (hb.mono L0.out.size))
  clear hb f0 f1 f2 f3 f4 f5 f6 f7 f8 f9 f10 f11 f12 f13 f14
  obtain ⟨f0, f1, f2, f3, f4, f5, f6, f7, f8, f9, f10, f11, f12, f13, f14⟩ := HK1.out.f15
  go_wp2_with fail
  refine Calls.mono (N0.out _) ?_
  rintro e w1 ⟨rfl, rfl⟩
  go_wp2_with fail
  refine Calls.mono (N1.out _) ?_
  rintro e w1 ⟨rfl, rfl⟩
  go_wp2_with fail
  refine Calls.mono (N2.out _) ?_
  rintro e w1 ⟨rfl, rfl⟩
  go_wp2_with fail
  refine Calls.mono (N3.out _) ?_
  rintro e w1 ⟨rfl, rfl⟩
  go_wp2_with fail
  refine Calls.mono (N4.out _) ?_
  rintro e w1 ⟨rfl, rfl⟩
  go_wp2_with fail
  refine Calls.mono (F0.out _) ?_
  rintro e v2 ⟨rfl, hb⟩
  have HK2 := Lib.hid (HK1.out.below hb HK1.out.lt)
  have L2 := Lib.hid (L1.out.trans (hb.mono L1.out.size))
  clear hb f0 f1 f2 f3 f4 f5 f6 f7 f8 f9 f10 f11 f12 f13 f14
  obtain ⟨f0, f1, f2, f3, f4, f5, f6, f7, f8, f9, f10, f11, f12, f13, f14⟩ := HK2.out.f15
  go_wp2
  go_ret
  exact ⟨rfl, L2.out⟩
set_option maxRecDepth 100000 in
set_option maxHeartbeats 4000000 in
theorem rr_4_1 (p : Pk) (hs : p.o.size ≤ 4398046511104) (c0 : btw p.tos 255 = true) (c1 : btw p.ttl 255 = true) (c2 : btw p.pro 255 = true) (c3 : btw p.id 65535 = true) (c4 : btw p.off 8191 = false) (e0 : foB p.s p.h p.l = true) (e1 : foB p.s' p.h' p.l' = false) (w : World) :
    Calls Try.prog 69 #[p.val] w fun e w' => e = .returned (.bool false) ∧ Below w.heap.size w w' := by
  have HO := Lib.hid (fun W => out_ro (ropt_any p.o hs W))
  obtain ⟨E, hE⟩ : ∃ E, eO (opn p.o.data.toList) = E := ⟨_, rfl⟩
  rw [hE] at HO
  clear hE
  obtain ⟨n, hn⟩ : ∃ n, ((opn p.o.data.toList).getD []).length = n := ⟨_, rfl⟩
  rw [hn] at HO
  clear hn
  have N0 := Lib.hid (fun W => rbetween_at p.tos 255 c0 W)
  have N1 := Lib.hid (fun W => rbetween_at p.ttl 255 c1 W)
  have N2 := Lib.hid (fun W => rbetween_at p.pro 255 c2 W)
  have N3 := Lib.hid (fun W => rbetween_at p.id 65535 c3 W)
  have N4 := Lib.hid (fun W => rbetween_at p.off 8191 c4 W)
  have F0 := Lib.hid (fun W => rfour_at p.s p.h p.l e0 W)
  have F1 := Lib.hid (fun W => rfour_at p.s' p.h' p.l' e1 W)
  have K0 := Blk.new w 27 (fcs p)
  have L0 := Lib.hid ((Below.refl _ w).alloc (Nat.le_refl _) (.cells (fcs p) 27))
  clear hs c0 c1 c2 c3 c4 e0 e1
  obtain ⟨f0, f1, f2, f3, f4, f5, f6, f7, f8, f9, f10, f11, f12, f13, f14⟩ := K0.f15
  have HK0 := Lib.hid K0
  clear K0
  go_enter Try.func69, Try.ntmps69
  go_wp2_with fail
  refine Calls.mono (HO.out _) ?_
  rintro e v1 ⟨A, c, rfl, -, hb⟩
  have HK1 := Lib.hid (HK0.out.below hb HK0.out.lt)
  have L1 := Lib.hid (L0.out.trans (hb.mono L0.out.size))
  clear hb f0 f1 f2 f3 f4 f5 f6 f7 f8 f9 f10 f11 f12 f13 f14
  obtain ⟨f0, f1, f2, f3, f4, f5, f6, f7, f8, f9, f10, f11, f12, f13, f14⟩ := HK1.out.f15
  go_wp2_with fail
  refine Calls.mono (N0.out _) ?_
  rintro e w1 ⟨rfl, rfl⟩
  go_wp2_with fail
  refine Calls.mono (N1.out _) ?_
  rintro e w1 ⟨rfl, rfl⟩
  go_wp2_with fail
  refine Calls.mono (N2.out _) ?_
  rintro e w1 ⟨rfl, rfl⟩
  go_wp2_with fail
  refine Calls.mono (N3.out _) ?_
  rintro e w1 ⟨rfl, rfl⟩
  go_wp2_with fail
  refine Calls.mono (N4.out _) ?_
  rintro e w1 ⟨rfl, rfl⟩
  go_wp2_with fail
  refine Calls.mono (F0.out _) ?_
  rintro e v2 ⟨rfl, hb⟩
  have HK2 := Lib.hid (HK1.out.below hb HK1.out.lt)
  have L2 := Lib.hid (L1.out.trans (hb.mono L1.out.size))
  clear hb f0 f1 f2 f3 f4 f5 f6 f7 f8 f9 f10 f11 f12 f13 f14
  obtain ⟨f0, f1, f2, f3, f4, f5, f6, f7, f8, f9, f10, f11, f12, f13, f14⟩ := HK2.out.f15
  go_wp2_with fail
  refine Calls.mono (F1.out _) ?_
  rintro e v3 ⟨rfl, hb⟩
  have HK3 := Lib.hid (HK2.out.below hb HK2.out.lt)
  have L3 := Lib.hid (L2.out.trans (hb.mono L2.out.size))
  clear hb f0 f1 f2 f3 f4 f5 f6 f7 f8 f9 f10 f11 f12 f13 f14
  obtain ⟨f0, f1, f2, f3, f4, f5, f6, f7, f8, f9, f10, f11, f12, f13, f14⟩ := HK3.out.f15
  go_wp2
  go_ret
  exact ⟨rfl, L3.out⟩
set_option maxRecDepth 100000 in
set_option maxHeartbeats 4000000 in
theorem rr_4_2 (p : Pk) (hs : p.o.size ≤ 4398046511104) (c0 : btw p.tos 255 = true) (c1 : btw p.ttl 255 = true) (c2 : btw p.pro 255 = true) (c3 : btw p.id 65535 = true) (c4 : btw p.off 8191 = false) (e0 : foB p.s p.h p.l = true) (e1 : foB p.s' p.h' p.l' = true) (w : World) :
    Calls Try.prog 69 #[p.val] w fun e w' => e = .returned (.bool false) ∧ Below w.heap.size w w' := by
  have HO := Lib.hid (fun W => out_ro (ropt_any p.o hs W))
  obtain ⟨E, hE⟩ : ∃ E, eO (opn p.o.data.toList) = E := ⟨_, rfl⟩
  rw [hE] at HO
  clear hE
  obtain ⟨n, hn⟩ : ∃ n, ((opn p.o.data.toList).getD []).length = n := ⟨_, rfl⟩
  rw [hn] at HO
  clear hn
  have N0 := Lib.hid (fun W => rbetween_at p.tos 255 c0 W)
  have N1 := Lib.hid (fun W => rbetween_at p.ttl 255 c1 W)
  have N2 := Lib.hid (fun W => rbetween_at p.pro 255 c2 W)
  have N3 := Lib.hid (fun W => rbetween_at p.id 65535 c3 W)
  have N4 := Lib.hid (fun W => rbetween_at p.off 8191 c4 W)
  have F0 := Lib.hid (fun W => rfour_at p.s p.h p.l e0 W)
  have F1 := Lib.hid (fun W => rfour_at p.s' p.h' p.l' e1 W)
  have K0 := Blk.new w 27 (fcs p)
  have L0 := Lib.hid ((Below.refl _ w).alloc (Nat.le_refl _) (.cells (fcs p) 27))
  clear hs c0 c1 c2 c3 c4 e0 e1
  obtain ⟨f0, f1, f2, f3, f4, f5, f6, f7, f8, f9, f10, f11, f12, f13, f14⟩ := K0.f15
  have HK0 := Lib.hid K0
  clear K0
  go_enter Try.func69, Try.ntmps69
  go_wp2_with fail
  refine Calls.mono (HO.out _) ?_
  rintro e v1 ⟨A, c, rfl, -, hb⟩
  have HK1 := Lib.hid (HK0.out.below hb HK0.out.lt)
  have L1 := Lib.hid (L0.out.trans (hb.mono L0.out.size))
  clear hb f0 f1 f2 f3 f4 f5 f6 f7 f8 f9 f10 f11 f12 f13 f14
  obtain ⟨f0, f1, f2, f3, f4, f5, f6, f7, f8, f9, f10, f11, f12, f13, f14⟩ := HK1.out.f15
  go_wp2_with fail
  refine Calls.mono (N0.out _) ?_
  rintro e w1 ⟨rfl, rfl⟩
  go_wp2_with fail
  refine Calls.mono (N1.out _) ?_
  rintro e w1 ⟨rfl, rfl⟩
  go_wp2_with fail
  refine Calls.mono (N2.out _) ?_
  rintro e w1 ⟨rfl, rfl⟩
  go_wp2_with fail
  refine Calls.mono (N3.out _) ?_
  rintro e w1 ⟨rfl, rfl⟩
  go_wp2_with fail
  refine Calls.mono (N4.out _) ?_
  rintro e w1 ⟨rfl, rfl⟩
  go_wp2_with fail
  refine Calls.mono (F0.out _) ?_
  rintro e v2 ⟨rfl, hb⟩
  have HK2 := Lib.hid (HK1.out.below hb HK1.out.lt)
  have L2 := Lib.hid (L1.out.trans (hb.mono L1.out.size))
  clear hb f0 f1 f2 f3 f4 f5 f6 f7 f8 f9 f10 f11 f12 f13 f14
  obtain ⟨f0, f1, f2, f3, f4, f5, f6, f7, f8, f9, f10, f11, f12, f13, f14⟩ := HK2.out.f15
  go_wp2_with fail
  refine Calls.mono (F1.out _) ?_
  rintro e v3 ⟨rfl, hb⟩
  have HK3 := Lib.hid (HK2.out.below hb HK2.out.lt)
  have L3 := Lib.hid (L2.out.trans (hb.mono L2.out.size))
  clear hb f0 f1 f2 f3 f4 f5 f6 f7 f8 f9 f10 f11 f12 f13 f14
  obtain ⟨f0, f1, f2, f3, f4, f5, f6, f7, f8, f9, f10, f11, f12, f13, f14⟩ := HK3.out.f15
  go_wp2
  go_ret
  exact ⟨rfl, L3.out⟩
set_option maxRecDepth 100000 in
set_option maxHeartbeats 4000000 in
theorem rr_5_0 (p : Pk) (hs : p.o.size ≤ 4398046511104) (c0 : btw p.tos 255 = true) (c1 : btw p.ttl 255 = true) (c2 : btw p.pro 255 = true) (c3 : btw p.id 65535 = true) (c4 : btw p.off 8191 = true) (e0 : foB p.s p.h p.l = false) (w : World) :
    Calls Try.prog 69 #[p.val] w fun e w' => e = .returned (.bool false) ∧ Below w.heap.size w w' := by
  have HO := Lib.hid (fun W => out_ro (ropt_any p.o hs W))
  obtain ⟨E, hE⟩ : ∃ E, eO (opn p.o.data.toList) = E := ⟨_, rfl⟩
  rw [hE] at HO
  clear hE
  obtain ⟨n, hn⟩ : ∃ n, ((opn p.o.data.toList).getD []).length = n := ⟨_, rfl⟩
  rw [hn] at HO
  clear hn
  have N0 := Lib.hid (fun W => rbetween_at p.tos 255 c0 W)
  have N1 := Lib.hid (fun W => rbetween_at p.ttl 255 c1 W)
  have N2 := Lib.hid (fun W => rbetween_at p.pro 255 c2 W)
  have N3 := Lib.hid (fun W => rbetween_at p.id 65535 c3 W)
  have N4 := Lib.hid (fun W => rbetween_at p.off 8191 c4 W)
  have F0 := Lib.hid (fun W => rfour_at p.s p.h p.l e0 W)
  have K0 := Blk.new w 27 (fcs p)
  have L0 := Lib.hid ((Below.refl _ w).alloc (Nat.le_refl _) (.cells (fcs p) 27))
  clear hs c0 c1 c2 c3 c4 e0
  obtain ⟨f0, f1, f2, f3, f4, f5, f6, f7, f8, f9, f10, f11, f12, f13, f14⟩ := K0.f15
  have HK0 := Lib.hid K0
  clear K0
  go_enter Try.func69, Try.ntmps69
  go_wp2_with fail
  refine Calls.mono (HO.out _) ?_
  rintro e v1 ⟨A, c, rfl, -, hb⟩
  have HK1 := Lib.hid (HK0.out.below hb HK0.out.lt)
  have L1 := Lib.hid (L0.out.trans (hb.mono L0.out.size))
  clear hb f0 f1 f2 f3 f4 f5 f6 f7 f8 f9 f10 f11 f12 f13 f14
  obtain ⟨f0, f1, f2, f3, f4, f5, f6, f7, f8, f9, f10, f11, f12, f13, f14⟩ := HK1.out.f15
  go_wp2_with fail
  refine Calls.mono (N0.out _) ?_
  rintro e w1 ⟨rfl, rfl⟩
  go_wp2_with fail
  refine Calls.mono (N1.out _) ?_
  rintro e w1 ⟨rfl, rfl⟩
  go_wp2_with fail
  refine Calls.mono (N2.out _) ?_
  rintro e w1 ⟨rfl, rfl⟩
  go_wp2_with fail
  refine Calls.mono (N3.out _) ?_
  rintro e w1 ⟨rfl, rfl⟩
  go_wp2_with fail
  refine Calls.mono (N4.out _) ?_
  rintro e w1 ⟨rfl, rfl⟩
  go_wp2_with fail
  refine Calls.mono (F0.out _) ?_
  rintro e v2 ⟨rfl, hb⟩
  have HK2 := Lib.hid (HK1.out.below hb HK1.out.lt)
  have L2 := Lib.hid (L1.out.trans (hb.mono L1.out.size))
  clear hb f0 f1 f2 f3 f4 f5 f6 f7 f8 f9 f10 f11 f12 f13 f14
  obtain ⟨f0, f1, f2, f3, f4, f5, f6, f7, f8, f9, f10, f11, f12, f13, f14⟩ := HK2.out.f15
  go_wp2
  go_ret
  exact ⟨rfl, L2.out⟩
set_option maxRecDepth 100000 in
set_option maxHeartbeats 4000000 in
theorem rr_5_1 (p : Pk) (hs : p.o.size ≤ 4398046511104) (c0 : btw p.tos 255 = true) (c1 : btw p.ttl 255 = true) (c2 : btw p.pro 255 = true) (c3 : btw p.id 65535 = true) (c4 : btw p.off 8191 = true) (e0 : foB p.s p.h p.l = true) (e1 : foB p.s' p.h' p.l' = false) (w : World) :
    Calls Try.prog 69 #[p.val] w fun e w' => e = .returned (.bool false) ∧ Below w.heap.size w w' := by
  have HO := Lib.hid (fun W => out_ro (ropt_any p.o hs W))
  obtain ⟨E, hE⟩ : ∃ E, eO (opn p.o.data.toList) = E := ⟨_, rfl⟩
  rw [hE] at HO
  clear hE
  obtain ⟨n, hn⟩ : ∃ n, ((opn p.o.data.toList).getD []).length = n := ⟨_, rfl⟩
  rw [hn] at HO
  clear hn
  have N0 := Lib.hid (fun W => rbetween_at p.tos 255 c0 W)
  have N1 := Lib.hid (fun W => rbetween_at p.ttl 255 c1 W)
  have N2 := Lib.hid (fun W => rbetween_at p.pro 255 c2 W)
  have N3 := Lib.hid (fun W => rbetween_at p.id 65535 c3 W)
  have N4 := Lib.hid (fun W => rbetween_at p.off 8191 c4 W)
  have F0 := Lib.hid (fun W => rfour_at p.s p.h p.l e0 W)
  have F1 := Lib.hid (fun W => rfour_at p.s' p.h' p.l' e1 W)
  have K0 := Blk.new w 27 (fcs p)
  have L0 := Lib.hid ((Below.refl _ w).alloc (Nat.le_refl _) (.cells (fcs p) 27))
  clear hs c0 c1 c2 c3 c4 e0 e1
  obtain ⟨f0, f1, f2, f3, f4, f5, f6, f7, f8, f9, f10, f11, f12, f13, f14⟩ := K0.f15
  have HK0 := Lib.hid K0
  clear K0
  go_enter Try.func69, Try.ntmps69
  go_wp2_with fail
  refine Calls.mono (HO.out _) ?_
  rintro e v1 ⟨A, c, rfl, -, hb⟩
  have HK1 := Lib.hid (HK0.out.below hb HK0.out.lt)
  have L1 := Lib.hid (L0.out.trans (hb.mono L0.out.size))
  clear hb f0 f1 f2 f3 f4 f5 f6 f7 f8 f9 f10 f11 f12 f13 f14
  obtain ⟨f0, f1, f2, f3, f4, f5, f6, f7, f8, f9, f10, f11, f12, f13, f14⟩ := HK1.out.f15
  go_wp2_with fail
  refine Calls.mono (N0.out _) ?_
  rintro e w1 ⟨rfl, rfl⟩
  go_wp2_with fail
  refine Calls.mono (N1.out _) ?_
  rintro e w1 ⟨rfl, rfl⟩
  go_wp2_with fail
  refine Calls.mono (N2.out _) ?_
  rintro e w1 ⟨rfl, rfl⟩
  go_wp2_with fail
  refine Calls.mono (N3.out _) ?_
  rintro e w1 ⟨rfl, rfl⟩
  go_wp2_with fail
  refine Calls.mono (N4.out _) ?_
  rintro e w1 ⟨rfl, rfl⟩
  go_wp2_with fail
  refine Calls.mono (F0.out _) ?_
  rintro e v2 ⟨rfl, hb⟩
  have HK2 := Lib.hid (HK1.out.below hb HK1.out.lt)
  have L2 := Lib.hid (L1.out.trans (hb.mono L1.out.size))
  clear hb f0 f1 f2 f3 f4 f5 f6 f7 f8 f9 f10 f11 f12 f13 f14
  obtain ⟨f0, f1, f2, f3, f4, f5, f6, f7, f8, f9, f10, f11, f12, f13, f14⟩ := HK2.out.f15
  go_wp2_with fail
  refine Calls.mono (F1.out _) ?_
  rintro e v3 ⟨rfl, hb⟩
  have HK3 := Lib.hid (HK2.out.below hb HK2.out.lt)
  have L3 := Lib.hid (L2.out.trans (hb.mono L2.out.size))
  clear hb f0 f1 f2 f3 f4 f5 f6 f7 f8 f9 f10 f11 f12 f13 f14
  obtain ⟨f0, f1, f2, f3, f4, f5, f6, f7, f8, f9, f10, f11, f12, f13, f14⟩ := HK3.out.f15
  go_wp2
  go_ret
  exact ⟨rfl, L3.out⟩
set_option maxRecDepth 100000 in
set_option maxHeartbeats 4000000 in
theorem rr_5_2_0 (p : Pk) (hs : p.o.size ≤ 4398046511104) (c0 : btw p.tos 255 = true) (c1 : btw p.ttl 255 = true) (c2 : btw p.pro 255 = true) (c3 : btw p.id 65535 = true) (c4 : btw p.off 8191 = true) (e0 : foB p.s p.h p.l = true) (e1 : foB p.s' p.h' p.l' = true) (g0 : ¬ p.o.size ≤ 40) (w : World) :
    Calls Try.prog 69 #[p.val] w fun e w' => e = .returned (.bool false) ∧ Below w.heap.size w w' := by
  have HO := Lib.hid (fun W => out_ro (ropt_any p.o hs W))
  obtain ⟨E, hE⟩ : ∃ E, eO (opn p.o.data.toList) = E := ⟨_, rfl⟩
  rw [hE] at HO
  clear hE
  obtain ⟨n, hn⟩ : ∃ n, ((opn p.o.data.toList).getD []).length = n := ⟨_, rfl⟩
  rw [hn] at HO
  clear hn
  have N0 := Lib.hid (fun W => rbetween_at p.tos 255 c0 W)
  have N1 := Lib.hid (fun W => rbetween_at p.ttl 255 c1 W)
  have N2 := Lib.hid (fun W => rbetween_at p.pro 255 c2 W)
  have N3 := Lib.hid (fun W => rbetween_at p.id 65535 c3 W)
  have N4 := Lib.hid (fun W => rbetween_at p.off 8191 c4 W)
  have F0 := Lib.hid (fun W => rfour_at p.s p.h p.l e0 W)
  have F1 := Lib.hid (fun W => rfour_at p.s' p.h' p.l' e1 W)
  have d0 : ¬ (p.o.size : Int) ≤ 40 := by omega
  have K0 := Blk.new w 27 (fcs p)
  have L0 := Lib.hid ((Below.refl _ w).alloc (Nat.le_refl _) (.cells (fcs p) 27))
  clear hs c0 c1 c2 c3 c4 e0 e1 g0
  obtain ⟨f0, f1, f2, f3, f4, f5, f6, f7, f8, f9, f10, f11, f12, f13, f14⟩ := K0.f15
  have HK0 := Lib.hid K0
  clear K0
  go_enter Try.func69, Try.ntmps69
  go_wp2_with fail
  refine Calls.mono (HO.out _) ?_
  rintro e v1 ⟨A, c, rfl, -, hb⟩
  have HK1 := Lib.hid (HK0.out.below hb HK0.out.lt)
  have L1 := Lib.hid (L0.out.trans (hb.mono L0.out.size))
  clear hb f0 f1 f2 f3 f4 f5 f6 f7 f8 f9 f10 f11 f12 f13 f14
  obtain ⟨f0, f1, f2, f3, f4, f5, f6, f7, f8, f9, f10, f11, f12, f13, f14⟩ := HK1.out.f15
  go_wp2_with fail
  refine Calls.mono (N0.out _) ?_
  rintro e w1 ⟨rfl, rfl⟩
  go_wp2_with fail
  refine Calls.mono (N1.out _) ?_
  rintro e w1 ⟨rfl, rfl⟩
  go_wp2_with fail
  refine Calls.mono (N2.out _) ?_
  rintro e w1 ⟨rfl, rfl⟩
  go_wp2_with fail
  refine Calls.mono (N3.out _) ?_
  rintro e w1 ⟨rfl, rfl⟩
  go_wp2_with fail
  refine Calls.mono (N4.out _) ?_
  rintro e w1 ⟨rfl, rfl⟩
  go_wp2_with fail
  refine Calls.mono (F0.out _) ?_
  rintro e v2 ⟨rfl, hb⟩
  have HK2 := Lib.hid (HK1.out.below hb HK1.out.lt)
  have L2 := Lib.hid (L1.out.trans (hb.mono L1.out.size))
  clear hb f0 f1 f2 f3 f4 f5 f6 f7 f8 f9 f10 f11 f12 f13 f14
  obtain ⟨f0, f1, f2, f3, f4, f5, f6, f7, f8, f9, f10, f11, f12, f13, f14⟩ := HK2.out.f15
  go_wp2_with fail
  refine Calls.mono (F1.out _) ?_
  rintro e v3 ⟨rfl, hb⟩
  have HK3 := Lib.hid (HK2.out.below hb HK2.out.lt)
  have L3 := Lib.hid (L2.out.trans (hb.mono L2.out.size))
  clear hb f0 f1 f2 f3 f4 f5 f6 f7 f8 f9 f10 f11 f12 f13 f14
  obtain ⟨f0, f1, f2, f3, f4, f5, f6, f7, f8, f9, f10, f11, f12, f13, f14⟩ := HK3.out.f15
  go_wp2
  go_ret
  exact ⟨rfl, L3.out⟩
set_option maxRecDepth 100000 in
set_option maxHeartbeats 4000000 in
theorem rr_5_2_1 (p : Pk) (hs : p.o.size ≤ 4398046511104) (c0 : btw p.tos 255 = true) (c1 : btw p.ttl 255 = true) (c2 : btw p.pro 255 = true) (c3 : btw p.id 65535 = true) (c4 : btw p.off 8191 = true) (e0 : foB p.s p.h p.l = true) (e1 : foB p.s' p.h' p.l' = true) (g0 : p.o.size ≤ 40) (g1 : ¬ p.o.size % 4 = 0) (w : World) :
    Calls Try.prog 69 #[p.val] w fun e w' => e = .returned (.bool false) ∧ Below w.heap.size w w' := by
  have HO := Lib.hid (fun W => out_ro (ropt_any p.o hs W))
  obtain ⟨E, hE⟩ : ∃ E, eO (opn p.o.data.toList) = E := ⟨_, rfl⟩
  rw [hE] at HO
  clear hE
  obtain ⟨n, hn⟩ : ∃ n, ((opn p.o.data.toList).getD []).length = n := ⟨_, rfl⟩
  rw [hn] at HO
  clear hn
  have N0 := Lib.hid (fun W => rbetween_at p.tos 255 c0 W)
  have N1 := Lib.hid (fun W => rbetween_at p.ttl 255 c1 W)
  have N2 := Lib.hid (fun W => rbetween_at p.pro 255 c2 W)
  have N3 := Lib.hid (fun W => rbetween_at p.id 65535 c3 W)
  have N4 := Lib.hid (fun W => rbetween_at p.off 8191 c4 W)
  have F0 := Lib.hid (fun W => rfour_at p.s p.h p.l e0 W)
  have F1 := Lib.hid (fun W => rfour_at p.s' p.h' p.l' e1 W)
  have d0 : (p.o.size : Int) ≤ 40 := by omega
  have d1 : (((p.o.size : Int) % 4) == 0) = false := by simp; omega
  have K0 := Blk.new w 27 (fcs p)
  have L0 := Lib.hid ((Below.refl _ w).alloc (Nat.le_refl _) (.cells (fcs p) 27))
  clear hs c0 c1 c2 c3 c4 e0 e1 g0 g1
  obtain ⟨f0, f1, f2, f3, f4, f5, f6, f7, f8, f9, f10, f11, f12, f13, f14⟩ := K0.f15
  have HK0 := Lib.hid K0
  clear K0
  go_enter Try.func69, Try.ntmps69
  go_wp2_with fail
  refine Calls.mono (HO.out _) ?_
  rintro e v1 ⟨A, c, rfl, -, hb⟩
  have HK1 := Lib.hid (HK0.out.below hb HK0.out.lt)
  have L1 := Lib.hid (L0.out.trans (hb.mono L0.out.size))
  clear hb f0 f1 f2 f3 f4 f5 f6 f7 f8 f9 f10 f11 f12 f13 f14
  obtain ⟨f0, f1, f2, f3, f4, f5, f6, f7, f8, f9, f10, f11, f12, f13, f14⟩ := HK1.out.f15
  go_wp2_with fail
  refine Calls.mono (N0.out _) ?_
  rintro e w1 ⟨rfl, rfl⟩
  go_wp2_with fail
  refine Calls.mono (N1.out _) ?_
  rintro e w1 ⟨rfl, rfl⟩
  go_wp2_with fail
  refine Calls.mono (N2.out _) ?_
  rintro e w1 ⟨rfl, rfl⟩
  go_wp2_with fail
  refine Calls.mono (N3.out _) ?_
  rintro e w1 ⟨rfl, rfl⟩
  go_wp2_with fail
  refine Calls.mono (N4.out _) ?_
  rintro e w1 ⟨rfl, rfl⟩
  go_wp2_with fail
  refine Calls.mono (F0.out _) ?_
  rintro e v2 ⟨rfl, hb⟩
  have HK2 := Lib.hid (HK1.out.below hb HK1.out.lt)
  have L2 := Lib.hid (L1.out.trans (hb.mono L1.out.size))
  clear hb f0 f1 f2 f3 f4 f5 f6 f7 f8 f9 f10 f11 f12 f13 f14
  obtain ⟨f0, f1, f2, f3, f4, f5, f6, f7, f8, f9, f10, f11, f12, f13, f14⟩ := HK2.out.f15
  go_wp2_with fail
  refine Calls.mono (F1.out _) ?_
  rintro e v3 ⟨rfl, hb⟩
  have HK3 := Lib.hid (HK2.out.below hb HK2.out.lt)
  have L3 := Lib.hid (L2.out.trans (hb.mono L2.out.size))
  clear hb f0 f1 f2 f3 f4 f5 f6 f7 f8 f9 f10 f11 f12 f13 f14
  obtain ⟨f0, f1, f2, f3, f4, f5, f6, f7, f8, f9, f10, f11, f12, f13, f14⟩ := HK3.out.f15
  go_wp2
  go_ret
  exact ⟨rfl, L3.out⟩
set_option maxRecDepth 100000 in
set_option maxHeartbeats 4000000 in
theorem rr_5_2_2 (p : Pk) (hs : p.o.size ≤ 4398046511104) (c0 : btw p.tos 255 = true) (c1 : btw p.ttl 255 = true) (c2 : btw p.pro 255 = true) (c3 : btw p.id 65535 = true) (c4 : btw p.off 8191 = true) (e0 : foB p.s p.h p.l = true) (e1 : foB p.s' p.h' p.l' = true) (g0 : p.o.size ≤ 40) (g1 : p.o.size % 4 = 0) (g2 : (opn p.o.data.toList).isSome = false) (w : World) :
    Calls Try.prog 69 #[p.val] w fun e w' => e = .returned (.bool false) ∧ Below w.heap.size w w' := by
  have HO := Lib.hid (fun W => out_ro (ropt_any p.o hs W))
  rw [eO_no g2] at HO
  obtain ⟨n, hn⟩ : ∃ n, ((opn p.o.data.toList).getD []).length = n := ⟨_, rfl⟩
  rw [hn] at HO
  clear hn
  have N0 := Lib.hid (fun W => rbetween_at p.tos 255 c0 W)
  have N1 := Lib.hid (fun W => rbetween_at p.ttl 255 c1 W)
  have N2 := Lib.hid (fun W => rbetween_at p.pro 255 c2 W)
  have N3 := Lib.hid (fun W => rbetween_at p.id 65535 c3 W)
  have N4 := Lib.hid (fun W => rbetween_at p.off 8191 c4 W)
  have F0 := Lib.hid (fun W => rfour_at p.s p.h p.l e0 W)
  have F1 := Lib.hid (fun W => rfour_at p.s' p.h' p.l' e1 W)
  have d0 : (p.o.size : Int) ≤ 40 := by omega
  have d1 : (((p.o.size : Int) % 4) == 0) = true := by simp; omega
  have K0 := Blk.new w 27 (fcs p)
  have L0 := Lib.hid ((Below.refl _ w).alloc (Nat.le_refl _) (.cells (fcs p) 27))
  clear hs c0 c1 c2 c3 c4 e0 e1 g0 g1 g2
  obtain ⟨f0, f1, f2, f3, f4, f5, f6, f7, f8, f9, f10, f11, f12, f13, f14⟩ := K0.f15
  have HK0 := Lib.hid K0
  clear K0
  go_enter Try.func69, Try.ntmps69
  go_wp2_with fail
  refine Calls.mono (HO.out _) ?_
  rintro e v1 ⟨A, c, rfl, -, hb⟩
  have HK1 := Lib.hid (HK0.out.below hb HK0.out.lt)
  have L1 := Lib.hid (L0.out.trans (hb.mono L0.out.size))
  clear hb f0 f1 f2 f3 f4 f5 f6 f7 f8 f9 f10 f11 f12 f13 f14
  obtain ⟨f0, f1, f2, f3, f4, f5, f6, f7, f8, f9, f10, f11, f12, f13, f14⟩ := HK1.out.f15
  go_wp2_with fail
  refine Calls.mono (N0.out _) ?_
  rintro e w1 ⟨rfl, rfl⟩
  go_wp2_with fail
  refine Calls.mono (N1.out _) ?_
  rintro e w1 ⟨rfl, rfl⟩
  go_wp2_with fail
  refine Calls.mono (N2.out _) ?_
  rintro e w1 ⟨rfl, rfl⟩
  go_wp2_with fail
  refine Calls.mono (N3.out _) ?_
  rintro e w1 ⟨rfl, rfl⟩
  go_wp2_with fail
  refine Calls.mono (N4.out _) ?_
  rintro e w1 ⟨rfl, rfl⟩
  go_wp2_with fail
  refine Calls.mono (F0.out _) ?_
  rintro e v2 ⟨rfl, hb⟩
  have HK2 := Lib.hid (HK1.out.below hb HK1.out.lt)
  have L2 := Lib.hid (L1.out.trans (hb.mono L1.out.size))
  clear hb f0 f1 f2 f3 f4 f5 f6 f7 f8 f9 f10 f11 f12 f13 f14
  obtain ⟨f0, f1, f2, f3, f4, f5, f6, f7, f8, f9, f10, f11, f12, f13, f14⟩ := HK2.out.f15
  go_wp2_with fail
  refine Calls.mono (F1.out _) ?_
  rintro e v3 ⟨rfl, hb⟩
  have HK3 := Lib.hid (HK2.out.below hb HK2.out.lt)
  have L3 := Lib.hid (L2.out.trans (hb.mono L2.out.size))
  clear hb f0 f1 f2 f3 f4 f5 f6 f7 f8 f9 f10 f11 f12 f13 f14
  obtain ⟨f0, f1, f2, f3, f4, f5, f6, f7, f8, f9, f10, f11, f12, f13, f14⟩ := HK3.out.f15
  go_wp2
  go_ret
  exact ⟨rfl, L3.out⟩
set_option maxRecDepth 100000 in
set_option maxHeartbeats 4000000 in
theorem rr_5_2_3 (p : Pk) (hs : p.o.size ≤ 4398046511104) (c0 : btw p.tos 255 = true) (c1 : btw p.ttl 255 = true) (c2 : btw p.pro 255 = true) (c3 : btw p.id 65535 = true) (c4 : btw p.off 8191 = true) (e0 : foB p.s p.h p.l = true) (e1 : foB p.s' p.h' p.l' = true) (g0 : p.o.size ≤ 40) (g1 : p.o.size % 4 = 0) (g2 : (opn p.o.data.toList).isSome = true) (w : World) :
    Calls Try.prog 69 #[p.val] w fun e w' => e = .returned (.bool true) ∧ Below w.heap.size w w' := by
  have HO := Lib.hid (fun W => out_ro (ropt_any p.o hs W))
  rw [eO_yes g2] at HO
  obtain ⟨n, hn⟩ : ∃ n, ((opn p.o.data.toList).getD []).length = n := ⟨_, rfl⟩
  rw [hn] at HO
  clear hn
  have N0 := Lib.hid (fun W => rbetween_at p.tos 255 c0 W)
  have N1 := Lib.hid (fun W => rbetween_at p.ttl 255 c1 W)
  have N2 := Lib.hid (fun W => rbetween_at p.pro 255 c2 W)
  have N3 := Lib.hid (fun W => rbetween_at p.id 65535 c3 W)
  have N4 := Lib.hid (fun W => rbetween_at p.off 8191 c4 W)
  have F0 := Lib.hid (fun W => rfour_at p.s p.h p.l e0 W)
  have F1 := Lib.hid (fun W => rfour_at p.s' p.h' p.l' e1 W)
  have d0 : (p.o.size : Int) ≤ 40 := by omega
  have d1 : (((p.o.size : Int) % 4) == 0) = true := by simp; omega
  have K0 := Blk.new w 27 (fcs p)
  have L0 := Lib.hid ((Below.refl _ w).alloc (Nat.le_refl _) (.cells (fcs p) 27))
  clear hs c0 c1 c2 c3 c4 e0 e1 g0 g1 g2
  obtain ⟨f0, f1, f2, f3, f4, f5, f6, f7, f8, f9, f10, f11, f12, f13, f14⟩ := K0.f15
  have HK0 := Lib.hid K0
  clear K0
  go_enter Try.func69, Try.ntmps69
  go_wp2_with fail
  refine Calls.mono (HO.out _) ?_
  rintro e v1 ⟨A, c, rfl, -, hb⟩
  have HK1 := Lib.hid (HK0.out.below hb HK0.out.lt)
  have L1 := Lib.hid (L0.out.trans (hb.mono L0.out.size))
  clear hb f0 f1 f2 f3 f4 f5 f6 f7 f8 f9 f10 f11 f12 f13 f14
  obtain ⟨f0, f1, f2, f3, f4, f5, f6, f7, f8, f9, f10, f11, f12, f13, f14⟩ := HK1.out.f15
  go_wp2_with fail
  refine Calls.mono (N0.out _) ?_
  rintro e w1 ⟨rfl, rfl⟩
  go_wp2_with fail
  refine Calls.mono (N1.out _) ?_
  rintro e w1 ⟨rfl, rfl⟩
  go_wp2_with fail
  refine Calls.mono (N2.out _) ?_
  rintro e w1 ⟨rfl, rfl⟩
  go_wp2_with fail
  refine Calls.mono (N3.out _) ?_
  rintro e w1 ⟨rfl, rfl⟩
  go_wp2_with fail
  refine Calls.mono (N4.out _) ?_
  rintro e w1 ⟨rfl, rfl⟩
  go_wp2_with fail
  refine Calls.mono (F0.out _) ?_
  rintro e v2 ⟨rfl, hb⟩
  have HK2 := Lib.hid (HK1.out.below hb HK1.out.lt)
  have L2 := Lib.hid (L1.out.trans (hb.mono L1.out.size))
  clear hb f0 f1 f2 f3 f4 f5 f6 f7 f8 f9 f10 f11 f12 f13 f14
  obtain ⟨f0, f1, f2, f3, f4, f5, f6, f7, f8, f9, f10, f11, f12, f13, f14⟩ := HK2.out.f15
  go_wp2_with fail
  refine Calls.mono (F1.out _) ?_
  rintro e v3 ⟨rfl, hb⟩
  have HK3 := Lib.hid (HK2.out.below hb HK2.out.lt)
  have L3 := Lib.hid (L2.out.trans (hb.mono L2.out.size))
  clear hb f0 f1 f2 f3 f4 f5 f6 f7 f8 f9 f10 f11 f12 f13 f14
  obtain ⟨f0, f1, f2, f3, f4, f5, f6, f7, f8, f9, f10, f11, f12, f13, f14⟩ := HK3.out.f15
  go_wp2
  go_ret
  exact ⟨rfl, L3.out⟩
theorem rright_any (p : Pk) (hs : p.o.size ≤ 4398046511104) {V : Bool} (hV : rgB p = V) (w : World) :
    Calls Try.prog 69 #[p.val] w fun e w' => e = .returned (.bool V) ∧ Below w.heap.size w w' := by
  have E : rgB p = (btw p.tos 255 && btw p.ttl 255 && btw p.pro 255 && btw p.id 65535 && btw p.off 8191 && foB p.s p.h p.l && foB p.s' p.h' p.l' && decide (p.o.size ≤ 40) && decide (p.o.size % 4 = 0) && opB p.o) := by simp only [rgB]
  rw [hV] at E
  unfold opB at E
  rcases Bool.eq_false_or_eq_true (btw p.tos 255) with c0 | c0
  rotate_left
  · skip
    rcases Bool.eq_false_or_eq_true (foB p.s p.h p.l) with e0 | e0
    rotate_left
    · skip
      have : V = false := by rw [E]; simp [c0, e0]
      subst this
      exact rr_0_0 p hs c0 e0 w
    rcases Bool.eq_false_or_eq_true (foB p.s' p.h' p.l') with e1 | e1
    rotate_left
    · skip
      have : V = false := by rw [E]; simp [c0, e0, e1]
      subst this
      exact rr_0_1 p hs c0 e0 e1 w
    have : V = false := by rw [E]; simp [c0, e0, e1]
    subst this
    exact rr_0_2 p hs c0 e0 e1 w
  rcases Bool.eq_false_or_eq_true (btw p.ttl 255) with c1 | c1
  rotate_left
  · skip
    rcases Bool.eq_false_or_eq_true (foB p.s p.h p.l) with e0 | e0
    rotate_left
    · skip
      have : V = false := by rw [E]; simp [c0, c1, e0]
      subst this
      exact rr_1_0 p hs c0 c1 e0 w
    rcases Bool.eq_false_or_eq_true (foB p.s' p.h' p.l') with e1 | e1
    rotate_left
    · skip
      have : V = false := by rw [E]; simp [c0, c1, e0, e1]
      subst this
      exact rr_1_1 p hs c0 c1 e0 e1 w
    have : V = false := by rw [E]; simp [c0, c1, e0, e1]
    subst this
    exact rr_1_2 p hs c0 c1 e0 e1 w
  rcases Bool.eq_false_or_eq_true (btw p.pro 255) with c2 | c2
  rotate_left
  · skip
    rcases Bool.eq_false_or_eq_true (foB p.s p.h p.l) with e0 | e0
    rotate_left
    · skip
      have : V = false := by rw [E]; simp [c0, c1, c2, e0]
      subst this
      exact rr_2_0 p hs c0 c1 c2 e0 w
    rcases Bool.eq_false_or_eq_true (foB p.s' p.h' p.l') with e1 | e1
    rotate_left
    · skip
      have : V = false := by rw [E]; simp [c0, c1, c2, e0, e1]
      subst this
      exact rr_2_1 p hs c0 c1 c2 e0 e1 w
    have : V = false := by rw [E]; simp [c0, c1, c2, e0, e1]
    subst this
    exact rr_2_2 p hs c0 c1 c2 e0 e1 w
  rcases Bool.eq_false_or_eq_true (btw p.id 65535) with c3 | c3
  rotate_left
  · skip
    rcases Bool.eq_false_or_eq_true (foB p.s p.h p.l) with e0 | e0
    rotate_left
    · skip
      have : V = false := by rw [E]; simp [c0, c1, c2, c3, e0]
      subst this
      exact rr_3_0 p hs c0 c1 c2 c3 e0 w
    rcases Bool.eq_false_or_eq_true (foB p.s' p.h' p.l') with e1 | e1
    rotate_left
    · skip
      have : V = false := by rw [E]; simp [c0, c1, c2, c3, e0, e1]
      subst this
      exact rr_3_1 p hs c0 c1 c2 c3 e0 e1 w
    have : V = false := by rw [E]; simp [c0, c1, c2, c3, e0, e1]
    subst this
    exact rr_3_2 p hs c0 c1 c2 c3 e0 e1 w
  rcases Bool.eq_false_or_eq_true (btw p.off 8191) with c4 | c4
  rotate_left
  · skip
    rcases Bool.eq_false_or_eq_true (foB p.s p.h p.l) with e0 | e0
    rotate_left
    · skip
      have : V = false := by rw [E]; simp [c0, c1, c2, c3, c4, e0]
      subst this
      exact rr_4_0 p hs c0 c1 c2 c3 c4 e0 w
    rcases Bool.eq_false_or_eq_true (foB p.s' p.h' p.l') with e1 | e1
    rotate_left
    · skip
      have : V = false := by rw [E]; simp [c0, c1, c2, c3, c4, e0, e1]
      subst this
      exact rr_4_1 p hs c0 c1 c2 c3 c4 e0 e1 w
    have : V = false := by rw [E]; simp [c0, c1, c2, c3, c4, e0, e1]
    subst this
    exact rr_4_2 p hs c0 c1 c2 c3 c4 e0 e1 w
  rcases Bool.eq_false_or_eq_true (foB p.s p.h p.l) with e0 | e0
  rotate_left
  · skip
    have : V = false := by rw [E]; simp [c0, c1, c2, c3, c4, e0]
    subst this
    exact rr_5_0 p hs c0 c1 c2 c3 c4 e0 w
  rcases Bool.eq_false_or_eq_true (foB p.s' p.h' p.l') with e1 | e1
  rotate_left
  · skip
    have : V = false := by rw [E]; simp [c0, c1, c2, c3, c4, e0, e1]
    subst this
    exact rr_5_1 p hs c0 c1 c2 c3 c4 e0 e1 w
  by_cases g0 : p.o.size ≤ 40
  rotate_left
  · skip
    have : V = false := by rw [E]; simp [c0, c1, c2, c3, c4, e0, e1, g0]
    subst this
    exact rr_5_2_0 p hs c0 c1 c2 c3 c4 e0 e1 g0 w
  by_cases g1 : p.o.size % 4 = 0
  rotate_left
  · skip
    have : V = false := by rw [E]; simp [c0, c1, c2, c3, c4, e0, e1, g0, g1]
    subst this
    exact rr_5_2_1 p hs c0 c1 c2 c3 c4 e0 e1 g0 g1 w
  rcases Bool.eq_false_or_eq_true ((opn p.o.data.toList).isSome) with g2 | g2
  rotate_left
  · skip
    have : V = false := by rw [E]; simp [c0, c1, c2, c3, c4, e0, e1, g0, g1, g2]
    subst this
    exact rr_5_2_2 p hs c0 c1 c2 c3 c4 e0 e1 g0 g1 g2 w
  have : V = true := by rw [E]; simp [c0, c1, c2, c3, c4, e0, e1, g0, g1, g2]
  subst this
  exact rr_5_2_3 p hs c0 c1 c2 c3 c4 e0 e1 g0 g1 g2 w
end Go.Proofs.Ytbhddodghbhjiaa
