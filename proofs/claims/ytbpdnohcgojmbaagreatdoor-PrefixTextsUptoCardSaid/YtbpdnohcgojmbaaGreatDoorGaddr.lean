/-
  The address of groups.
-/
import Derived.Test.YtbpdnohcgojmbaaGreatDoorGrps
import Derived.StillTailTactics
namespace Go.Proofs.YtbpdnohcgojmbaaGreatDoor
open Go.RowKit
set_option linter.unusedVariables false

def U2 (n : Int) : Prop := 0 ≤ n ∧ n ≤ 65535
theorem or_low16 (X z : Int) (h0 : 0 ≤ X) (h1 : X < 281474976710656) (z0 : 0 ≤ z) (z1 : z ≤ 65535) : bits BinOp.or IntKind.u64 (IntKind.u64.wrap (X * 65536)) z = X * 65536 + z := by
  have e : IntKind.u64.wrap (X * 65536) = X * 65536 := by rw [IntKind.wrap_u64]; omega
  rw [e, u64_or _ _ (by omega) (by omega) z0 (by omega)]
  have e2 : (X * 65536).toNat = 2 ^ 16 * X.toNat := by omega
  rw [e2, ← Nat.two_pow_add_eq_or_of_lt (by omega)]
  omega
theorem or_lowS (X z : Int) (h0 : 0 ≤ X) (h1 : X < 281474976710656) (z0 : 0 ≤ z) (z1 : z ≤ 65535) : bits BinOp.or IntKind.u64 (X * 65536) z = X * 65536 + z := by
  have e : IntKind.u64.wrap (X * 65536) = X * 65536 := by rw [IntKind.wrap_u64]; omega
  have h := or_low16 X z h0 h1 z0 z1
  rwa [e] at h
/-- The number of four groups. -/
def n4 (a b c d : Int) : Int := ((a * 65536 + b) * 65536 + c) * 65536 + d

set_option maxRecDepth 100000 in
set_option maxHeartbeats 2000000 in
theorem gaddr_any (a0 a1 a2 a3 b0 b1 b2 b3 : Int) (ha0 : U2 a0) (ha1 : U2 a1) (ha2 : U2 a2) (ha3 : U2 a3) (hb0 : U2 b0) (hb1 : U2 b1) (hb2 : U2 b2) (hb3 : U2 b3) (w : World) :
    Calls Tryz.prog 57 #[.agg #[.int .u16 a0, .int .u16 a1, .int .u16 a2, .int .u16 a3, .int .u16 b0, .int .u16 b1, .int .u16 b2, .int .u16 b3]] w fun e w' => e = .returned (adr true (n4 a0 a1 a2 a3) (n4 b0 b1 b2 b3)) ∧ Below w.heap.size w w' := by
  obtain ⟨p0, q0⟩ := ha0
  obtain ⟨p1, q1⟩ := ha1
  obtain ⟨p2, q2⟩ := ha2
  obtain ⟨p3, q3⟩ := ha3
  obtain ⟨r0, s0⟩ := hb0
  obtain ⟨r1, s1⟩ := hb1
  obtain ⟨r2, s2⟩ := hb2
  obtain ⟨r3, s3⟩ := hb3
  go_enter Tryz.func57, Tryz.ntmps57
  go_wp2
  go_loopw [6] (fun i wr => ((i = .int .i64 0 ∧ Blk wr (w.heap.size + 1 + 1) 24 #[.bool true, .int .u64 0, .int .u64 0]) ∨ (i = .int .i64 1 ∧ Blk wr (w.heap.size + 1 + 1) 24 #[.bool true, .int .u64 a0, .int .u64 b0]) ∨ (i = .int .i64 2 ∧ Blk wr (w.heap.size + 1 + 1) 24 #[.bool true, .int .u64 (a0 * 65536 + a1), .int .u64 (b0 * 65536 + b1)]) ∨ (i = .int .i64 3 ∧ Blk wr (w.heap.size + 1 + 1) 24 #[.bool true, .int .u64 ((a0 * 65536 + a1) * 65536 + a2), .int .u64 ((b0 * 65536 + b1) * 65536 + b2)]) ∨ (i = .int .i64 4 ∧ Blk wr (w.heap.size + 1 + 1) 24 #[.bool true, .int .u64 (((a0 * 65536 + a1) * 65536 + a2) * 65536 + a3), .int .u64 (((b0 * 65536 + b1) * 65536 + b2) * 65536 + b3)])) ∧ Blk wr w.heap.size 75 #[.int .u16 a0, .int .u16 a1, .int .u16 a2, .int .u16 a3, .int .u16 b0, .int .u16 b1, .int .u16 b2, .int .u16 b3] ∧ Blk wr (w.heap.size + 1) 24 #[.bool false, .int .u64 0, .int .u64 0] ∧ Below w.heap.size w wr) (fun i _ => 4 - (intOf i).toNat)
  case atStart =>
    have h1 := (Blk.new (w.alloc (.cells #[.int .u16 a0, .int .u16 a1, .int .u16 a2, .int .u16 a3, .int .u16 b0, .int .u16 b1, .int .u16 b2, .int .u16 b3] 75)) 24 #[.bool false, .int .u64 0, .int .u64 0])
    have h2 := (Blk.new ((w.alloc (.cells #[.int .u16 a0, .int .u16 a1, .int .u16 a2, .int .u16 a3, .int .u16 b0, .int .u16 b1, .int .u16 b2, .int .u16 b3] 75)).alloc (.cells #[.bool false, .int .u64 0, .int .u64 0] 24)) 24 #[.bool true, .int .u64 0, .int .u64 0])
    rw [World.size_alloc] at h1
    rw [World.size_alloc, World.size_alloc] at h2
    exact ⟨Or.inl ⟨rfl, h2⟩, ((Blk.new w _ _).alloc _).alloc _, h1.alloc _, (((Below.refl _ w).alloc (Nat.le_refl _) _).alloc (by simp) _).alloc (by simp only [World.size_alloc]; omega) _⟩
  case round =>
    obtain ⟨hrel, hg, hr, hbel⟩ := hrel
    have HG := Lib.hid hg
    have HR := Lib.hid hr
    have HBl := Lib.hid hbel
    obtain ⟨c0, c1, c2, c3, c4, c5, c6, c7⟩ := hg.c8
    clear hg hr hbel
    rcases hrel with ⟨rfl, hb⟩ | ⟨rfl, hb⟩ | ⟨rfl, hb⟩ | ⟨rfl, hb⟩ | ⟨rfl, hb⟩
    · obtain ⟨d0, d1, d2⟩ := hb.c3
      have z1 := hb.frozen 1
      have HB := Lib.hid hb
      clear hb
      have EX : Hid (bits BinOp.or IntKind.u64 0 a0 = a0) := Lib.hid (by have h := or_lowS 0 a0 (by omega) (by omega) p0 q0; simpa using h)
      have EY : Hid (bits BinOp.or IntKind.u64 0 b0 = b0) := Lib.hid (by have h := or_lowS 0 b0 (by omega) (by omega) r0 s0; simpa using h)
      go_wp2
      go_still_tail 9, (by kernel_rfl)
      go_wp2
      have HB2 := Lib.hid (HB.out.set_ 1 (.int .u64 (bits BinOp.or IntKind.u64 0 a0)))
      have HG2 := Lib.hid (HG.out.far (p := ⟨w.heap.size + 1 + 1, 1, none⟩) (by simp; omega) (.int .u64 (bits BinOp.or IntKind.u64 0 a0)))
      have HR2 := Lib.hid (HR.out.far (p := ⟨w.heap.size + 1 + 1, 1, none⟩) (by simp) (.int .u64 (bits BinOp.or IntKind.u64 0 a0)))
      have HL2 := Lib.hid (HBl.out.setCell (p := ⟨w.heap.size + 1 + 1, 1, none⟩) (by simp; omega) (.int .u64 (bits BinOp.or IntKind.u64 0 a0)))
      clear c0 c1 c2 c3 c4 c5 c6 c7 d0 d1 d2 z1
      generalize wr.setCell ⟨w.heap.size + 1 + 1, 1, none⟩ (.int .u64 (bits BinOp.or IntKind.u64 0 a0)) = w1 at HB2 HG2 HR2 HL2 ⊢
      have HB2 := Lib.hid (HB2.out.drew)
      have HG2 := Lib.hid (HG2.out.drew)
      have HR2 := Lib.hid (HR2.out.drew)
      have HL2 := Lib.hid (HL2.out.drew)
      generalize w1.drew = w2 at HB2 HG2 HR2 HL2 ⊢
      obtain ⟨c0, c1, c2, c3, c4, c5, c6, c7⟩ := HG2.out.c8
      obtain ⟨d0, d1, d2⟩ := Blk.c3 HB2.out
      have z1 := HB2.out.frozen 2
      have hw1 : IntKind.i64.wrap (0 + 4) = 4 := by decide
      have hw2 : IntKind.i64.wrap 4 = 4 := by decide
      go_still_tail 10, (by kernel_rfl)
      go_wp2
      go_roundw
      case rel =>
        have h := (HB2.out.set_ 2 (.int .u64 (bits BinOp.or IntKind.u64 0 b0))).drew
        rw [EY.out] at h ⊢
        simp only [List.setIfInBounds_toArray, List.set_cons_zero, List.set_cons_succ] at h
        rw [EX.out] at h
        exact ⟨Or.inr (Or.inl ⟨rfl, h⟩), (HG2.out.far (by simp; omega) _).drew, (HR2.out.far (by simp) _).drew, (HL2.out.setCell (p := ⟨_, _, _⟩) (by simp; omega) _).drew⟩
      case measure => simp [intOf]
    · obtain ⟨d0, d1, d2⟩ := hb.c3
      have z1 := hb.frozen 1
      have HB := Lib.hid hb
      clear hb
      have EX : Hid (bits BinOp.or IntKind.u64 (a0 * 65536) a1 = (a0 * 65536 + a1)) := Lib.hid (by have h := or_lowS a0 a1 (by omega) (by omega) p1 q1; simpa using h)
      have EY : Hid (bits BinOp.or IntKind.u64 (b0 * 65536) b1 = (b0 * 65536 + b1)) := Lib.hid (by have h := or_lowS b0 b1 (by omega) (by omega) r1 s1; simpa using h)
      go_wp2
      go_still_tail 9, (by kernel_rfl)
      go_wp2
      have HB2 := Lib.hid (HB.out.set_ 1 (.int .u64 (bits BinOp.or IntKind.u64 (a0 * 65536) a1)))
      have HG2 := Lib.hid (HG.out.far (p := ⟨w.heap.size + 1 + 1, 1, none⟩) (by simp; omega) (.int .u64 (bits BinOp.or IntKind.u64 (a0 * 65536) a1)))
      have HR2 := Lib.hid (HR.out.far (p := ⟨w.heap.size + 1 + 1, 1, none⟩) (by simp) (.int .u64 (bits BinOp.or IntKind.u64 (a0 * 65536) a1)))
      have HL2 := Lib.hid (HBl.out.setCell (p := ⟨w.heap.size + 1 + 1, 1, none⟩) (by simp; omega) (.int .u64 (bits BinOp.or IntKind.u64 (a0 * 65536) a1)))
      clear c0 c1 c2 c3 c4 c5 c6 c7 d0 d1 d2 z1
      generalize wr.setCell ⟨w.heap.size + 1 + 1, 1, none⟩ (.int .u64 (bits BinOp.or IntKind.u64 (a0 * 65536) a1)) = w1 at HB2 HG2 HR2 HL2 ⊢
      have HB2 := Lib.hid (HB2.out.drew)
      have HG2 := Lib.hid (HG2.out.drew)
      have HR2 := Lib.hid (HR2.out.drew)
      have HL2 := Lib.hid (HL2.out.drew)
      generalize w1.drew = w2 at HB2 HG2 HR2 HL2 ⊢
      obtain ⟨c0, c1, c2, c3, c4, c5, c6, c7⟩ := HG2.out.c8
      obtain ⟨d0, d1, d2⟩ := Blk.c3 HB2.out
      have z1 := HB2.out.frozen 2
      have hw1 : IntKind.i64.wrap (1 + 4) = 5 := by decide
      have hw2 : IntKind.i64.wrap 5 = 5 := by decide
      go_still_tail 10, (by kernel_rfl)
      go_wp2
      go_roundw
      case rel =>
        have h := (HB2.out.set_ 2 (.int .u64 (bits BinOp.or IntKind.u64 (b0 * 65536) b1))).drew
        rw [EY.out] at h ⊢
        simp only [List.setIfInBounds_toArray, List.set_cons_zero, List.set_cons_succ] at h
        rw [EX.out] at h
        exact ⟨Or.inr (Or.inr (Or.inl ⟨rfl, h⟩)), (HG2.out.far (by simp; omega) _).drew, (HR2.out.far (by simp) _).drew, (HL2.out.setCell (p := ⟨_, _, _⟩) (by simp; omega) _).drew⟩
      case measure => simp [intOf]
    · obtain ⟨d0, d1, d2⟩ := hb.c3
      have z1 := hb.frozen 1
      have HB := Lib.hid hb
      clear hb
      have EX : Hid (bits BinOp.or IntKind.u64 ((a0 * 65536 + a1) * 65536) a2 = ((a0 * 65536 + a1) * 65536 + a2)) := Lib.hid (by have h := or_lowS (a0 * 65536 + a1) a2 (by omega) (by omega) p2 q2; simpa using h)
      have EY : Hid (bits BinOp.or IntKind.u64 ((b0 * 65536 + b1) * 65536) b2 = ((b0 * 65536 + b1) * 65536 + b2)) := Lib.hid (by have h := or_lowS (b0 * 65536 + b1) b2 (by omega) (by omega) r2 s2; simpa using h)
      go_wp2
      go_still_tail 9, (by kernel_rfl)
      go_wp2
      have HB2 := Lib.hid (HB.out.set_ 1 (.int .u64 (bits BinOp.or IntKind.u64 ((a0 * 65536 + a1) * 65536) a2)))
      have HG2 := Lib.hid (HG.out.far (p := ⟨w.heap.size + 1 + 1, 1, none⟩) (by simp; omega) (.int .u64 (bits BinOp.or IntKind.u64 ((a0 * 65536 + a1) * 65536) a2)))
      have HR2 := Lib.hid (HR.out.far (p := ⟨w.heap.size + 1 + 1, 1, none⟩) (by simp) (.int .u64 (bits BinOp.or IntKind.u64 ((a0 * 65536 + a1) * 65536) a2)))
      have HL2 := Lib.hid (HBl.out.setCell (p := ⟨w.heap.size + 1 + 1, 1, none⟩) (by simp; omega) (.int .u64 (bits BinOp.or IntKind.u64 ((a0 * 65536 + a1) * 65536) a2)))
      clear c0 c1 c2 c3 c4 c5 c6 c7 d0 d1 d2 z1
      generalize wr.setCell ⟨w.heap.size + 1 + 1, 1, none⟩ (.int .u64 (bits BinOp.or IntKind.u64 ((a0 * 65536 + a1) * 65536) a2)) = w1 at HB2 HG2 HR2 HL2 ⊢
      have HB2 := Lib.hid (HB2.out.drew)
      have HG2 := Lib.hid (HG2.out.drew)
      have HR2 := Lib.hid (HR2.out.drew)
      have HL2 := Lib.hid (HL2.out.drew)
      generalize w1.drew = w2 at HB2 HG2 HR2 HL2 ⊢
      obtain ⟨c0, c1, c2, c3, c4, c5, c6, c7⟩ := HG2.out.c8
      obtain ⟨d0, d1, d2⟩ := Blk.c3 HB2.out
      have z1 := HB2.out.frozen 2
      have hw1 : IntKind.i64.wrap (2 + 4) = 6 := by decide
      have hw2 : IntKind.i64.wrap 6 = 6 := by decide
      go_still_tail 10, (by kernel_rfl)
      go_wp2
      go_roundw
      case rel =>
        have h := (HB2.out.set_ 2 (.int .u64 (bits BinOp.or IntKind.u64 ((b0 * 65536 + b1) * 65536) b2))).drew
        rw [EY.out] at h ⊢
        simp only [List.setIfInBounds_toArray, List.set_cons_zero, List.set_cons_succ] at h
        rw [EX.out] at h
        exact ⟨Or.inr (Or.inr (Or.inr (Or.inl ⟨rfl, h⟩))), (HG2.out.far (by simp; omega) _).drew, (HR2.out.far (by simp) _).drew, (HL2.out.setCell (p := ⟨_, _, _⟩) (by simp; omega) _).drew⟩
      case measure => simp [intOf]
    · obtain ⟨d0, d1, d2⟩ := hb.c3
      have z1 := hb.frozen 1
      have HB := Lib.hid hb
      clear hb
      have EX : Hid (bits BinOp.or IntKind.u64 (((a0 * 65536 + a1) * 65536 + a2) * 65536) a3 = (((a0 * 65536 + a1) * 65536 + a2) * 65536 + a3)) := Lib.hid (by have h := or_lowS ((a0 * 65536 + a1) * 65536 + a2) a3 (by omega) (by omega) p3 q3; simpa using h)
      have EY : Hid (bits BinOp.or IntKind.u64 (((b0 * 65536 + b1) * 65536 + b2) * 65536) b3 = (((b0 * 65536 + b1) * 65536 + b2) * 65536 + b3)) := Lib.hid (by have h := or_lowS ((b0 * 65536 + b1) * 65536 + b2) b3 (by omega) (by omega) r3 s3; simpa using h)
      go_wp2
      go_still_tail 9, (by kernel_rfl)
      go_wp2
      have HB2 := Lib.hid (HB.out.set_ 1 (.int .u64 (bits BinOp.or IntKind.u64 (((a0 * 65536 + a1) * 65536 + a2) * 65536) a3)))
      have HG2 := Lib.hid (HG.out.far (p := ⟨w.heap.size + 1 + 1, 1, none⟩) (by simp; omega) (.int .u64 (bits BinOp.or IntKind.u64 (((a0 * 65536 + a1) * 65536 + a2) * 65536) a3)))
      have HR2 := Lib.hid (HR.out.far (p := ⟨w.heap.size + 1 + 1, 1, none⟩) (by simp) (.int .u64 (bits BinOp.or IntKind.u64 (((a0 * 65536 + a1) * 65536 + a2) * 65536) a3)))
      have HL2 := Lib.hid (HBl.out.setCell (p := ⟨w.heap.size + 1 + 1, 1, none⟩) (by simp; omega) (.int .u64 (bits BinOp.or IntKind.u64 (((a0 * 65536 + a1) * 65536 + a2) * 65536) a3)))
      clear c0 c1 c2 c3 c4 c5 c6 c7 d0 d1 d2 z1
      generalize wr.setCell ⟨w.heap.size + 1 + 1, 1, none⟩ (.int .u64 (bits BinOp.or IntKind.u64 (((a0 * 65536 + a1) * 65536 + a2) * 65536) a3)) = w1 at HB2 HG2 HR2 HL2 ⊢
      have HB2 := Lib.hid (HB2.out.drew)
      have HG2 := Lib.hid (HG2.out.drew)
      have HR2 := Lib.hid (HR2.out.drew)
      have HL2 := Lib.hid (HL2.out.drew)
      generalize w1.drew = w2 at HB2 HG2 HR2 HL2 ⊢
      obtain ⟨c0, c1, c2, c3, c4, c5, c6, c7⟩ := HG2.out.c8
      obtain ⟨d0, d1, d2⟩ := Blk.c3 HB2.out
      have z1 := HB2.out.frozen 2
      have hw1 : IntKind.i64.wrap (3 + 4) = 7 := by decide
      have hw2 : IntKind.i64.wrap 7 = 7 := by decide
      go_still_tail 10, (by kernel_rfl)
      go_wp2
      go_roundw
      case rel =>
        have h := (HB2.out.set_ 2 (.int .u64 (bits BinOp.or IntKind.u64 (((b0 * 65536 + b1) * 65536 + b2) * 65536) b3))).drew
        rw [EY.out] at h ⊢
        simp only [List.setIfInBounds_toArray, List.set_cons_zero, List.set_cons_succ] at h
        rw [EX.out] at h
        exact ⟨Or.inr (Or.inr (Or.inr (Or.inr (⟨rfl, h⟩)))), (HG2.out.far (by simp; omega) _).drew, (HR2.out.far (by simp) _).drew, (HL2.out.setCell (p := ⟨_, _, _⟩) (by simp; omega) _).drew⟩
      case measure => simp [intOf]
    · obtain ⟨d0, d1, d2⟩ := hb.c3
      obtain ⟨g1, g2, g3⟩ := HR.out.c3
      have z1 := HR.out.frozen 0
      have z2 := HR.out.frozen 1
      have z3 := HR.out.frozen 2
      clear hb
      go_wp2
      exact bodyPost_ret (v := adr true (n4 a0 a1 a2 a3) (n4 b0 b1 b2 b3)) (by simp [results, Tryz.results57, go_sem, g1, g2, g3]; exact ⟨rfl, rfl⟩) rfl ⟨rfl, ((HBl.out.setCell (p := ⟨_, _, _⟩) (by simp) _).setCell (p := ⟨_, _, _⟩) (by simp) _).setCell (p := ⟨_, _, _⟩) (by simp) _⟩
end Go.Proofs.YtbpdnohcgojmbaaGreatDoor
