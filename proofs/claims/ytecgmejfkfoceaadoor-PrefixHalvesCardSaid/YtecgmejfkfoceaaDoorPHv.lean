/-
  prefix.Halves of any range.
-/
import Derived.Test.YtecgmejfkfoceaaDoorPLast
import Derived.Deep.RegionHeld3
namespace Go.Proofs.YtecgmejfkfoceaaDoor
open Go.RowKit
set_option linter.unusedVariables false

def hvV (s : Bool) (h l : Nat) (b : Int) : Value :=
  if pvl s h l b && decide (b ≠ (wd s : Int)) then .tuple #[pfx s h l (b + 1), pfx s (upH h (kk s b) : Nat) (upL l (kk s b) : Nat) (b + 1), .int .i64 0] else .tuple #[pfx false 0 0 0, pfx false 0 0 0, .int .i64 1]

set_option maxRecDepth 100000 in
set_option maxHeartbeats 4000000 in
theorem halves_yes (s : Bool) (h l : Nat) (b : Int) (hh : N64 h) (hl : N64 l) (hp : pvl s h l b = true) (hb : b < (wd s : Int)) (w : World) :
    Calls Tryd.prog 27 #[pfx s h l b] w fun e w' => e = .returned (hvV s h l b) ∧ Below w.heap.size w w' := by
  obtain ⟨v, o, e⟩ := (pvl_iff hl).1 hp
  obtain ⟨o1, o2⟩ := okn_iff.1 o
  obtain ⟨q1, q2, q3⟩ := last_ok hh hl hp
  obtain ⟨p1, p2⟩ := half_ok hh hl hp hb
  obtain ⟨u1, u2, u3, u4, u5⟩ := up_spec hh hl hp hb
  have ks := kk_succ (s := s) o1
  have ok1 : okn s (b + 1) = true := okn_iff.2 ⟨by omega, by omega⟩
  obtain ⟨X, hX⟩ : ∃ X, ((h + (2 ^ (kk s b - 64) - 1) : Nat) : Int) = X := ⟨_, rfl⟩
  obtain ⟨Y, hY⟩ : ∃ Y, ((l + (2 ^ (min (kk s b) 64) - 1) : Nat) : Int) = Y := ⟨_, rfl⟩
  obtain ⟨W, hW⟩ : ∃ W, (wd s : Int) = W := ⟨_, rfl⟩
  obtain ⟨A, hA⟩ : ∃ A, ((upH h (kk s b) : Nat) : Int) = A := ⟨_, rfl⟩
  obtain ⟨B, hB⟩ : ∃ B, ((upL l (kk s b) : Nat) : Int) = B := ⟨_, rfl⟩
  have eR : hvV s h l b = .tuple #[pfx s h l (b + 1), pfx s A B (b + 1), .int .i64 0] := by
    unfold hvV
    rw [hp, if_pos (by simp; omega), hA, hB]
  have e1 : ofP s h l (b + 1) = .tuple #[pfx s h l (b + 1), .int .i64 0] := by
    rw [ofP_yes ⟨v, ok1⟩, ks, u4, u5]
  have e2 : ofP s (h + (2 ^ (kk s b - 64) - 1)) (l + (2 ^ (min (kk s b) 64) - 1)) (b + 1) = .tuple #[pfx s A B (b + 1), .int .i64 0] := by
    rw [ofP_yes ⟨q3, ok1⟩, ks, ← hA, ← hB]; rfl
  have HV := Lib.hid (fun w => pvalid_at s h l b hh hl hp w)
  have HW := Lib.hid (fun w => width_at s h l W hW w)
  have H1 := Lib.hid (fun w => ofP_at s h l (b + 1) hh hl e1 w)
  have H2 := Lib.hid (fun w => ofP_at s _ _ (b + 1) q1 q2 e2 w)
  have HL := Lib.hid (fun w => last_at s h l b hh hl hp hX hY w)
  rw [hX, hY] at H2
  have i1 : IntKind.i64.wrap (b + 1) = b + 1 := by
    have : wd s ≤ 128 := by unfold wd; split <;> omega
    rw [IntKind.wrap_i64]; omega
  have nW : ¬ b = W := by omega
  have w128 : W ≤ 128 := by rw [← hW]; unfold wd; split <;> omega
  have b127 : b ≤ 127 := by omega
  rw [eR]
  have I1 := Lib.hid i1
  clear i1 hX hY hA hB eR e1 e2 q3 p1 p2 u1 u2 u3 u4 u5 ks ok1 v o e hp o2 hb hW q1 q2
  go_enter Tryd.func27, Tryd.ntmps27
  go_wp2
  have K0 := Lib.hid (((Blk.new w 26 #[.bool s, .int .u64 h, .int .u64 l, .int .i64 b]).alloc (.cells #[.bool false, .int .u64 0, .int .u64 0, .int .i64 0] 26)).alloc (.cells #[.bool false, .int .u64 0, .int .u64 0, .int .i64 0] 26))
  have M0 := Lib.hid ((Blk.new (w.alloc (.cells #[.bool s, .int .u64 h, .int .u64 l, .int .i64 b] 26)) 26 #[.bool false, .int .u64 0, .int .u64 0, .int .i64 0]).alloc (.cells #[.bool false, .int .u64 0, .int .u64 0, .int .i64 0] 26))
  have N0 := Lib.hid (Blk.new ((w.alloc (.cells #[.bool s, .int .u64 h, .int .u64 l, .int .i64 b] 26)).alloc (.cells #[.bool false, .int .u64 0, .int .u64 0, .int .i64 0] 26)) 26 #[.bool false, .int .u64 0, .int .u64 0, .int .i64 0])
  have L0 := Lib.hid ((((Below.refl _ w).alloc (Nat.le_refl _) (.cells #[.bool s, .int .u64 h, .int .u64 l, .int .i64 b] 26)).alloc (by simp) (.cells #[.bool false, .int .u64 0, .int .u64 0, .int .i64 0] 26)).alloc (by simp only [World.size_alloc]; omega) (.cells #[.bool false, .int .u64 0, .int .u64 0, .int .i64 0] 26))
  have s0 : w.heap.size + 2 < (((w.alloc (.cells #[.bool s, .int .u64 h, .int .u64 l, .int .i64 b] 26)).alloc (.cells #[.bool false, .int .u64 0, .int .u64 0, .int .i64 0] 26)).alloc (.cells #[.bool false, .int .u64 0, .int .u64 0, .int .i64 0] 26)).heap.size := by simp only [World.size_alloc]; omega
  rw [World.size_alloc] at M0
  rw [World.size_alloc, World.size_alloc] at N0
  generalize ((w.alloc (.cells #[.bool s, .int .u64 h, .int .u64 l, .int .i64 b] 26)).alloc (.cells #[.bool false, .int .u64 0, .int .u64 0, .int .i64 0] 26)).alloc (.cells #[.bool false, .int .u64 0, .int .u64 0, .int .i64 0] 26) = w0 at *
  have HC : Hid (∀ W', Below w0.heap.size w0 W' →
     W'.cell? ⟨w.heap.size, 0, none⟩ = some (.bool s) ∧ W'.cell? ⟨w.heap.size, 1, none⟩ = some (.int .u64 h) ∧ W'.cell? ⟨w.heap.size, 2, none⟩ = some (.int .u64 l) ∧ W'.cell? ⟨w.heap.size, 3, none⟩ = some (.int .i64 b)) := by
    show ∀ W', _ → _
    intro W' hB
    exact (K0.out.below hB (by omega)).c4
  have hR : Below w0.heap.size w0 w0.drew := (Below.refl _ _).drew
  obtain ⟨f0, f1, f2, f3⟩ := K0.out.c4
  have gd : (!true) = false := rfl
  go_region_held3 (fun w' => w'.cell? ⟨w.heap.size, 0, none⟩ = some (.bool s) ∧ w'.cell? ⟨w.heap.size, 1, none⟩ = some (.int .u64 h) ∧ w'.cell? ⟨w.heap.size, 2, none⟩ = some (.int .u64 l) ∧ w'.cell? ⟨w.heap.size, 3, none⟩ = some (.int .i64 b))
    (first | exact HC.out _ hR | go_keep)
    (first
      | (go_at_call 17; (with_reducible refine Calls.mono (HV.out _) ?_); rintro e W' ⟨rfl, hb⟩; replace hR := hR.trans (hb.mono hR.size); clear hb)
      | (go_at_call 48; (with_reducible refine Calls.mono (HW.out _) ?_); rintro e W' ⟨rfl, hb⟩; replace hR := hR.trans (hb.mono hR.size); clear hb))
  have bw : (b == W) = false := by simpa using nW
  have L1 := Lib.hid (L0.out.trans (hR.mono L0.out.size))
  have R1 := Lib.hid hR
  have s1 : w.heap.size + 2 < W'.heap.size := Nat.lt_of_lt_of_le s0 hR.size
  clear f0 f1 f2 f3 hR
  obtain ⟨f0, f1, f2, f3⟩ := HC.out _ R1.out
  go_wp2_with fail
  refine Calls.mono (H1.out _) ?_
  rintro e w2 ⟨rfl, hb⟩
  clear f0 f1 f2 f3 bw gd
  have R2 := Lib.hid (((R1.out.trans (hb.mono R1.out.size))).alloc ((R1.out.trans (hb.mono R1.out.size))).size (.cells #[.bool s, .int .u64 h, .int .u64 l, .int .i64 (b + 1)] 26))
  have X2 := Lib.hid (Blk.new w2 26 #[.bool s, .int .u64 h, .int .u64 l, .int .i64 (b + 1)])
  have s2 : w.heap.size + 2 < w2.heap.size := Nat.lt_of_lt_of_le s1 hb.size
  obtain ⟨f0, f1, f2, f3⟩ := HC.out _ R2.out
  clear hb
  go_wp2
  have s3 : w2.heap.size < (w2.alloc (.cells #[.bool s, .int .u64 h, .int .u64 l, .int .i64 (b + 1)] 26)).heap.size := X2.out.lt
  clear f0 f1 f2 f3
  generalize w2.alloc (.cells #[.bool s, .int .u64 h, .int .u64 l, .int .i64 (b + 1)] 26) = w3 at *
  generalize w2.heap.size = g at *
  have HD : Hid (∀ W', Below w3.heap.size w3 W' →
     W'.cell? ⟨w.heap.size, 0, none⟩ = some (.bool s) ∧ W'.cell? ⟨w.heap.size, 1, none⟩ = some (.int .u64 h) ∧ W'.cell? ⟨w.heap.size, 2, none⟩ = some (.int .u64 l) ∧ W'.cell? ⟨w.heap.size, 3, none⟩ = some (.int .i64 b)) := by
    show ∀ W', _ → _
    intro W' hB
    exact HC.out _ (R2.out.trans (hB.mono R2.out.size))
  obtain ⟨f0, f1, f2, f3⟩ := HC.out _ R2.out
  have hR : Below w3.heap.size w3 w3.drew := (Below.refl _ _).drew
  have i1 := I1.out
  go_region_held3 (fun w' => w'.cell? ⟨w.heap.size, 0, none⟩ = some (.bool s) ∧ w'.cell? ⟨w.heap.size, 1, none⟩ = some (.int .u64 h) ∧ w'.cell? ⟨w.heap.size, 2, none⟩ = some (.int .u64 l) ∧ w'.cell? ⟨w.heap.size, 3, none⟩ = some (.int .i64 b))
    (first | exact HD.out _ hR | exact HD.out _ (hR.alloc hR.size _) | (refine HD.out _ ?_; repeat (first | exact hR | refine Below.setCell ?_ (by first | omega | (simp; omega) | simp) _)) | go_keep)
    (first
      | (go_at_call 56; (with_reducible refine Calls.mono (HL.out _) ?_); rintro e W5 ⟨rfl, hb⟩; (first | (have hB := Lib.hid (hB.out.below hb hB.out.lt)) | (have hB := Lib.hid ((Blk.new _ 26 #[.bool false, .int .u64 0, .int .u64 0, .int .i64 0]).below hb (by first | (simp only [World.size_alloc]; omega) | simp))) | (have hB := Lib.hid ((Blk.new w3.drew 26 #[.bool false, .int .u64 0, .int .u64 0, .int .i64 0]).below hb (by first | (simp; done) | (have := hb.size; simp at this; omega)))) | skip); have hz := hR.size; (first | replace hR := hR.trans (hb.mono hR.size) | replace hR := (hR.alloc hR.size _).trans (hb.mono (hR.alloc hR.size _).size)); obtain ⟨hc, hf⟩ := bcell hb; have hy := hR.size; (try (have hx : w3.heap.size < W5.heap.size := by have := hb.size; simp only [World.size_alloc, World.size_drew] at this; omega)); clear hb)
      | (go_at_call 13; (with_reducible refine Calls.mono (H2.out _) ?_); rintro e W6 ⟨rfl, hb⟩; (first | (have hB := Lib.hid (hB.out.below hb hB.out.lt)) | (have hB := Lib.hid ((Blk.new _ 26 #[.bool false, .int .u64 0, .int .u64 0, .int .i64 0]).below hb (by first | (simp only [World.size_alloc]; omega) | simp))) | (have hB := Lib.hid ((Blk.new w3.drew 26 #[.bool false, .int .u64 0, .int .u64 0, .int .i64 0]).below hb (by first | (simp; done) | (have := hb.size; simp at this; omega)))) | skip); have hz := hR.size; (first | replace hR := hR.trans (hb.mono hR.size) | replace hR := (hR.alloc hR.size _).trans (hb.mono (hR.alloc hR.size _).size)); obtain ⟨hc, hf⟩ := bcell hb; have hy := hR.size; (try (have hx : w3.heap.size < W6.heap.size := by have := hb.size; simp only [World.size_alloc] at this; omega)); clear hb))
  have HB := Blk.new W6 26 #[.bool s, .int .u64 A, .int .u64 B, .int .i64 (b + 1)]
  have HL5 := hR.alloc hR.size (.cells #[.bool s, .int .u64 A, .int .u64 B, .int .i64 (b + 1)] 26)
  have hG : w3.heap.size ≤ W6.heap.size := hR.size
  clear hc hf
  generalize W6.alloc (.cells #[.bool s, .int .u64 A, .int .u64 B, .int .i64 (b + 1)] 26) = w5 at *
  generalize W6.heap.size = G at *
  rotate_left
  have HB : Blk ((((W6.setCell ⟨W5.heap.size, 0, none⟩ (.bool s)).setCell ⟨W5.heap.size, 1, none⟩ (.int .u64 A)).setCell ⟨W5.heap.size, 2, none⟩ (.int .u64 B)).setCell ⟨W5.heap.size, 3, none⟩ (.int .i64 (b + 1))) W5.heap.size 26 #[.bool s, .int .u64 A, .int .u64 B, .int .i64 (b + 1)] := Blk.set_ (Blk.set_ (Blk.set_ (Blk.set_ hB.out 0 (.bool s)) 1 (.int .u64 A)) 2 (.int .u64 B)) 3 (.int .i64 (b + 1))
  have HL5 : Below w3.heap.size w3 ((((W6.setCell ⟨W5.heap.size, 0, none⟩ (.bool s)).setCell ⟨W5.heap.size, 1, none⟩ (.int .u64 A)).setCell ⟨W5.heap.size, 2, none⟩ (.int .u64 B)).setCell ⟨W5.heap.size, 3, none⟩ (.int .i64 (b + 1))) := (((hR.setCell (p := ⟨W5.heap.size, 0, none⟩) (by show w3.heap.size ≤ W5.heap.size; omega) _).setCell (p := ⟨W5.heap.size, 1, none⟩) (by show w3.heap.size ≤ W5.heap.size; omega) _).setCell (p := ⟨W5.heap.size, 2, none⟩) (by show w3.heap.size ≤ W5.heap.size; omega) _).setCell (p := ⟨W5.heap.size, 3, none⟩) (by show w3.heap.size ≤ W5.heap.size; omega) _
  have hG : w3.heap.size ≤ W5.heap.size := by omega
  clear hc hf
  change Exit.then _ _ _ _ ((((W6.setCell ⟨W5.heap.size, 0, none⟩ (.bool s)).setCell ⟨W5.heap.size, 1, none⟩ (.int .u64 A)).setCell ⟨W5.heap.size, 2, none⟩ (.int .u64 B)).setCell ⟨W5.heap.size, 3, none⟩ (.int .i64 (b + 1)))
  generalize (((W6.setCell ⟨W5.heap.size, 0, none⟩ (.bool s)).setCell ⟨W5.heap.size, 1, none⟩ (.int .u64 A)).setCell ⟨W5.heap.size, 2, none⟩ (.int .u64 B)).setCell ⟨W5.heap.size, 3, none⟩ (.int .i64 (b + 1)) = w5 at HB HL5 ⊢
  generalize hGG : W5.heap.size = G at HB hG ⊢
  rotate_left
  have HB : Blk ((((W6.setCell ⟨w3.heap.size, 0, none⟩ (.bool s)).setCell ⟨w3.heap.size, 1, none⟩ (.int .u64 A)).setCell ⟨w3.heap.size, 2, none⟩ (.int .u64 B)).setCell ⟨w3.heap.size, 3, none⟩ (.int .i64 (b + 1))) w3.heap.size 26 #[.bool s, .int .u64 A, .int .u64 B, .int .i64 (b + 1)] := Blk.set_ (Blk.set_ (Blk.set_ (Blk.set_ hB.out 0 (.bool s)) 1 (.int .u64 A)) 2 (.int .u64 B)) 3 (.int .i64 (b + 1))
  have HL5 : Below w3.heap.size w3 ((((W6.setCell ⟨w3.heap.size, 0, none⟩ (.bool s)).setCell ⟨w3.heap.size, 1, none⟩ (.int .u64 A)).setCell ⟨w3.heap.size, 2, none⟩ (.int .u64 B)).setCell ⟨w3.heap.size, 3, none⟩ (.int .i64 (b + 1))) := (((hR.setCell (p := ⟨w3.heap.size, 0, none⟩) (by show w3.heap.size ≤ w3.heap.size; omega) _).setCell (p := ⟨w3.heap.size, 1, none⟩) (by show w3.heap.size ≤ w3.heap.size; omega) _).setCell (p := ⟨w3.heap.size, 2, none⟩) (by show w3.heap.size ≤ w3.heap.size; omega) _).setCell (p := ⟨w3.heap.size, 3, none⟩) (by show w3.heap.size ≤ w3.heap.size; omega) _
  have hG : w3.heap.size ≤ w3.heap.size := by omega
  clear hc hf
  change Exit.then _ _ _ _ ((((W6.setCell ⟨w3.heap.size, 0, none⟩ (.bool s)).setCell ⟨w3.heap.size, 1, none⟩ (.int .u64 A)).setCell ⟨w3.heap.size, 2, none⟩ (.int .u64 B)).setCell ⟨w3.heap.size, 3, none⟩ (.int .i64 (b + 1)))
  generalize (((W6.setCell ⟨w3.heap.size, 0, none⟩ (.bool s)).setCell ⟨w3.heap.size, 1, none⟩ (.int .u64 A)).setCell ⟨w3.heap.size, 2, none⟩ (.int .u64 B)).setCell ⟨w3.heap.size, 3, none⟩ (.int .i64 (b + 1)) = w5 at HB HL5 ⊢
  generalize hGG : w3.heap.size = G at HB hG ⊢
  rotate_left
  all_goals
    have L5 := Lib.hid (R2.out.trans (HL5.mono R2.out.size))
    have X5 := Lib.hid (X2.out.below HL5 X2.out.lt)
    have M5 := Lib.hid (M0.out.below L5.out (by omega))
    have N5 := Lib.hid (N0.out.below L5.out (by omega))
    have d1 : ¬ w.heap.size + 1 = g := by omega
    have d2 : ¬ w.heap.size + 1 + 1 = g := by omega
    have d3 : ¬ w.heap.size + 1 = G := by omega
    have d4 : ¬ w.heap.size + 1 + 1 = G := by omega
    have d5 : ¬ g = w.heap.size + 1 := by omega
    have d6 : ¬ g = w.heap.size + 1 + 1 := by omega
    have d7 : ¬ G = w.heap.size + 1 := by omega
    have d8 : ¬ G = w.heap.size + 1 + 1 := by omega
    have HB5 := Lib.hid HB
    clear HB HL5 hR hz hy f0 f1 f2 f3 i1
    obtain ⟨x0, x1, x2, x3⟩ := X5.out.c4
    obtain ⟨y0, y1, y2, y3⟩ := HB5.out.c4
    obtain ⟨m0, m1, m2, m3⟩ := M5.out.c4
    obtain ⟨n0, n1, n2, n3⟩ := N5.out.c4
    have a0 := M5.out.frozen 0
    have a1 := M5.out.frozen 1
    have a2 := M5.out.frozen 2
    have a3 := M5.out.frozen 3
    have b0 := N5.out.frozen 0
    have b1 := N5.out.frozen 1
    have b2 := N5.out.frozen 2
    have b3 := N5.out.frozen 3
    go_wp2
    go_region_held3 (fun w' => w'.cell? ⟨g, 0, none⟩ = some (.bool s) ∧ w'.cell? ⟨g, 1, none⟩ = some (.int .u64 h) ∧ w'.cell? ⟨g, 2, none⟩ = some (.int .u64 l) ∧ w'.cell? ⟨g, 3, none⟩ = some (.int .i64 (b + 1)) ∧ w'.cell? ⟨G, 0, none⟩ = some (.bool s) ∧ w'.cell? ⟨G, 1, none⟩ = some (.int .u64 A) ∧ w'.cell? ⟨G, 2, none⟩ = some (.int .u64 B) ∧ w'.cell? ⟨G, 3, none⟩ = some (.int .i64 (b + 1)))
      (go_keep)
      (fail)
  all_goals
    go_wp2
    refine bodyPost_ret (v := .tuple #[pfx s h l (b + 1), pfx s A B (b + 1), .int .i64 0]) (by simp [results, Tryd.results27, go_sem, m0, m1, m2, m3, n0, n1, n2, n3]) rfl ⟨rfl, ?_⟩
    refine Below.drew ?_
    iterate 8 refine Below.setCell ?_ (by first | (simp; done) | (simp; omega)) _
    exact L0.out.trans (L5.out.mono L0.out.size)end Go.Proofs.YtecgmejfkfoceaaDoor
