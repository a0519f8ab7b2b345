/-
  prefix.Parse of any text, prefix.Print of any range.
-/
import Derived.Test.YtecgmejfkfoceaaDoorPTxt
import Derived.Test.YtecgmejfkfoceaaDoorPHold
import Derived.Test.YtecgmejfkfoceaaDoorPLast
import Derived.Test.YtecgmejfkfoceaaDoorParse
namespace Go.Proofs.YtecgmejfkfoceaaDoor
open Go.RowKit
set_option linter.unusedVariables false

theorem num_at (t : ByteArray) (b : List UInt8) (hb : t.data.toList = b) (hs : t.size ≤ 281474976710656) (w : World) (hE : Env w) :
    Calls Tryd.prog 55 #[.string t] w (NumOut (numw b) w) := by subst hb; exact num_any t hs w hE
theorem cut_uniq {c : UInt8} : ∀ {a b x y : List UInt8}, c ∉ a → c ∉ x → a ++ c :: b = x ++ c :: y → a = x ∧ b = y
  | [], b, [], y, _, _, e => ⟨rfl, by simpa using e⟩
  | [], b, p :: x, y, _, hx, e => absurd (by simp at e; simp [e.1]) hx
  | p :: a, b, [], y, ha, _, e => absurd (by simp at e; simp [e.1]) ha
  | p :: a, b, q :: x, y, ha, hx, e => by
    simp only [List.cons_append, List.cons.injEq] at e
    obtain ⟨h1, h2⟩ := cut_uniq (fun m => ha (by simp [m])) (fun m => hx (by simp [m])) e.2
    exact ⟨by rw [e.1, h1], h2⟩
theorem pz : (Value.agg #[.bool false, .int .u64 0, .int .u64 0, .int .i64 0]) = pfx false 0 0 0 := rfl

set_option maxRecDepth 100000 in
set_option maxHeartbeats 4000000 in
theorem pparse_any (s : ByteArray) (hs : s.size < 4294967281) (v : Value) (hv : Ppr s.data.toList v) (w : World) (hE : Env w) :
    Calls Tryd.prog 26 #[.string s] w fun e w' => e = .returned v ∧ Below w.heap.size w w' := by
  have hE1 := hE.alloc (.cells #[.bool false, .int .u64 0, .int .u64 0, .int .i64 0] 26)
  rcases hv with ⟨hm, rfl⟩ | ⟨a, b, ht, ha, hcase⟩
  · have hc : Lib.cut s.data.toList [47] = (s.data.toList, [], false) := by
      rcases cut_spl 47 s.data.toList with ⟨h, -⟩ | ⟨x, y, -, -, -, h, -⟩
      · exact h
      · exact absurd (by rw [h]; simp) hm
    have HC := Lib.hid (cut_no s 47 _ hE1 hs hc)
    clear hc hm hs
    go_enter Tryd.func26, Tryd.ntmps26
    go_wp2_with fail
    refine Calls.mono HC.out ?_
    rintro e w1 ⟨rfl, hb⟩
    have R1 := Lib.hid ((Blk.new w 26 #[.bool false, .int .u64 0, .int .u64 0, .int .i64 0]).below hb (by simp only [World.size_alloc]; omega))
    have L1 := Lib.hid (((Below.refl _ w).alloc (Nat.le_refl _) _).trans (hb.mono (by simp only [World.size_alloc]; omega)))
    clear hb
    obtain ⟨g0, g1, g2, g3⟩ := R1.out.c4
    have z0 := R1.out.frozen 0
    have z1 := R1.out.frozen 1
    have z2 := R1.out.frozen 2
    have z3 := R1.out.frozen 3
    go_wp2
    refine bodyPost_ret (v := .tuple #[pfx false 0 0 0, .int .i64 30]) (by simp [results, Tryd.results26, go_sem, g0, g1, g2, g3]) rfl ⟨rfl, ?_⟩
    iterate 4 refine Below.setCell ?_ (by simp) _
    exact L1.out
  · have hc : Lib.cut s.data.toList [47] = (a, b, true) := by
      rcases cut_spl 47 s.data.toList with ⟨-, h⟩ | ⟨x, y, h, -, -, e, hx⟩
      · rw [ht, spl_at ha] at h
        simp [spl_ne] at h
      · rw [ht] at e
        have := cut_uniq ha hx e
        rw [this.1, this.2]; exact h
    have HC := Lib.hid (cut_at s 47 a b _ hE1 hs hc)
    have hl : s.size = a.length + 1 + b.length := by rw [Lib.size_eq, ht]; simp; omega
    obtain ⟨A, hA⟩ : ∃ A : ByteArray, A = ⟨a.toArray⟩ := ⟨_, rfl⟩
    obtain ⟨B, hB⟩ : ∃ B : ByteArray, B = ⟨b.toArray⟩ := ⟨_, rfl⟩
    have eA : A.data.toList = a := by rw [hA]
    have eB : B.data.toList = b := by rw [hB]
    have sA : A.size < 4294967281 := by rw [Lib.size_eq, eA]; omega
    have sB : B.size ≤ 281474976710656 := by rw [Lib.size_eq, eB]; omega
    rw [← hA, ← hB] at HC
    have HP := Lib.hid (fun w hE => parse_any A sA w hE)
    have HN := Lib.hid (fun w hE => num_at B b eB sB w hE)
    rw [eA] at HP
    have hE1 := Lib.hid hE1
    clear hc ht ha hs hl hA hB eA eB sA sB
    rcases hcase with ⟨hp, rfl⟩ | ⟨x, h, l, hh, hl, hp, hcase⟩
    · rw [hp] at HP
      clear hp HN
      go_enter Tryd.func26, Tryd.ntmps26
      go_wp2_with fail
      refine Calls.mono HC.out ?_
      rintro e w1 ⟨rfl, hb⟩
      have R1 := Lib.hid ((Blk.new w 26 #[.bool false, .int .u64 0, .int .u64 0, .int .i64 0]).below hb (by simp only [World.size_alloc]; omega))
      have L1 := Lib.hid (((Below.refl _ w).alloc (Nat.le_refl _) _).trans (hb.mono (by simp only [World.size_alloc]; omega)))
      have E1 := hE1.out.below hb
      have s1 : w.heap.size < w1.heap.size := by have := hb.size; simp only [World.size_alloc] at this; omega
      clear hb
      go_wp2_with fail
      refine Calls.mono (HP.out _ E1) ?_
      rintro e w2 ⟨rfl, hb⟩
      have R2 := Lib.hid (R1.out.below hb s1)
      have L2 := Lib.hid (L1.out.trans (hb.mono L1.out.size))
      have E2 := E1.below hb
      have s2 : w.heap.size < w2.heap.size := by have := hb.size; omega
      clear hb
      obtain ⟨r0, r1, r2, r3⟩ := R2.out.c4
      have z0 := R2.out.frozen 0
      have z1 := R2.out.frozen 1
      have z2 := R2.out.frozen 2
      have z3 := R2.out.frozen 3
      have R9 := Lib.hid (R2.out.alloc (.cells #[.bool false, .int .u64 0, .int .u64 0] 24))
      obtain ⟨g0, g1, g2, g3⟩ := R9.out.c4
      have y0 := R9.out.frozen 0
      have y1 := R9.out.frozen 1
      have y2 := R9.out.frozen 2
      have y3 := R9.out.frozen 3
      go_wp2
      refine bodyPost_ret (v := .tuple #[pfx false 0 0 0, .int .i64 20]) (by simp [results, Tryd.results26, go_sem, cell_alloc_old, s2, r0, r1, r2, r3]) rfl ⟨rfl, ?_⟩
      refine Below.alloc ?_ (by simp; omega) _
      iterate 4 refine Below.setCell ?_ (by simp) _
      exact L2.out
    · rw [hp] at HP
      cases hnb : numw b with
      | none =>
        rw [hnb] at HN
        have hv : v = .tuple #[pfx false 0 0 0, .int .i64 30] := by
          rcases hcase with ⟨n, e, -⟩ | ⟨-, e⟩
          · rw [hnb] at e; cases e
          · exact e
        subst hv
        clear hcase hnb hp
        go_enter Tryd.func26, Tryd.ntmps26
        go_wp2_with fail
        refine Calls.mono HC.out ?_
        rintro e w1 ⟨rfl, hb⟩
        have R1 := Lib.hid ((Blk.new w 26 #[.bool false, .int .u64 0, .int .u64 0, .int .i64 0]).below hb (by simp only [World.size_alloc]; omega))
        have L1 := Lib.hid (((Below.refl _ w).alloc (Nat.le_refl _) _).trans (hb.mono (by simp only [World.size_alloc]; omega)))
        have E1 := hE1.out.below hb
        have s1 : w.heap.size < w1.heap.size := by have := hb.size; simp only [World.size_alloc] at this; omega
        clear hb
        go_wp2_with fail
        refine Calls.mono (HP.out _ E1) ?_
        rintro e w2 ⟨rfl, hb⟩
        have R2 := Lib.hid (R1.out.below hb s1)
        have L2 := Lib.hid (L1.out.trans (hb.mono L1.out.size))
        have E2 := E1.below hb
        have s2 : w.heap.size < w2.heap.size := by have := hb.size; omega
        clear hb
        have R2' := Lib.hid (R2.out.alloc (.cells #[.bool x, .int .u64 h, .int .u64 l] 24))
        have K2 := Lib.hid (Blk.new w2 24 #[.bool x, .int .u64 h, .int .u64 l])
        have L2' := Lib.hid (L2.out.alloc L2.out.size (.cells #[.bool x, .int .u64 h, .int .u64 l] 24))
        have E2' := E2.alloc (.cells #[.bool x, .int .u64 h, .int .u64 l] 24)
        go_wp2_with fail
        refine Calls.mono (HN.out _ E2') ?_
        rintro e w3 ⟨⟨y, rfl⟩, hb⟩
        have R3 := Lib.hid (R2'.out.below hb (by simp only [World.size_alloc]; omega))
        have K3 := Lib.hid (K2.out.below hb (by simp only [World.size_alloc]; omega))
        have L3 := Lib.hid (L2'.out.trans (hb.mono L2'.out.size))
        have E3 := E2'.below hb
        have s3 : w.heap.size < w3.heap.size := by have := hb.size; simp only [World.size_alloc] at this; omega
        clear hb
        obtain ⟨k0, k1, k2⟩ := K3.out.c3
        obtain ⟨r0, r1, r2, r3⟩ := R3.out.c4
        have z0 := R3.out.frozen 0
        have z1 := R3.out.frozen 1
        have z2 := R3.out.frozen 2
        have z3 := R3.out.frozen 3
        have R9 := Lib.hid (R3.out.alloc (.cells #[.bool x, .int .u64 h, .int .u64 l, .int .i64 y] 26))
        obtain ⟨g0, g1, g2, g3⟩ := R9.out.c4
        have y0 := R9.out.frozen 0
        have y1 := R9.out.frozen 1
        have y2 := R9.out.frozen 2
        have y3 := R9.out.frozen 3
        go_wp2
        refine bodyPost_ret (v := .tuple #[pfx false 0 0 0, .int .i64 30]) (by simp [results, Tryd.results26, go_sem, cell_alloc_old, s3, r0, r1, r2, r3]) rfl ⟨rfl, ?_⟩
        refine Below.alloc ?_ (by simp; omega) _
        iterate 4 refine Below.setCell ?_ (by simp) _
        exact L3.out
      | some n =>
        rw [hnb] at HN
        have hn := numw_lt hnb
        cases hpv : pvl x h l n with
        | false =>
          have hv : v = .tuple #[pfx false 0 0 0, .int .i64 30] := by
            rcases hcase with ⟨m, e, q, -⟩ | ⟨-, e⟩
            · rw [hnb] at e; cases e; rw [hpv] at q; cases q
            · exact e
          subst hv
          have HV := Lib.hid (fun w => pvalid_at x h l n hh hl hpv w)
          clear hcase hnb hp hpv
          go_enter Tryd.func26, Tryd.ntmps26
          go_wp2_with fail
          refine Calls.mono HC.out ?_
          rintro e w1 ⟨rfl, hb⟩
          have R1 := Lib.hid ((Blk.new w 26 #[.bool false, .int .u64 0, .int .u64 0, .int .i64 0]).below hb (by simp only [World.size_alloc]; omega))
          have L1 := Lib.hid (((Below.refl _ w).alloc (Nat.le_refl _) _).trans (hb.mono (by simp only [World.size_alloc]; omega)))
          have E1 := hE1.out.below hb
          have s1 : w.heap.size < w1.heap.size := by have := hb.size; simp only [World.size_alloc] at this; omega
          clear hb
          go_wp2_with fail
          refine Calls.mono (HP.out _ E1) ?_
          rintro e w2 ⟨rfl, hb⟩
          have R2 := Lib.hid (R1.out.below hb s1)
          have L2 := Lib.hid (L1.out.trans (hb.mono L1.out.size))
          have E2 := E1.below hb
          have s2 : w.heap.size < w2.heap.size := by have := hb.size; omega
          clear hb
          have R2' := Lib.hid (R2.out.alloc (.cells #[.bool x, .int .u64 h, .int .u64 l] 24))
          have K2 := Lib.hid (Blk.new w2 24 #[.bool x, .int .u64 h, .int .u64 l])
          have L2' := Lib.hid (L2.out.alloc L2.out.size (.cells #[.bool x, .int .u64 h, .int .u64 l] 24))
          have E2' := E2.alloc (.cells #[.bool x, .int .u64 h, .int .u64 l] 24)
          go_wp2_with fail
          refine Calls.mono (HN.out _ E2') ?_
          rintro e w3 ⟨rfl, hb⟩
          have R3 := Lib.hid (R2'.out.below hb (by simp only [World.size_alloc]; omega))
          have K3 := Lib.hid (K2.out.below hb (by simp only [World.size_alloc]; omega))
          have L3 := Lib.hid (L2'.out.trans (hb.mono L2'.out.size))
          have E3 := E2'.below hb
          have s3 : w.heap.size < w3.heap.size := by have := hb.size; simp only [World.size_alloc] at this; omega
          clear hb
          obtain ⟨k0, k1, k2⟩ := K3.out.c3
          have R3' := Lib.hid (R3.out.alloc (.cells #[.bool x, .int .u64 h, .int .u64 l, .int .i64 n] 26))
          have M3 := Lib.hid (Blk.new w3 26 #[.bool x, .int .u64 h, .int .u64 l, .int .i64 n])
          have L3' := Lib.hid (L3.out.alloc L3.out.size (.cells #[.bool x, .int .u64 h, .int .u64 l, .int .i64 n] 26))
          go_wp2_with fail
          refine Calls.mono (HV.out _) ?_
          rintro e w4 ⟨rfl, hb⟩
          clear k0 k1 k2
          have R4 := Lib.hid (R3'.out.below hb (by simp only [World.size_alloc]; omega))
          have M4 := Lib.hid (M3.out.below hb (by simp only [World.size_alloc]; omega))
          have L4 := Lib.hid (L3'.out.trans (hb.mono L3'.out.size))
          have s4 : w3.heap.size < w4.heap.size := by have := hb.size; simp only [World.size_alloc] at this; omega
          clear hb
          obtain ⟨g0, g1, g2, g3⟩ := R4.out.c4
          have z0 := R4.out.frozen 0
          have z1 := R4.out.frozen 1
          have z2 := R4.out.frozen 2
          have z3 := R4.out.frozen 3
          go_wp2
          refine bodyPost_ret (v := .tuple #[pfx false 0 0 0, .int .i64 30]) (by simp [results, Tryd.results26, go_sem, g0, g1, g2, g3]) rfl ⟨rfl, ?_⟩
          iterate 4 refine Below.setCell ?_ (by simp) _
          exact L4.out
        | true =>
          have hv : v = .tuple #[pfx x h l n, .int .i64 0] := by
            rcases hcase with ⟨m, e, q, e2⟩ | ⟨q, -⟩
            · rw [hnb] at e; cases e; exact e2
            · rw [q n hnb] at hpv; cases hpv
          subst hv
          have HV := Lib.hid (fun w => pvalid_at x h l n hh hl hpv w)
          clear hcase hnb hp hpv
          go_enter Tryd.func26, Tryd.ntmps26
          go_wp2_with fail
          refine Calls.mono HC.out ?_
          rintro e w1 ⟨rfl, hb⟩
          have R1 := Lib.hid ((Blk.new w 26 #[.bool false, .int .u64 0, .int .u64 0, .int .i64 0]).below hb (by simp only [World.size_alloc]; omega))
          have L1 := Lib.hid (((Below.refl _ w).alloc (Nat.le_refl _) _).trans (hb.mono (by simp only [World.size_alloc]; omega)))
          have E1 := hE1.out.below hb
          have s1 : w.heap.size < w1.heap.size := by have := hb.size; simp only [World.size_alloc] at this; omega
          clear hb
          go_wp2_with fail
          refine Calls.mono (HP.out _ E1) ?_
          rintro e w2 ⟨rfl, hb⟩
          have R2 := Lib.hid (R1.out.below hb s1)
          have L2 := Lib.hid (L1.out.trans (hb.mono L1.out.size))
          have E2 := E1.below hb
          have s2 : w.heap.size < w2.heap.size := by have := hb.size; omega
          clear hb
          have R2' := Lib.hid (R2.out.alloc (.cells #[.bool x, .int .u64 h, .int .u64 l] 24))
          have K2 := Lib.hid (Blk.new w2 24 #[.bool x, .int .u64 h, .int .u64 l])
          have L2' := Lib.hid (L2.out.alloc L2.out.size (.cells #[.bool x, .int .u64 h, .int .u64 l] 24))
          have E2' := E2.alloc (.cells #[.bool x, .int .u64 h, .int .u64 l] 24)
          go_wp2_with fail
          refine Calls.mono (HN.out _ E2') ?_
          rintro e w3 ⟨rfl, hb⟩
          have R3 := Lib.hid (R2'.out.below hb (by simp only [World.size_alloc]; omega))
          have K3 := Lib.hid (K2.out.below hb (by simp only [World.size_alloc]; omega))
          have L3 := Lib.hid (L2'.out.trans (hb.mono L2'.out.size))
          have E3 := E2'.below hb
          have s3 : w.heap.size < w3.heap.size := by have := hb.size; simp only [World.size_alloc] at this; omega
          clear hb
          obtain ⟨k0, k1, k2⟩ := K3.out.c3
          have R3' := Lib.hid (R3.out.alloc (.cells #[.bool x, .int .u64 h, .int .u64 l, .int .i64 n] 26))
          have M3 := Lib.hid (Blk.new w3 26 #[.bool x, .int .u64 h, .int .u64 l, .int .i64 n])
          have L3' := Lib.hid (L3.out.alloc L3.out.size (.cells #[.bool x, .int .u64 h, .int .u64 l, .int .i64 n] 26))
          go_wp2_with fail
          refine Calls.mono (HV.out _) ?_
          rintro e w4 ⟨rfl, hb⟩
          clear k0 k1 k2
          have R4 := Lib.hid (R3'.out.below hb (by simp only [World.size_alloc]; omega))
          have M4 := Lib.hid (M3.out.below hb (by simp only [World.size_alloc]; omega))
          have L4 := Lib.hid (L3'.out.trans (hb.mono L3'.out.size))
          have s4 : w3.heap.size < w4.heap.size := by have := hb.size; simp only [World.size_alloc] at this; omega
          clear hb
          obtain ⟨g0, g1, g2, g3⟩ := R4.out.c4
          have z0 := R4.out.frozen 0
          have z1 := R4.out.frozen 1
          have z2 := R4.out.frozen 2
          have z3 := R4.out.frozen 3
          obtain ⟨m0, m1, m2, m3⟩ := M4.out.c4
          go_wp2
          refine bodyPost_ret (v := .tuple #[pfx x h l n, .int .i64 0]) (by simp [results, Tryd.results26, go_sem, g0, g1, g2, g3]) rfl ⟨rfl, ?_⟩
          iterate 4 refine Below.setCell ?_ (by simp) _
          exact L4.out
end Go.Proofs.YtecgmejfkfoceaaDoor
