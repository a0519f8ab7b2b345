/-
  Several texts in one: PTxt, PTw, PPr.
-/
import Derived.Test.YtbpdnohcgojmbaaGreatDoorBrief
import Derived.Test.YtbpdnohcgojmbaaGreatDoorPNb
import Derived.Test.YtbpdnohcgojmbaaGreatDoorMgB
import Derived.Test.YtbpdnohcgojmbaaGreatDoorParse
import Derived.Test.YtbpdnohcgojmbaaGreatDoorPrint
import Derived.Lib.AppendIntMem

namespace Go.Proofs.YtbpdnohcgojmbaaGreatDoor
set_option linter.unusedVariables false

theorem d10_47 : ∀ m : Fin 256, (47 : UInt8) ∉ Lib.decDigits m.val := by decide +kernel
theorem numw_dig : ∀ m : Fin 129, numw (Lib.decDigits m.val) = some m.val := by decide +kernel
theorem dig_len : ∀ m : Fin 129, (Lib.decDigits m.val).length ≤ 3 := by decide +kernel
theorem d16_47 (z : Int) : (47 : UInt8) ∉ d16 z := by
  unfold d16
  intro h
  obtain ⟨n, hn, e⟩ := List.mem_map.1 h
  rcases lowd_mem _ _ _ hn with h1 | h1 <;>
  · have : (UInt8.ofNat n.toNat).toNat = 47 := by rw [e]; rfl
    rw [UInt8.toNat_ofNat'] at this
    omega
theorem join_47 {c : UInt8} {ws : List (List UInt8)} (hc : c ≠ 47) (h : ∀ x ∈ ws, (47 : UInt8) ∉ x) : (47 : UInt8) ∉ Lib.join ws [c] := by
  intro hm
  rcases mem_join hm with e | ⟨x, hx, hd⟩
  · exact hc e.symm
  · exact h x hx hd
theorem prn_47 (s : Bool) (h l : Int) : (47 : UInt8) ∉ prn s h l := by
  unfold prn
  split
  · split
    · have H : ∀ ys : List Int, ∀ x ∈ ys.map d16, (47 : UInt8) ∉ x := by
        intro ys x hx
        obtain ⟨z, _, rfl⟩ := List.mem_map.1 hx
        exact d16_47 z
      unfold prn6
      split
      · exact join_47 (by decide) (H _)
      · intro hm
        rcases List.mem_append.1 hm with hm | hm
        · rcases List.mem_append.1 hm with hm | hm
          · exact join_47 (by decide) (H _) hm
          · simp at hm
        · exact join_47 (by decide) (H _) hm
    · refine join_47 (by decide) ?_
      intro x hx
      obtain ⟨z, hz, rfl⟩ := List.mem_map.1 hx
      have hb := putOf_by 4 l z hz
      exact d10_47 ⟨z.toNat, by omega⟩
  · simp
theorem prn_len (s : Bool) (h l : Int) : (prn s h l).length ≤ 200 := by
  unfold prn
  split
  · split
    · have H : ∀ ys : List Int, ∀ x ∈ ys.map d16, x.length ≤ 4 := by
        intro ys x hx
        obtain ⟨z, _, rfl⟩ := List.mem_map.1 hx
        exact d16_len z
      have e8 : (gsOf h l).length = 8 := rfl
      unfold prn6
      split
      · have := join_len ((gsOf h l).map d16) 58 4 (H _)
        rw [List.length_map, e8] at this
        omega
      · have h1 := join_len (((gsOf h l).take (lng (gsOf h l)).1).map d16) 58 4 (H _)
        have h2 := join_len (((gsOf h l).drop ((lng (gsOf h l)).1 + (lng (gsOf h l)).2)).map d16) 58 4 (H _)
        rw [List.length_map, List.length_take, e8] at h1
        rw [List.length_map, List.length_drop, e8] at h2
        rw [List.length_append, List.length_append]
        simp only [List.length_cons, List.length_nil]
        omega
    · have := join_len ((putOf 4 l).map d10) 46 3 (by
        intro x hx
        obtain ⟨z, hz, rfl⟩ := List.mem_map.1 hx
        have hb := putOf_by 4 l z hz
        exact d10_len z (by omega) (by omega))
      rw [List.length_map, putOf_len] at this
      omega
  · simp

/-- What a range is told as. -/
def pprn (s : Bool) (h l : Nat) (b : Int) : List UInt8 := if pvl s h l b then prn s h l ++ 47 :: Lib.decDigits b.toNat else []
/-- What a text is read as. -/
def Ppr (t : List UInt8) (v : Value) : Prop :=
  ((47 : UInt8) ∉ t ∧ v = .tuple #[.agg #[.bool false, .int .u64 0, .int .u64 0, .int .i64 0], .int .i64 30]) ∨
  ∃ a b, t = a ++ 47 :: b ∧ (47 : UInt8) ∉ a ∧
    ((prsV a = .tuple #[adr false 0 0, .int .i64 20] ∧ v = .tuple #[.agg #[.bool false, .int .u64 0, .int .u64 0, .int .i64 0], .int .i64 20]) ∨
     ∃ (x : Bool) (h l : Nat), N64 h ∧ N64 l ∧ prsV a = .tuple #[adr x h l, .int .i64 0] ∧
      ((∃ n : Nat, numw b = some n ∧ pvl x h l n = true ∧ v = .tuple #[.agg #[.bool x, .int .u64 h, .int .u64 l, .int .i64 n], .int .i64 0]) ∨
       ((∀ n : Nat, numw b = some n → pvl x h l n = false) ∧ v = .tuple #[.agg #[.bool false, .int .u64 0, .int .u64 0, .int .i64 0], .int .i64 30])))
theorem ppr_any (t : List UInt8) : ∃ v, Ppr t v := by
  by_cases hm : (47 : UInt8) ∈ t
  · obtain ⟨a, b, rfl, ha⟩ := mem_cut hm
    rcases prs_short a with e | ⟨x, h, l, e, ⟨h0, h1⟩, ⟨l0, l1⟩, hv, _⟩
    · exact ⟨_, .inr ⟨a, b, rfl, ha, .inl ⟨e, rfl⟩⟩⟩
    · obtain ⟨hn, rfl⟩ := Int.eq_ofNat_of_zero_le h0
      obtain ⟨ln, rfl⟩ := Int.eq_ofNat_of_zero_le l0
      have h2 : N64 hn := by unfold N64; omega
      have l2 : N64 ln := by unfold N64; omega
      by_cases hk : ∃ n : Nat, numw b = some n ∧ pvl x hn ln n = true
      · obtain ⟨n, k1, k2⟩ := hk
        exact ⟨_, .inr ⟨a, b, rfl, ha, .inr ⟨x, hn, ln, h2, l2, e, .inl ⟨n, k1, k2, rfl⟩⟩⟩⟩
      · refine ⟨_, .inr ⟨a, b, rfl, ha, .inr ⟨x, hn, ln, h2, l2, e, .inr ⟨fun n k1 => ?_, rfl⟩⟩⟩⟩
        rw [Bool.eq_false_iff]
        intro k2
        exact hk ⟨n, k1, k2⟩
  · exact ⟨_, .inl ⟨hm, rfl⟩⟩
theorem n64_u6 {n : Nat} (h : N64 n) : U6 (n : Int) := by unfold N64 at h; unfold U6; omega
/-- What a valid range is told as is read as that range. -/
theorem ppr_prn {s : Bool} {h l : Nat} {b : Int} (hh : N64 h) (hl : N64 l) (p : pvl s h l b = true) : Ppr (pprn s h l b) (.tuple #[.agg #[.bool s, .int .u64 h, .int .u64 l, .int .i64 b], .int .i64 0]) := by
  obtain ⟨v, o, e⟩ := (pvl_iff hl).1 p
  obtain ⟨o1, o2⟩ := okn_iff.1 o
  have w128 : wd s ≤ 128 := by unfold wd; split <;> omega
  obtain ⟨n, rfl⟩ := Int.eq_ofNat_of_zero_le o1
  refine .inr ⟨prn s h l, Lib.decDigits n, ?_, prn_47 _ _ _, .inr ⟨s, h, l, hh, hl, prs_prn s h l (n64_u6 hh) (n64_u6 hl) v, .inl ⟨n, numw_dig ⟨n, by omega⟩, p, rfl⟩⟩⟩
  unfold pprn
  rw [if_pos p]
  rfl
theorem pprn_no {s : Bool} {h l : Nat} {b : Int} (p : pvl s h l b = false) : pprn s h l b = [] := by unfold pprn; rw [p]; rfl
theorem pprn_yes {s : Bool} {h l : Nat} {b : Int} (p : pvl s h l b = true) : pprn s h l b = prn s h l ++ 47 :: Lib.decDigits b.toNat := by unfold pprn; rw [p]; rfl
theorem pprn_ne {s : Bool} {h l : Nat} {b : Int} (p : pvl s h l b = true) : pprn s h l b ≠ [] := by rw [pprn_yes p]; simp
theorem pprn_len {s : Bool} {h l : Nat} {b : Int} (hl : N64 l) : (pprn s h l b).length ≤ 204 := by
  by_cases p : pvl s h l b = true
  · rw [pprn_yes p, List.length_append, List.length_cons]
    have h1 := prn_len s h l
    obtain ⟨o1, o2⟩ := okn_iff.1 ((pvl_iff hl).1 p).2.1
    have w128 : wd s ≤ 128 := by unfold wd; split <;> omega
    have h2 : (Lib.decDigits b.toNat).length ≤ 3 := dig_len ⟨b.toNat, by omega⟩
    omega
  · rw [pprn_no (by simpa using p)]; simp
end Go.Proofs.YtbpdnohcgojmbaaGreatDoor

namespace Go.Proofs.YtbpdnohcgojmbaaGreatDoor
open Go.RowKit
set_option linter.unusedVariables false

theorem num_at (t : ByteArray) (b : List UInt8) (hb : t.data.toList = b) (hs : t.size ≤ 281474976710656) (w : World) (hE : Env w) :
    Calls Tryz.prog 20 #[.string t] w (NumOut (numw b) w) := by subst hb; exact num_any t hs w hE
theorem cut_uniq {c : UInt8} : ∀ {a b x y : List UInt8}, c ∉ a → c ∉ x → a ++ c :: b = x ++ c :: y → a = x ∧ b = y
  | [], b, [], y, _, _, e => ⟨rfl, by simpa using e⟩
  | [], b, p :: x, y, _, hx, e => absurd (by simp at e; simp [e.1]) hx
  | p :: a, b, [], y, ha, _, e => absurd (by simp at e; simp [e.1]) ha
  | p :: a, b, q :: x, y, ha, hx, e => by
    simp only [List.cons_append, List.cons.injEq] at e
    obtain ⟨h1, h2⟩ := cut_uniq (fun m => ha (by simp [m])) (fun m => hx (by simp [m])) e.2
    exact ⟨by rw [e.1, h1], h2⟩
theorem pz : (Value.agg #[.bool false, .int .u64 0, .int .u64 0, .int .i64 0]) = pfx false 0 0 0 := rfl

set_option maxRecDepth 100000 in
set_option maxHeartbeats 4000000 in
theorem pparse_any (s : ByteArray) (hs : s.size < 4294967281) (v : Value) (hv : Ppr s.data.toList v) (w : World) (hE : Env w) :
    Calls Tryz.prog 5 #[.string s] w fun e w' => e = .returned v ∧ Below w.heap.size w w' := by
  have hE1 := hE.alloc (.cells #[.bool false, .int .u64 0, .int .u64 0, .int .i64 0] 26)
  rcases hv with ⟨hm, rfl⟩ | ⟨a, b, ht, ha, hcase⟩
  · have hc : Lib.cut s.data.toList [47] = (s.data.toList, [], false) := by
      rcases cut_spl 47 s.data.toList with ⟨h, -⟩ | ⟨x, y, -, -, -, h, -⟩
      · exact h
      · exact absurd (by rw [h]; simp) hm
    have HC := Lib.hid (cut_no s 47 _ hE1 hs hc)
    clear hc hm hs
    go_enter Tryz.func5, Tryz.ntmps5
    go_wp2_with fail
    refine Calls.mono HC.out ?_
    rintro e w1 ⟨rfl, hb⟩
    have R1 := Lib.hid ((Blk.new w 26 #[.bool false, .int .u64 0, .int .u64 0, .int .i64 0]).below hb (by simp only [World.size_alloc]; omega))
    have L1 := Lib.hid (((Below.refl _ w).alloc (Nat.le_refl _) _).trans (hb.mono (by simp only [World.size_alloc]; omega)))
    clear hb
    obtain ⟨g0, g1, g2, g3⟩ := R1.out.c4
    have z0 := R1.out.frozen 0
    have z1 := R1.out.frozen 1
    have z2 := R1.out.frozen 2
    have z3 := R1.out.frozen 3
    go_wp2
    refine bodyPost_ret (v := .tuple #[pfx false 0 0 0, .int .i64 30]) (by simp [results, Tryz.results5, go_sem, g0, g1, g2, g3]) rfl ⟨rfl, ?_⟩
    iterate 4 refine Below.setCell ?_ (by simp) _
    exact L1.out
  · have hc : Lib.cut s.data.toList [47] = (a, b, true) := by
      rcases cut_spl 47 s.data.toList with ⟨-, h⟩ | ⟨x, y, h, -, -, e, hx⟩
      · rw [ht, spl_at ha] at h
        simp [spl_ne] at h
      · rw [ht] at e
        have := cut_uniq ha hx e
        rw [this.1, this.2]; exact h
    have HC := Lib.hid (cut_at s 47 a b _ hE1 hs hc)
    have hl : s.size = a.length + 1 + b.length := by rw [Lib.size_eq, ht]; simp; omega
    obtain ⟨A, hA⟩ : ∃ A : ByteArray, A = ⟨a.toArray⟩ := ⟨_, rfl⟩
    obtain ⟨B, hB⟩ : ∃ B : ByteArray, B = ⟨b.toArray⟩ := ⟨_, rfl⟩
    have eA : A.data.toList = a := by rw [hA]
    have eB : B.data.toList = b := by rw [hB]
    have sA : A.size < 4294967281 := by rw [Lib.size_eq, eA]; omega
    have sB : B.size ≤ 281474976710656 := by rw [Lib.size_eq, eB]; omega
    rw [← hA, ← hB] at HC
    have HP := Lib.hid (fun w hE => parse_any A sA w hE)
    have HN := Lib.hid (fun w hE => num_at B b eB sB w hE)
    rw [eA] at HP
    have hE1 := Lib.hid hE1
    clear hc ht ha hs hl hA hB eA eB sA sB
    rcases hcase with ⟨hp, rfl⟩ | ⟨x, h, l, hh, hl, hp, hcase⟩
    · rw [hp] at HP
      clear hp HN
      go_enter Tryz.func5, Tryz.ntmps5
      go_wp2_with fail
      refine Calls.mono HC.out ?_
      rintro e w1 ⟨rfl, hb⟩
      have R1 := Lib.hid ((Blk.new w 26 #[.bool false, .int .u64 0, .int .u64 0, .int .i64 0]).below hb (by simp only [World.size_alloc]; omega))
      have L1 := Lib.hid (((Below.refl _ w).alloc (Nat.le_refl _) _).trans (hb.mono (by simp only [World.size_alloc]; omega)))
      have E1 := hE1.out.below hb
      have s1 : w.heap.size < w1.heap.size := by have := hb.size; simp only [World.size_alloc] at this; omega
      clear hb
      go_wp2_with fail
      refine Calls.mono (HP.out _ E1) ?_
      rintro e w2 ⟨rfl, hb⟩
      have R2 := Lib.hid (R1.out.below hb s1)
      have L2 := Lib.hid (L1.out.trans (hb.mono L1.out.size))
      have E2 := E1.below hb
      have s2 : w.heap.size < w2.heap.size := by have := hb.size; omega
      clear hb
      obtain ⟨r0, r1, r2, r3⟩ := R2.out.c4
      have z0 := R2.out.frozen 0
      have z1 := R2.out.frozen 1
      have z2 := R2.out.frozen 2
      have z3 := R2.out.frozen 3
      have R9 := Lib.hid (R2.out.alloc (.cells #[.bool false, .int .u64 0, .int .u64 0] 24))
      obtain ⟨g0, g1, g2, g3⟩ := R9.out.c4
      have y0 := R9.out.frozen 0
      have y1 := R9.out.frozen 1
      have y2 := R9.out.frozen 2
      have y3 := R9.out.frozen 3
      go_wp2
      refine bodyPost_ret (v := .tuple #[pfx false 0 0 0, .int .i64 20]) (by simp [results, Tryz.results5, go_sem, cell_alloc_old, s2, r0, r1, r2, r3]) rfl ⟨rfl, ?_⟩
      refine Below.alloc ?_ (by simp; omega) _
      iterate 4 refine Below.setCell ?_ (by simp) _
      exact L2.out
    · rw [hp] at HP
      cases hnb : numw b with
      | none =>
        rw [hnb] at HN
        have hv : v = .tuple #[pfx false 0 0 0, .int .i64 30] := by
          rcases hcase with ⟨n, e, -⟩ | ⟨-, e⟩
          · rw [hnb] at e; cases e
          · exact e
        subst hv
        clear hcase hnb hp
        go_enter Tryz.func5, Tryz.ntmps5
        go_wp2_with fail
        refine Calls.mono HC.out ?_
        rintro e w1 ⟨rfl, hb⟩
        have R1 := Lib.hid ((Blk.new w 26 #[.bool false, .int .u64 0, .int .u64 0, .int .i64 0]).below hb (by simp only [World.size_alloc]; omega))
        have L1 := Lib.hid (((Below.refl _ w).alloc (Nat.le_refl _) _).trans (hb.mono (by simp only [World.size_alloc]; omega)))
        have E1 := hE1.out.below hb
        have s1 : w.heap.size < w1.heap.size := by have := hb.size; simp only [World.size_alloc] at this; omega
        clear hb
        go_wp2_with fail
        refine Calls.mono (HP.out _ E1) ?_
        rintro e w2 ⟨rfl, hb⟩
        have R2 := Lib.hid (R1.out.below hb s1)
        have L2 := Lib.hid (L1.out.trans (hb.mono L1.out.size))
        have E2 := E1.below hb
        have s2 : w.heap.size < w2.heap.size := by have := hb.size; omega
        clear hb
        have R2' := Lib.hid (R2.out.alloc (.cells #[.bool x, .int .u64 h, .int .u64 l] 24))
        have K2 := Lib.hid (Blk.new w2 24 #[.bool x, .int .u64 h, .int .u64 l])
        have L2' := Lib.hid (L2.out.alloc L2.out.size (.cells #[.bool x, .int .u64 h, .int .u64 l] 24))
        have E2' := E2.alloc (.cells #[.bool x, .int .u64 h, .int .u64 l] 24)
        go_wp2_with fail
        refine Calls.mono (HN.out _ E2') ?_
        rintro e w3 ⟨⟨y, rfl⟩, hb⟩
        have R3 := Lib.hid (R2'.out.below hb (by simp only [World.size_alloc]; omega))
        have K3 := Lib.hid (K2.out.below hb (by simp only [World.size_alloc]; omega))
        have L3 := Lib.hid (L2'.out.trans (hb.mono L2'.out.size))
        have E3 := E2'.below hb
        have s3 : w.heap.size < w3.heap.size := by have := hb.size; simp only [World.size_alloc] at this; omega
        clear hb
        obtain ⟨k0, k1, k2⟩ := K3.out.c3
        obtain ⟨r0, r1, r2, r3⟩ := R3.out.c4
        have z0 := R3.out.frozen 0
        have z1 := R3.out.frozen 1
        have z2 := R3.out.frozen 2
        have z3 := R3.out.frozen 3
        have R9 := Lib.hid (R3.out.alloc (.cells #[.bool x, .int .u64 h, .int .u64 l, .int .i64 y] 26))
        obtain ⟨g0, g1, g2, g3⟩ := R9.out.c4
        have y0 := R9.out.frozen 0
        have y1 := R9.out.frozen 1
        have y2 := R9.out.frozen 2
        have y3 := R9.out.frozen 3
        go_wp2
        refine bodyPost_ret (v := .tuple #[pfx false 0 0 0, .int .i64 30]) (by simp [results, Tryz.results5, go_sem, cell_alloc_old, s3, r0, r1, r2, r3]) rfl ⟨rfl, ?_⟩
        refine Below.alloc ?_ (by simp; omega) _
        iterate 4 refine Below.setCell ?_ (by simp) _
        exact L3.out
      | some n =>
        rw [hnb] at HN
        have hn := numw_lt hnb
        cases hpv : pvl x h l n with
        | false =>
          have hv : v = .tuple #[pfx false 0 0 0, .int .i64 30] := by
            rcases hcase with ⟨m, e, q, -⟩ | ⟨-, e⟩
            · rw [hnb] at e; cases e; rw [hpv] at q; cases q
            · exact e
          subst hv
          have HV := Lib.hid (fun w => pvalid_at x h l n hh hl hpv w)
          clear hcase hnb hp hpv
          go_enter Tryz.func5, Tryz.ntmps5
          go_wp2_with fail
          refine Calls.mono HC.out ?_
          rintro e w1 ⟨rfl, hb⟩
          have R1 := Lib.hid ((Blk.new w 26 #[.bool false, .int .u64 0, .int .u64 0, .int .i64 0]).below hb (by simp only [World.size_alloc]; omega))
          have L1 := Lib.hid (((Below.refl _ w).alloc (Nat.le_refl _) _).trans (hb.mono (by simp only [World.size_alloc]; omega)))
          have E1 := hE1.out.below hb
          have s1 : w.heap.size < w1.heap.size := by have := hb.size; simp only [World.size_alloc] at this; omega
          clear hb
          go_wp2_with fail
          refine Calls.mono (HP.out _ E1) ?_
          rintro e w2 ⟨rfl, hb⟩
          have R2 := Lib.hid (R1.out.below hb s1)
          have L2 := Lib.hid (L1.out.trans (hb.mono L1.out.size))
          have E2 := E1.below hb
          have s2 : w.heap.size < w2.heap.size := by have := hb.size; omega
          clear hb
          have R2' := Lib.hid (R2.out.alloc (.cells #[.bool x, .int .u64 h, .int .u64 l] 24))
          have K2 := Lib.hid (Blk.new w2 24 #[.bool x, .int .u64 h, .int .u64 l])
          have L2' := Lib.hid (L2.out.alloc L2.out.size (.cells #[.bool x, .int .u64 h, .int .u64 l] 24))
          have E2' := E2.alloc (.cells #[.bool x, .int .u64 h, .int .u64 l] 24)
          go_wp2_with fail
          refine Calls.mono (HN.out _ E2') ?_
          rintro e w3 ⟨rfl, hb⟩
          have R3 := Lib.hid (R2'.out.below hb (by simp only [World.size_alloc]; omega))
          have K3 := Lib.hid (K2.out.below hb (by simp only [World.size_alloc]; omega))
          have L3 := Lib.hid (L2'.out.trans (hb.mono L2'.out.size))
          have E3 := E2'.below hb
          have s3 : w.heap.size < w3.heap.size := by have := hb.size; simp only [World.size_alloc] at this; omega
          clear hb
          obtain ⟨k0, k1, k2⟩ := K3.out.c3
          have R3' := Lib.hid (R3.out.alloc (.cells #[.bool x, .int .u64 h, .int .u64 l, .int .i64 n] 26))
          have M3 := Lib.hid (Blk.new w3 26 #[.bool x, .int .u64 h, .int .u64 l, .int .i64 n])
          have L3' := Lib.hid (L3.out.alloc L3.out.size (.cells #[.bool x, .int .u64 h, .int .u64 l, .int .i64 n] 26))
          go_wp2_with fail
          refine Calls.mono (HV.out _) ?_
          rintro e w4 ⟨rfl, hb⟩
          clear k0 k1 k2
          have R4 := Lib.hid (R3'.out.below hb (by simp only [World.size_alloc]; omega))
          have M4 := Lib.hid (M3.out.below hb (by simp only [World.size_alloc]; omega))
          have L4 := Lib.hid (L3'.out.trans (hb.mono L3'.out.size))
          have s4 : w3.heap.size < w4.heap.size := by have := hb.size; simp only [World.size_alloc] at this; omega
          clear hb
          obtain ⟨g0, g1, g2, g3⟩ := R4.out.c4
          have z0 := R4.out.frozen 0
          have z1 := R4.out.frozen 1
          have z2 := R4.out.frozen 2
          have z3 := R4.out.frozen 3
          go_wp2
          refine bodyPost_ret (v := .tuple #[pfx false 0 0 0, .int .i64 30]) (by simp [results, Tryz.results5, go_sem, g0, g1, g2, g3]) rfl ⟨rfl, ?_⟩
          iterate 4 refine Below.setCell ?_ (by simp) _
          exact L4.out
        | true =>
          have hv : v = .tuple #[pfx x h l n, .int .i64 0] := by
            rcases hcase with ⟨m, e, q, e2⟩ | ⟨q, -⟩
            · rw [hnb] at e; cases e; exact e2
            · rw [q n hnb] at hpv; cases hpv
          subst hv
          have HV := Lib.hid (fun w => pvalid_at x h l n hh hl hpv w)
          clear hcase hnb hp hpv
          go_enter Tryz.func5, Tryz.ntmps5
          go_wp2_with fail
          refine Calls.mono HC.out ?_
          rintro e w1 ⟨rfl, hb⟩
          have R1 := Lib.hid ((Blk.new w 26 #[.bool false, .int .u64 0, .int .u64 0, .int .i64 0]).below hb (by simp only [World.size_alloc]; omega))
          have L1 := Lib.hid (((Below.refl _ w).alloc (Nat.le_refl _) _).trans (hb.mono (by simp only [World.size_alloc]; omega)))
          have E1 := hE1.out.below hb
          have s1 : w.heap.size < w1.heap.size := by have := hb.size; simp only [World.size_alloc] at this; omega
          clear hb
          go_wp2_with fail
          refine Calls.mono (HP.out _ E1) ?_
          rintro e w2 ⟨rfl, hb⟩
          have R2 := Lib.hid (R1.out.below hb s1)
          have L2 := Lib.hid (L1.out.trans (hb.mono L1.out.size))
          have E2 := E1.below hb
          have s2 : w.heap.size < w2.heap.size := by have := hb.size; omega
          clear hb
          have R2' := Lib.hid (R2.out.alloc (.cells #[.bool x, .int .u64 h, .int .u64 l] 24))
          have K2 := Lib.hid (Blk.new w2 24 #[.bool x, .int .u64 h, .int .u64 l])
          have L2' := Lib.hid (L2.out.alloc L2.out.size (.cells #[.bool x, .int .u64 h, .int .u64 l] 24))
          have E2' := E2.alloc (.cells #[.bool x, .int .u64 h, .int .u64 l] 24)
          go_wp2_with fail
          refine Calls.mono (HN.out _ E2') ?_
          rintro e w3 ⟨rfl, hb⟩
          have R3 := Lib.hid (R2'.out.below hb (by simp only [World.size_alloc]; omega))
          have K3 := Lib.hid (K2.out.below hb (by simp only [World.size_alloc]; omega))
          have L3 := Lib.hid (L2'.out.trans (hb.mono L2'.out.size))
          have E3 := E2'.below hb
          have s3 : w.heap.size < w3.heap.size := by have := hb.size; simp only [World.size_alloc] at this; omega
          clear hb
          obtain ⟨k0, k1, k2⟩ := K3.out.c3
          have R3' := Lib.hid (R3.out.alloc (.cells #[.bool x, .int .u64 h, .int .u64 l, .int .i64 n] 26))
          have M3 := Lib.hid (Blk.new w3 26 #[.bool x, .int .u64 h, .int .u64 l, .int .i64 n])
          have L3' := Lib.hid (L3.out.alloc L3.out.size (.cells #[.bool x, .int .u64 h, .int .u64 l, .int .i64 n] 26))
          go_wp2_with fail
          refine Calls.mono (HV.out _) ?_
          rintro e w4 ⟨rfl, hb⟩
          clear k0 k1 k2
          have R4 := Lib.hid (R3'.out.below hb (by simp only [World.size_alloc]; omega))
          have M4 := Lib.hid (M3.out.below hb (by simp only [World.size_alloc]; omega))
          have L4 := Lib.hid (L3'.out.trans (hb.mono L3'.out.size))
          have s4 : w3.heap.size < w4.heap.size := by have := hb.size; simp only [World.size_alloc] at this; omega
          clear hb
          obtain ⟨g0, g1, g2, g3⟩ := R4.out.c4
          have z0 := R4.out.frozen 0
          have z1 := R4.out.frozen 1
          have z2 := R4.out.frozen 2
          have z3 := R4.out.frozen 3
          obtain ⟨m0, m1, m2, m3⟩ := M4.out.c4
          go_wp2
          refine bodyPost_ret (v := .tuple #[pfx x h l n, .int .i64 0]) (by simp [results, Tryz.results5, go_sem, g0, g1, g2, g3]) rfl ⟨rfl, ?_⟩
          iterate 4 refine Below.setCell ?_ (by simp) _
          exact L4.out
end Go.Proofs.YtbpdnohcgojmbaaGreatDoor

namespace Go.Proofs.YtbpdnohcgojmbaaGreatDoor
open Go.RowKit
set_option linter.unusedVariables false

theorem itoa_at (b : Int) (h0 : 0 ≤ b) (h1 : b ≤ 200) (w : World) (hE : Env w) :
    Calls Tryz.prog 24 #[.int .i64 b] w fun e w' => e = .returned (.string ⟨(Lib.decDigits b.toNat).toArray⟩) ∧ Below w.heap.size w w' := by
  refine (Tryz.strconv_Itoa b (by omega) (by omega) w hE.2.2.2.1).mono ?_
  rintro e w' ⟨rfl, k, os, rfl⟩
  obtain ⟨n, rfl⟩ := Int.eq_ofNat_of_zero_le h0
  refine ⟨by rw [Lib.itoa_nonneg]; rfl, ?_⟩
  exact Go.Lib.below_grow w.heap.size w (Nat.le_refl _) k os
set_option maxRecDepth 100000 in
set_option maxHeartbeats 4000000 in
theorem pprint_any (s : Bool) (h l : Nat) (b : Int) (hh : N64 h) (hl : N64 l) (w : World) (hE : Env w) :
    Calls Tryz.prog 7 #[pfx s h l b] w fun e w' => e = .returned (.string ⟨(pprn s h l b).toArray⟩) ∧ Below w.heap.size w w' := by
  have hE1 := Lib.hid (hE.alloc (.cells #[.bool s, .int .u64 h, .int .u64 l, .int .i64 b] 26))
  cases hp : pvl s h l b
  · have HV := Lib.hid (fun w => pvalid_at s h l b hh hl hp w)
    rw [pprn_no hp]
    clear hp
    go_enter Tryz.func7, Tryz.ntmps7
    go_wp2_with fail
    refine Calls.mono (HV.out _) ?_
    rintro e w1 ⟨rfl, hb⟩
    have L1 := Lib.hid (((Below.refl _ w).alloc (Nat.le_refl _) _).trans (hb.mono (by simp only [World.size_alloc]; omega)))
    clear hb
    go_wp2
    go_ret
    exact ⟨rfl, L1.out⟩
  · have HV := Lib.hid (fun w => pvalid_at s h l b hh hl hp w)
    obtain ⟨o1, o2⟩ := okn_iff.1 ((pvl_iff hl).1 hp).2.1
    have w128 : wd s ≤ 128 := by unfold wd; split <;> omega
    have HP := Lib.hid (fun w hE => print_any s h l (n64_u6 hh) (n64_u6 hl) w hE)
    have HI := Lib.hid (fun w hE => itoa_at b o1 (by omega) w hE)
    have e := pprn_yes hp
    have q1 := prn_len s h l
    have q2 : (Lib.decDigits b.toNat).length ≤ 3 := dig_len ⟨b.toNat, by omega⟩
    obtain ⟨P, hP⟩ : ∃ P : ByteArray, P = ⟨(prn s h l).toArray⟩ := ⟨_, rfl⟩
    obtain ⟨D, hD⟩ : ∃ D : ByteArray, D = ⟨(Lib.decDigits b.toNat).toArray⟩ := ⟨_, rfl⟩
    have sP : P.size ≤ 200 := by rw [hP, Lib.size_eq]; exact q1
    have sD : D.size ≤ 3 := by rw [hD, Lib.size_eq]; exact q2
    rw [← hP] at HP
    rw [← hD] at HI
    have hR : (⟨(pprn s h l b).toArray⟩ : ByteArray) = P ++ ⟨#[47]⟩ ++ D := by
      rw [e, hP, hD]
      apply ByteArray.ext
      simp
    rw [hR]
    have hadd1 : ∀ W : World, (Op.stringOp .add P ⟨#[47]⟩).run Tryz.prog W = .ok (.string (P ++ ⟨#[47]⟩)) W := fun W => run_string_add_sum _ _ _ (by show P.size + 1 ≤ _; omega)
    have hadd2 : ∀ W : World, (Op.stringOp .add (P ++ ⟨#[47]⟩) D).run Tryz.prog W = .ok (.string (P ++ ⟨#[47]⟩ ++ D)) W := fun W => run_string_add_sum _ _ _ (by rw [ByteArray.size_append]; show P.size + 1 + D.size ≤ _; omega)
    clear hp o2 w128 e q1 q2 hP hD sP sD hR o1
    go_enter Tryz.func7, Tryz.ntmps7
    go_wp2_with fail
    refine Calls.mono (HV.out _) ?_
    rintro e w1 ⟨rfl, hb⟩
    have K1 := Lib.hid ((Blk.new w 26 #[.bool s, .int .u64 h, .int .u64 l, .int .i64 b]).below hb (by simp only [World.size_alloc]; omega))
    have L1 := Lib.hid (((Below.refl _ w).alloc (Nat.le_refl _) _).trans (hb.mono (by simp only [World.size_alloc]; omega)))
    have E1 := Lib.hid (hE1.out.below hb)
    have s1 : w.heap.size < w1.heap.size := by have := hb.size; simp only [World.size_alloc] at this; omega
    clear hb
    have HC : Hid (∀ W', Below w1.heap.size w1 W' → W'.cell? ⟨w.heap.size, 0, none⟩ = some (.bool s) ∧ W'.cell? ⟨w.heap.size, 1, none⟩ = some (.int .u64 h) ∧ W'.cell? ⟨w.heap.size, 2, none⟩ = some (.int .u64 l) ∧ W'.cell? ⟨w.heap.size, 3, none⟩ = some (.int .i64 b)) := by
      show ∀ W', _ → _
      intro W' hB
      exact (K1.out.below hB s1).c4
    have hR : Below w1.heap.size w1 w1.drew := (Below.refl _ _).drew
    obtain ⟨f0, f1, f2, f3⟩ := K1.out.c4
    go_wp2
    go_region_held3 (fun w' => w'.cell? ⟨w.heap.size, 0, none⟩ = some (.bool s) ∧ w'.cell? ⟨w.heap.size, 1, none⟩ = some (.int .u64 h) ∧ w'.cell? ⟨w.heap.size, 2, none⟩ = some (.int .u64 l) ∧ w'.cell? ⟨w.heap.size, 3, none⟩ = some (.int .i64 b))
      (first | exact HC.out _ hR | go_keep)
      (first
        | (go_at_call 23; (with_reducible refine Calls.mono (HP.out _ (E1.out.below hR)) ?_); rintro e W' ⟨rfl, hb⟩; replace hR := hR.trans (hb.mono hR.size); clear hb)
        | (go_at_call 24; (with_reducible refine Calls.mono (HI.out _ (E1.out.below hR)) ?_); rintro e W' ⟨rfl, hb⟩; replace hR := hR.trans (hb.mono hR.size); clear hb))
    all_goals
      have L5 := Lib.hid (L1.out.trans (hR.mono L1.out.size))
      clear hR f0 f1 f2 f3
      go_wp2
      go_ret
      exact ⟨rfl, L5.out⟩
end Go.Proofs.YtbpdnohcgojmbaaGreatDoor
