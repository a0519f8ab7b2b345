/-
  D6: what a range of first bits is told as is read as that range; whatever text is read is told so that it is read again as the same: for every range, and every text of at most 1048576 bytes.
-/
import Derived.Test.YtecgmejfkfoceaaDoorPAwk
import Derived.Test.YtecgmejfkfoceaaDoorPFrame
namespace Go.Proofs.YtecgmejfkfoceaaDoor.Back
open Go.ChangeShapes Go.WideShapes Go.ChangeAt Go.RowKit
set_option linter.unusedVariables false

theorem bulk_mem {H : Type} {d : DataW H} {l : List (DataW H)} (h : d ∈ l) : Rows.uptoBulk d ≤ Rows.uptoBulkAll l := by
  induction l with
  | nil => cases h
  | cons x r ih =>
    simp only [Rows.uptoBulkAll]
    rcases List.mem_cons.1 h with e | e
    · subst e; omega
    · have := ih e; omega
theorem bulk_le {H : Type} {d : DataW H} {l : List (DataW H)} (hk : Rows.uptoSmall H l = true) (h : d ∈ l) : Rows.uptoBulk d ≤ 1048576 := by
  have h1 : Rows.uptoBulkAll l ≤ 1048576 := by simpa [Rows.uptoSmall] using hk
  exact Nat.le_trans (bulk_mem h) h1
theorem ppr_two {t : List UInt8} {v : Value} (h : Ppr t v) : (∃ e : Int, ¬ e = 0 ∧ v = .tuple #[pfx false 0 0 0, .int .i64 e]) ∨
    ∃ (x : Bool) (h l n : Nat), N64 h ∧ N64 l ∧ pvl x h l n = true ∧ v = .tuple #[pfx x h l n, .int .i64 0] := by
  rcases h with ⟨_, e⟩ | ⟨a, b, _, _, ⟨_, e⟩ | ⟨x, h, l, hh, hl, _, ⟨n, _, hp, e⟩ | ⟨_, e⟩⟩⟩
  · exact .inl ⟨30, by decide, e⟩
  · exact .inl ⟨20, by decide, e⟩
  · exact .inr ⟨x, h, l, n, hh, hl, hp, e⟩
  · exact .inl ⟨30, by decide, e⟩
theorem pprint_in (s : Bool) (h l : Nat) (b : Int) (hh : N64 h) (hl : N64 l) {A B : Int} (e1 : (h : Int) = A) (e2 : (l : Int) = B) {T : ByteArray} (hT : T = ⟨(pprn s h l b).toArray⟩) (w : World) (hE : Env w) :
    Calls Tryd.prog 25 #[pfx s A B b] w fun e w' => e = .returned (.string T) ∧ Below w.heap.size w w' := by
  subst e1 e2 hT; exact pprint_any s h l b hh hl w hE
theorem pvalid_in (s : Bool) (h l : Nat) (b : Int) (hh : N64 h) (hl : N64 l) {A B : Int} (e1 : (h : Int) = A) (e2 : (l : Int) = B) {v : Bool} (ev : pvl s h l b = v) (w : World) :
    Calls Tryd.prog 17 #[pfx s A B b] w fun e w' => e = .returned (.bool v) ∧ Below w.heap.size w w' := by
  subst e1 e2; exact pvalid_at s h l b hh hl ev w
theorem pparse_in (s : Bool) (h l : Nat) (b : Int) (hh : N64 h) (hl : N64 l) {A B : Int} (e1 : (h : Int) = A) (e2 : (l : Int) = B) {T : ByteArray} (hT : T = ⟨(pprn s h l b).toArray⟩) (hp : pvl s h l b = true) (w : World) (hE : Env w) :
    Calls Tryd.prog 26 #[.string T] w fun e w' => e = .returned (.tuple #[pfx s A B b, .int .i64 0]) ∧ Below w.heap.size w w' := by
  subst e1 e2
  have h1 : T.data.toList = pprn s h l b := by rw [hT]
  have h2 := pprn_len (s := s) (h := h) (l := l) (b := b) hl
  exact pparse_any T (by rw [Lib.size_eq, h1]; omega) _ (by rw [h1]; exact ppr_prn hh hl hp) w hE
theorem pparse_no (w : World) (hE : Env w) :
    Calls Tryd.prog 26 #[.string ⟨#[]⟩] w fun e w' => e = .returned (.tuple #[pfx false 0 0 0, .int .i64 30]) ∧ Below w.heap.size w w' :=
  pparse_any ⟨#[]⟩ (by decide) _ (.inl ⟨by simp, rfl⟩) w hE

set_option maxRecDepth 100000 in
set_option maxHeartbeats 8000000 in
theorem walk (w : World) (hE : Env w) (a0_0 : Bool) (a0_1 : Int) (w0_1 : (Lit.int .u64 a0_1).wf = true) (a0_2 : Int) (w0_2 : (Lit.int .u64 a0_2).wf = true) (a0_3 : Int) (w0_3 : (Lit.int .i64 a0_3).wf = true) (a1 : ByteArray) (w1 : a1.size ≤ maxLen) (u1 : a1.size ≤ 1048576) :
    Calls Tryd.prog 5 #[.agg #[.bool a0_0, .int .u64 a0_1, .int .u64 a0_2, .int .i64 a0_3], .string a1] w fun e w' => e = .returned (.bool true) ∧ Below w.heap.size w w' := by
  obtain ⟨h, rfl, hh⟩ := n64_of w0_1
  obtain ⟨l, rfl, hl⟩ := n64_of w0_2
  have hE := Lib.hid hE
  obtain ⟨vs, hvs⟩ := ppr_any a1.data.toList
  have HS := Lib.hid (fun w hE => pparse_any a1 (by omega) vs hvs w hE)
  have h2 := ppr_two hvs
  obtain ⟨T, hT⟩ : ∃ T : ByteArray, T = ⟨(pprn a0_0 h l a0_3).toArray⟩ := ⟨_, rfl⟩
  obtain ⟨V, hV⟩ : ∃ V, pvl a0_0 h l a0_3 = V := ⟨_, rfl⟩
  obtain ⟨A, hA⟩ : ∃ A : Int, (h : Int) = A := ⟨_, rfl⟩
  obtain ⟨B, hB⟩ : ∃ B : Int, (l : Int) = B := ⟨_, rfl⟩
  have HP := Lib.hid (fun w hE => pprint_in a0_0 h l a0_3 hh hl hA hB hT w hE)
  have HV := Lib.hid (fun w => pvalid_in a0_0 h l a0_3 hh hl hA hB hV w)
  clear w0_1 w0_2 w0_3 w1 u1 hvs
  cases V
  · have e0 : T = ⟨#[]⟩ := by rw [hT, pprn_no hV]
    rw [e0] at HP
    have HR := Lib.hid (fun w hE => pparse_no w hE)
    rw [hA, hB]
    clear hT e0 hV hh hl hA hB
    rcases h2 with ⟨er, hne, rfl⟩ | ⟨x, h', l', n, hh', hl', hp', rfl⟩
    · have hne2 : (er == 0) = false := by simpa using hne
      go_enter Tryd.func5, Tryd.ntmps5
      go_wp2_with fail
      refine Calls.mono (pawake_yes _ (hE.out.alloc _)) ?_
      rintro e w1 ⟨rfl, hb⟩
      have KP1 := Lib.hid ((Blk.new w 26 #[.bool a0_0, .int .u64 A, .int .u64 B, .int .i64 a0_3]).below hb (by simp only [World.size_alloc]; omega))
      have L1 := Lib.hid (((Below.refl _ w).alloc (Nat.le_refl _) _).trans (hb.mono (by simp only [World.size_alloc]; omega)))
      have E1 := Lib.hid ((hE.out.alloc _).below hb)
      clear hb
      obtain ⟨f0, f1, f2, f3⟩ := KP1.out.c4
      go_wp2_with fail
      refine Calls.mono (HP.out _ E1.out) ?_
      rintro e w2 ⟨rfl, hb⟩
      clear f0 f1 f2 f3
      have KP2 := Lib.hid (KP1.out.below hb KP1.out.lt)
      have L2 := Lib.hid (L1.out.trans (hb.mono L1.out.size))
      have E2 := Lib.hid (E1.out.below hb)
      clear hb
      obtain ⟨f0, f1, f2, f3⟩ := KP2.out.c4
      go_wp2_with fail
      refine Calls.mono (HV.out _) ?_
      rintro e w3 ⟨rfl, hb⟩
      clear f0 f1 f2 f3
      have KP3 := Lib.hid (KP2.out.below hb KP2.out.lt)
      have L3 := Lib.hid (L2.out.trans (hb.mono L2.out.size))
      have E3 := Lib.hid (E2.out.below hb)
      clear hb
      obtain ⟨f0, f1, f2, f3⟩ := KP3.out.c4
      go_wp2_with fail
      refine Calls.mono (HR.out _ E3.out) ?_
      rintro e w4 ⟨rfl, hb⟩
      clear f0 f1 f2 f3
      have KP4 := Lib.hid (KP3.out.below hb KP3.out.lt)
      have L4 := Lib.hid (L3.out.trans (hb.mono L3.out.size))
      have E4 := Lib.hid (E3.out.below hb)
      clear hb
      replace KP4 := Lib.hid (KP4.out.alloc (.cells #[.bool false, .int .u64 0, .int .u64 0, .int .i64 0] 26))
      have KX4 := Lib.hid (Blk.new w4 26 #[.bool false, .int .u64 0, .int .u64 0, .int .i64 0])
      replace L4 := Lib.hid (L4.out.alloc L4.out.size (.cells #[.bool false, .int .u64 0, .int .u64 0, .int .i64 0] 26))
      replace E4 := Lib.hid (E4.out.alloc (.cells #[.bool false, .int .u64 0, .int .u64 0, .int .i64 0] 26))
      obtain ⟨f0, f1, f2, f3⟩ := KP4.out.c4
      obtain ⟨g0, g1, g2, g3⟩ := KX4.out.c4
      go_wp2_with fail
      refine Calls.mono (HS.out _ E4.out) ?_
      rintro e w5 ⟨rfl, hb⟩
      clear f0 f1 f2 f3 g0 g1 g2 g3
      have KP5 := Lib.hid (KP4.out.below hb KP4.out.lt)
      have KX5 := Lib.hid (KX4.out.below hb KX4.out.lt)
      have L5 := Lib.hid (L4.out.trans (hb.mono L4.out.size))
      have E5 := Lib.hid (E4.out.below hb)
      clear hb
      replace KP5 := Lib.hid (KP5.out.alloc (.cells #[.bool false, .int .u64 0, .int .u64 0, .int .i64 0] 26))
      replace KX5 := Lib.hid (KX5.out.alloc (.cells #[.bool false, .int .u64 0, .int .u64 0, .int .i64 0] 26))
      have KQ5 := Lib.hid (Blk.new w5 26 #[.bool false, .int .u64 0, .int .u64 0, .int .i64 0])
      replace L5 := Lib.hid (L5.out.alloc L5.out.size (.cells #[.bool false, .int .u64 0, .int .u64 0, .int .i64 0] 26))
      replace E5 := Lib.hid (E5.out.alloc (.cells #[.bool false, .int .u64 0, .int .u64 0, .int .i64 0] 26))
      obtain ⟨f0, f1, f2, f3⟩ := KP5.out.c4
      obtain ⟨g0, g1, g2, g3⟩ := KX5.out.c4
      obtain ⟨h0, h1, h2, h3⟩ := KQ5.out.c4
      go_wp2
      go_ret
      exact ⟨ret_bool (by simp [*]), L5.out⟩
    · obtain ⟨T2, hT2⟩ : ∃ T : ByteArray, T = ⟨(pprn x h' l' n).toArray⟩ := ⟨_, rfl⟩
      obtain ⟨C, hC⟩ : ∃ A : Int, (h' : Int) = A := ⟨_, rfl⟩
      obtain ⟨D, hD⟩ : ∃ B : Int, (l' : Int) = B := ⟨_, rfl⟩
      have HP2 := Lib.hid (fun w hE => pprint_in x h' l' n hh' hl' hC hD hT2 w hE)
      have HV2 := Lib.hid (fun w => pvalid_in x h' l' n hh' hl' hC hD hp' w)
      have HR2 := Lib.hid (fun w hE => pparse_in x h' l' n hh' hl' hC hD hT2 hp' w hE)
      rw [hC, hD] at HS
      clear hT2 hC hD hp' hh' hl'
      go_enter Tryd.func5, Tryd.ntmps5
      go_wp2_with fail
      refine Calls.mono (pawake_yes _ (hE.out.alloc _)) ?_
      rintro e w1 ⟨rfl, hb⟩
      have KP1 := Lib.hid ((Blk.new w 26 #[.bool a0_0, .int .u64 A, .int .u64 B, .int .i64 a0_3]).below hb (by simp only [World.size_alloc]; omega))
      have L1 := Lib.hid (((Below.refl _ w).alloc (Nat.le_refl _) _).trans (hb.mono (by simp only [World.size_alloc]; omega)))
      have E1 := Lib.hid ((hE.out.alloc _).below hb)
      clear hb
      obtain ⟨f0, f1, f2, f3⟩ := KP1.out.c4
      go_wp2_with fail
      refine Calls.mono (HP.out _ E1.out) ?_
      rintro e w2 ⟨rfl, hb⟩
      clear f0 f1 f2 f3
      have KP2 := Lib.hid (KP1.out.below hb KP1.out.lt)
      have L2 := Lib.hid (L1.out.trans (hb.mono L1.out.size))
      have E2 := Lib.hid (E1.out.below hb)
      clear hb
      obtain ⟨f0, f1, f2, f3⟩ := KP2.out.c4
      go_wp2_with fail
      refine Calls.mono (HV.out _) ?_
      rintro e w3 ⟨rfl, hb⟩
      clear f0 f1 f2 f3
      have KP3 := Lib.hid (KP2.out.below hb KP2.out.lt)
      have L3 := Lib.hid (L2.out.trans (hb.mono L2.out.size))
      have E3 := Lib.hid (E2.out.below hb)
      clear hb
      obtain ⟨f0, f1, f2, f3⟩ := KP3.out.c4
      go_wp2_with fail
      refine Calls.mono (HR.out _ E3.out) ?_
      rintro e w4 ⟨rfl, hb⟩
      clear f0 f1 f2 f3
      have KP4 := Lib.hid (KP3.out.below hb KP3.out.lt)
      have L4 := Lib.hid (L3.out.trans (hb.mono L3.out.size))
      have E4 := Lib.hid (E3.out.below hb)
      clear hb
      replace KP4 := Lib.hid (KP4.out.alloc (.cells #[.bool false, .int .u64 0, .int .u64 0, .int .i64 0] 26))
      have KX4 := Lib.hid (Blk.new w4 26 #[.bool false, .int .u64 0, .int .u64 0, .int .i64 0])
      replace L4 := Lib.hid (L4.out.alloc L4.out.size (.cells #[.bool false, .int .u64 0, .int .u64 0, .int .i64 0] 26))
      replace E4 := Lib.hid (E4.out.alloc (.cells #[.bool false, .int .u64 0, .int .u64 0, .int .i64 0] 26))
      obtain ⟨f0, f1, f2, f3⟩ := KP4.out.c4
      obtain ⟨g0, g1, g2, g3⟩ := KX4.out.c4
      go_wp2_with fail
      refine Calls.mono (HS.out _ E4.out) ?_
      rintro e w5 ⟨rfl, hb⟩
      clear f0 f1 f2 f3 g0 g1 g2 g3
      have KP5 := Lib.hid (KP4.out.below hb KP4.out.lt)
      have KX5 := Lib.hid (KX4.out.below hb KX4.out.lt)
      have L5 := Lib.hid (L4.out.trans (hb.mono L4.out.size))
      have E5 := Lib.hid (E4.out.below hb)
      clear hb
      replace KP5 := Lib.hid (KP5.out.alloc (.cells #[.bool x, .int .u64 C, .int .u64 D, .int .i64 n] 26))
      replace KX5 := Lib.hid (KX5.out.alloc (.cells #[.bool x, .int .u64 C, .int .u64 D, .int .i64 n] 26))
      have KQ5 := Lib.hid (Blk.new w5 26 #[.bool x, .int .u64 C, .int .u64 D, .int .i64 n])
      replace L5 := Lib.hid (L5.out.alloc L5.out.size (.cells #[.bool x, .int .u64 C, .int .u64 D, .int .i64 n] 26))
      replace E5 := Lib.hid (E5.out.alloc (.cells #[.bool x, .int .u64 C, .int .u64 D, .int .i64 n] 26))
      obtain ⟨f0, f1, f2, f3⟩ := KP5.out.c4
      obtain ⟨g0, g1, g2, g3⟩ := KX5.out.c4
      obtain ⟨h0, h1, h2, h3⟩ := KQ5.out.c4
      go_wp2_with fail
      refine Calls.mono (HP2.out _ E5.out) ?_
      rintro e w6 ⟨rfl, hb⟩
      clear f0 f1 f2 f3 g0 g1 g2 g3 h0 h1 h2 h3
      have KP6 := Lib.hid (KP5.out.below hb KP5.out.lt)
      have KX6 := Lib.hid (KX5.out.below hb KX5.out.lt)
      have KQ6 := Lib.hid (KQ5.out.below hb KQ5.out.lt)
      have L6 := Lib.hid (L5.out.trans (hb.mono L5.out.size))
      have E6 := Lib.hid (E5.out.below hb)
      clear hb
      obtain ⟨f0, f1, f2, f3⟩ := KP6.out.c4
      obtain ⟨g0, g1, g2, g3⟩ := KX6.out.c4
      obtain ⟨h0, h1, h2, h3⟩ := KQ6.out.c4
      go_wp2_with fail
      refine Calls.mono (HR2.out _ E6.out) ?_
      rintro e w7 ⟨rfl, hb⟩
      clear f0 f1 f2 f3 g0 g1 g2 g3 h0 h1 h2 h3
      have KP7 := Lib.hid (KP6.out.below hb KP6.out.lt)
      have KX7 := Lib.hid (KX6.out.below hb KX6.out.lt)
      have KQ7 := Lib.hid (KQ6.out.below hb KQ6.out.lt)
      have L7 := Lib.hid (L6.out.trans (hb.mono L6.out.size))
      have E7 := Lib.hid (E6.out.below hb)
      clear hb
      replace KP7 := Lib.hid (KP7.out.alloc (.cells #[.bool x, .int .u64 C, .int .u64 D, .int .i64 n] 26))
      replace KX7 := Lib.hid (KX7.out.alloc (.cells #[.bool x, .int .u64 C, .int .u64 D, .int .i64 n] 26))
      replace KQ7 := Lib.hid (KQ7.out.alloc (.cells #[.bool x, .int .u64 C, .int .u64 D, .int .i64 n] 26))
      have KY7 := Lib.hid (Blk.new w7 26 #[.bool x, .int .u64 C, .int .u64 D, .int .i64 n])
      replace L7 := Lib.hid (L7.out.alloc L7.out.size (.cells #[.bool x, .int .u64 C, .int .u64 D, .int .i64 n] 26))
      replace E7 := Lib.hid (E7.out.alloc (.cells #[.bool x, .int .u64 C, .int .u64 D, .int .i64 n] 26))
      obtain ⟨f0, f1, f2, f3⟩ := KP7.out.c4
      obtain ⟨g0, g1, g2, g3⟩ := KX7.out.c4
      obtain ⟨h0, h1, h2, h3⟩ := KQ7.out.c4
      obtain ⟨k0, k1, k2, k3⟩ := KY7.out.c4
      go_wp2_with fail
      refine Calls.mono (HV2.out _) ?_
      rintro e w8 ⟨rfl, hb⟩
      clear f0 f1 f2 f3 g0 g1 g2 g3 h0 h1 h2 h3 k0 k1 k2 k3
      have KP8 := Lib.hid (KP7.out.below hb KP7.out.lt)
      have KX8 := Lib.hid (KX7.out.below hb KX7.out.lt)
      have KQ8 := Lib.hid (KQ7.out.below hb KQ7.out.lt)
      have KY8 := Lib.hid (KY7.out.below hb KY7.out.lt)
      have L8 := Lib.hid (L7.out.trans (hb.mono L7.out.size))
      have E8 := Lib.hid (E7.out.below hb)
      clear hb
      obtain ⟨f0, f1, f2, f3⟩ := KP8.out.c4
      obtain ⟨g0, g1, g2, g3⟩ := KX8.out.c4
      obtain ⟨h0, h1, h2, h3⟩ := KQ8.out.c4
      obtain ⟨k0, k1, k2, k3⟩ := KY8.out.c4
      go_wp2
      go_ret
      exact ⟨ret_bool (by simp [*]), L8.out⟩
  · have HR := Lib.hid (fun w hE => pparse_in a0_0 h l a0_3 hh hl hA hB hT hV w hE)
    have hne : T.data.toList ≠ [] := by rw [hT]; exact pprn_ne hV
    have te2 : T.toList.isEmpty = false := by
      rw [List.isEmpty_eq_false_iff]
      intro e
      apply hne
      rw [← e]; simp [ByteArray.toList_eq]
    rw [hA, hB]
    clear hT hV hh hl hA hB hne
    rcases h2 with ⟨er, hne, rfl⟩ | ⟨x, h', l', n, hh', hl', hp', rfl⟩
    · have hne2 : (er == 0) = false := by simpa using hne
      go_enter Tryd.func5, Tryd.ntmps5
      go_wp2_with fail
      refine Calls.mono (pawake_yes _ (hE.out.alloc _)) ?_
      rintro e w1 ⟨rfl, hb⟩
      have KP1 := Lib.hid ((Blk.new w 26 #[.bool a0_0, .int .u64 A, .int .u64 B, .int .i64 a0_3]).below hb (by simp only [World.size_alloc]; omega))
      have L1 := Lib.hid (((Below.refl _ w).alloc (Nat.le_refl _) _).trans (hb.mono (by simp only [World.size_alloc]; omega)))
      have E1 := Lib.hid ((hE.out.alloc _).below hb)
      clear hb
      obtain ⟨f0, f1, f2, f3⟩ := KP1.out.c4
      go_wp2_with fail
      refine Calls.mono (HP.out _ E1.out) ?_
      rintro e w2 ⟨rfl, hb⟩
      clear f0 f1 f2 f3
      have KP2 := Lib.hid (KP1.out.below hb KP1.out.lt)
      have L2 := Lib.hid (L1.out.trans (hb.mono L1.out.size))
      have E2 := Lib.hid (E1.out.below hb)
      clear hb
      obtain ⟨f0, f1, f2, f3⟩ := KP2.out.c4
      go_wp2_with fail
      refine Calls.mono (HV.out _) ?_
      rintro e w3 ⟨rfl, hb⟩
      clear f0 f1 f2 f3
      have KP3 := Lib.hid (KP2.out.below hb KP2.out.lt)
      have L3 := Lib.hid (L2.out.trans (hb.mono L2.out.size))
      have E3 := Lib.hid (E2.out.below hb)
      clear hb
      obtain ⟨f0, f1, f2, f3⟩ := KP3.out.c4
      go_wp2_with fail
      refine Calls.mono (HR.out _ E3.out) ?_
      rintro e w4 ⟨rfl, hb⟩
      clear f0 f1 f2 f3
      have KP4 := Lib.hid (KP3.out.below hb KP3.out.lt)
      have L4 := Lib.hid (L3.out.trans (hb.mono L3.out.size))
      have E4 := Lib.hid (E3.out.below hb)
      clear hb
      replace KP4 := Lib.hid (KP4.out.alloc (.cells #[.bool a0_0, .int .u64 A, .int .u64 B, .int .i64 a0_3] 26))
      have KX4 := Lib.hid (Blk.new w4 26 #[.bool a0_0, .int .u64 A, .int .u64 B, .int .i64 a0_3])
      replace L4 := Lib.hid (L4.out.alloc L4.out.size (.cells #[.bool a0_0, .int .u64 A, .int .u64 B, .int .i64 a0_3] 26))
      replace E4 := Lib.hid (E4.out.alloc (.cells #[.bool a0_0, .int .u64 A, .int .u64 B, .int .i64 a0_3] 26))
      obtain ⟨f0, f1, f2, f3⟩ := KP4.out.c4
      obtain ⟨g0, g1, g2, g3⟩ := KX4.out.c4
      go_wp2_with fail
      refine Calls.mono (HS.out _ E4.out) ?_
      rintro e w5 ⟨rfl, hb⟩
      clear f0 f1 f2 f3 g0 g1 g2 g3
      have KP5 := Lib.hid (KP4.out.below hb KP4.out.lt)
      have KX5 := Lib.hid (KX4.out.below hb KX4.out.lt)
      have L5 := Lib.hid (L4.out.trans (hb.mono L4.out.size))
      have E5 := Lib.hid (E4.out.below hb)
      clear hb
      replace KP5 := Lib.hid (KP5.out.alloc (.cells #[.bool false, .int .u64 0, .int .u64 0, .int .i64 0] 26))
      replace KX5 := Lib.hid (KX5.out.alloc (.cells #[.bool false, .int .u64 0, .int .u64 0, .int .i64 0] 26))
      have KQ5 := Lib.hid (Blk.new w5 26 #[.bool false, .int .u64 0, .int .u64 0, .int .i64 0])
      replace L5 := Lib.hid (L5.out.alloc L5.out.size (.cells #[.bool false, .int .u64 0, .int .u64 0, .int .i64 0] 26))
      replace E5 := Lib.hid (E5.out.alloc (.cells #[.bool false, .int .u64 0, .int .u64 0, .int .i64 0] 26))
      obtain ⟨f0, f1, f2, f3⟩ := KP5.out.c4
      obtain ⟨g0, g1, g2, g3⟩ := KX5.out.c4
      obtain ⟨h0, h1, h2, h3⟩ := KQ5.out.c4
      go_wp2
      go_ret
      exact ⟨ret_bool (by simp [*]), L5.out⟩
    · obtain ⟨T2, hT2⟩ : ∃ T : ByteArray, T = ⟨(pprn x h' l' n).toArray⟩ := ⟨_, rfl⟩
      obtain ⟨C, hC⟩ : ∃ A : Int, (h' : Int) = A := ⟨_, rfl⟩
      obtain ⟨D, hD⟩ : ∃ B : Int, (l' : Int) = B := ⟨_, rfl⟩
      have HP2 := Lib.hid (fun w hE => pprint_in x h' l' n hh' hl' hC hD hT2 w hE)
      have HV2 := Lib.hid (fun w => pvalid_in x h' l' n hh' hl' hC hD hp' w)
      have HR2 := Lib.hid (fun w hE => pparse_in x h' l' n hh' hl' hC hD hT2 hp' w hE)
      rw [hC, hD] at HS
      clear hT2 hC hD hp' hh' hl'
      go_enter Tryd.func5, Tryd.ntmps5
      go_wp2_with fail
      refine Calls.mono (pawake_yes _ (hE.out.alloc _)) ?_
      rintro e w1 ⟨rfl, hb⟩
      have KP1 := Lib.hid ((Blk.new w 26 #[.bool a0_0, .int .u64 A, .int .u64 B, .int .i64 a0_3]).below hb (by simp only [World.size_alloc]; omega))
      have L1 := Lib.hid (((Below.refl _ w).alloc (Nat.le_refl _) _).trans (hb.mono (by simp only [World.size_alloc]; omega)))
      have E1 := Lib.hid ((hE.out.alloc _).below hb)
      clear hb
      obtain ⟨f0, f1, f2, f3⟩ := KP1.out.c4
      go_wp2_with fail
      refine Calls.mono (HP.out _ E1.out) ?_
      rintro e w2 ⟨rfl, hb⟩
      clear f0 f1 f2 f3
      have KP2 := Lib.hid (KP1.out.below hb KP1.out.lt)
      have L2 := Lib.hid (L1.out.trans (hb.mono L1.out.size))
      have E2 := Lib.hid (E1.out.below hb)
      clear hb
      obtain ⟨f0, f1, f2, f3⟩ := KP2.out.c4
      go_wp2_with fail
      refine Calls.mono (HV.out _) ?_
      rintro e w3 ⟨rfl, hb⟩
      clear f0 f1 f2 f3
      have KP3 := Lib.hid (KP2.out.below hb KP2.out.lt)
      have L3 := Lib.hid (L2.out.trans (hb.mono L2.out.size))
      have E3 := Lib.hid (E2.out.below hb)
      clear hb
      obtain ⟨f0, f1, f2, f3⟩ := KP3.out.c4
      go_wp2_with fail
      refine Calls.mono (HR.out _ E3.out) ?_
      rintro e w4 ⟨rfl, hb⟩
      clear f0 f1 f2 f3
      have KP4 := Lib.hid (KP3.out.below hb KP3.out.lt)
      have L4 := Lib.hid (L3.out.trans (hb.mono L3.out.size))
      have E4 := Lib.hid (E3.out.below hb)
      clear hb
      replace KP4 := Lib.hid (KP4.out.alloc (.cells #[.bool a0_0, .int .u64 A, .int .u64 B, .int .i64 a0_3] 26))
      have KX4 := Lib.hid (Blk.new w4 26 #[.bool a0_0, .int .u64 A, .int .u64 B, .int .i64 a0_3])
      replace L4 := Lib.hid (L4.out.alloc L4.out.size (.cells #[.bool a0_0, .int .u64 A, .int .u64 B, .int .i64 a0_3] 26))
      replace E4 := Lib.hid (E4.out.alloc (.cells #[.bool a0_0, .int .u64 A, .int .u64 B, .int .i64 a0_3] 26))
      obtain ⟨f0, f1, f2, f3⟩ := KP4.out.c4
      obtain ⟨g0, g1, g2, g3⟩ := KX4.out.c4
      go_wp2_with fail
      refine Calls.mono (HS.out _ E4.out) ?_
      rintro e w5 ⟨rfl, hb⟩
      clear f0 f1 f2 f3 g0 g1 g2 g3
      have KP5 := Lib.hid (KP4.out.below hb KP4.out.lt)
      have KX5 := Lib.hid (KX4.out.below hb KX4.out.lt)
      have L5 := Lib.hid (L4.out.trans (hb.mono L4.out.size))
      have E5 := Lib.hid (E4.out.below hb)
      clear hb
      replace KP5 := Lib.hid (KP5.out.alloc (.cells #[.bool x, .int .u64 C, .int .u64 D, .int .i64 n] 26))
      replace KX5 := Lib.hid (KX5.out.alloc (.cells #[.bool x, .int .u64 C, .int .u64 D, .int .i64 n] 26))
      have KQ5 := Lib.hid (Blk.new w5 26 #[.bool x, .int .u64 C, .int .u64 D, .int .i64 n])
      replace L5 := Lib.hid (L5.out.alloc L5.out.size (.cells #[.bool x, .int .u64 C, .int .u64 D, .int .i64 n] 26))
      replace E5 := Lib.hid (E5.out.alloc (.cells #[.bool x, .int .u64 C, .int .u64 D, .int .i64 n] 26))
      obtain ⟨f0, f1, f2, f3⟩ := KP5.out.c4
      obtain ⟨g0, g1, g2, g3⟩ := KX5.out.c4
      obtain ⟨h0, h1, h2, h3⟩ := KQ5.out.c4
      go_wp2_with fail
      refine Calls.mono (HP2.out _ E5.out) ?_
      rintro e w6 ⟨rfl, hb⟩
      clear f0 f1 f2 f3 g0 g1 g2 g3 h0 h1 h2 h3
      have KP6 := Lib.hid (KP5.out.below hb KP5.out.lt)
      have KX6 := Lib.hid (KX5.out.below hb KX5.out.lt)
      have KQ6 := Lib.hid (KQ5.out.below hb KQ5.out.lt)
      have L6 := Lib.hid (L5.out.trans (hb.mono L5.out.size))
      have E6 := Lib.hid (E5.out.below hb)
      clear hb
      obtain ⟨f0, f1, f2, f3⟩ := KP6.out.c4
      obtain ⟨g0, g1, g2, g3⟩ := KX6.out.c4
      obtain ⟨h0, h1, h2, h3⟩ := KQ6.out.c4
      go_wp2_with fail
      refine Calls.mono (HR2.out _ E6.out) ?_
      rintro e w7 ⟨rfl, hb⟩
      clear f0 f1 f2 f3 g0 g1 g2 g3 h0 h1 h2 h3
      have KP7 := Lib.hid (KP6.out.below hb KP6.out.lt)
      have KX7 := Lib.hid (KX6.out.below hb KX6.out.lt)
      have KQ7 := Lib.hid (KQ6.out.below hb KQ6.out.lt)
      have L7 := Lib.hid (L6.out.trans (hb.mono L6.out.size))
      have E7 := Lib.hid (E6.out.below hb)
      clear hb
      replace KP7 := Lib.hid (KP7.out.alloc (.cells #[.bool x, .int .u64 C, .int .u64 D, .int .i64 n] 26))
      replace KX7 := Lib.hid (KX7.out.alloc (.cells #[.bool x, .int .u64 C, .int .u64 D, .int .i64 n] 26))
      replace KQ7 := Lib.hid (KQ7.out.alloc (.cells #[.bool x, .int .u64 C, .int .u64 D, .int .i64 n] 26))
      have KY7 := Lib.hid (Blk.new w7 26 #[.bool x, .int .u64 C, .int .u64 D, .int .i64 n])
      replace L7 := Lib.hid (L7.out.alloc L7.out.size (.cells #[.bool x, .int .u64 C, .int .u64 D, .int .i64 n] 26))
      replace E7 := Lib.hid (E7.out.alloc (.cells #[.bool x, .int .u64 C, .int .u64 D, .int .i64 n] 26))
      obtain ⟨f0, f1, f2, f3⟩ := KP7.out.c4
      obtain ⟨g0, g1, g2, g3⟩ := KX7.out.c4
      obtain ⟨h0, h1, h2, h3⟩ := KQ7.out.c4
      obtain ⟨k0, k1, k2, k3⟩ := KY7.out.c4
      go_wp2_with fail
      refine Calls.mono (HV2.out _) ?_
      rintro e w8 ⟨rfl, hb⟩
      clear f0 f1 f2 f3 g0 g1 g2 g3 h0 h1 h2 h3 k0 k1 k2 k3
      have KP8 := Lib.hid (KP7.out.below hb KP7.out.lt)
      have KX8 := Lib.hid (KX7.out.below hb KX7.out.lt)
      have KQ8 := Lib.hid (KQ7.out.below hb KQ7.out.lt)
      have KY8 := Lib.hid (KY7.out.below hb KY7.out.lt)
      have L8 := Lib.hid (L7.out.trans (hb.mono L7.out.size))
      have E8 := Lib.hid (E7.out.below hb)
      clear hb
      obtain ⟨f0, f1, f2, f3⟩ := KP8.out.c4
      obtain ⟨g0, g1, g2, g3⟩ := KX8.out.c4
      obtain ⟨h0, h1, h2, h3⟩ := KQ8.out.c4
      obtain ⟨k0, k1, k2, k3⟩ := KY8.out.c4
      go_wp2
      go_ret
      exact ⟨ret_bool (by simp [*]), L8.out⟩

set_option maxRecDepth 100000 in
theorem contract (H : Type) (enc : TypeId × Value → H) (W : World) (base : Nat) (args : Array Value) (ds gs : List (DataW H)) (before : List MemPlace)
    (hval0 : ∀ (j : Nat) t v, Tryd.f5.params[j]? = some t → args[j]? = some v → Value.okWide Tryd.prog W .any base t v)
    (hW : DataW.Whole enc Tryd.prog Tryd.f5.params.toList Rows.prefixBackSpec.vars false W args.toList ds gs before)
    (hsz0 : (DataW.weightsEach Tryd.prog (Tryd.f5.params.toList ++ Rows.prefixBackSpec.plain.varTypes Tryd.prog) (ds ++ gs)).all (· ≤ reachBytes) = true) (hk : Rows.uptoSmall H (ds ++ gs) = true) (hE : Env W) :
    Calls Tryd.prog 5 args W fun e W' => ∃ v, e = .returned v ∧ Rows.prefixBackSpec.post enc Tryd.prog Tryd.f5 false true false false W args v W' := by
  have hsz := hsz0
  clear hsz0
  have hval := hval0
  clear hval0
  have hW' := hW
  obtain ⟨p, q, hA0, hV, rfl, hfz, hnd⟩ := hW
  have hA : DataW.TrodAll enc Tryd.prog W 0 (fun _ => true) true Tryd.f5.params.toList args.toList ds p := hA0
  rw [Tryd.params5] at hA hval hsz
  obtain ⟨v0, vs0, d0, ds0, p0, q0, hargs, rfl, rfl, h0, r0⟩ := trodAll_cons hA
  obtain ⟨v1, vs1, d1, ds1, p1, q1, rfl, rfl, rfl, h1, r1⟩ := trodAll_cons r0
  obtain ⟨rfl, rfl, rfl⟩ := trodAll_nil r1
  obtain rfl : args = #[v0, v1] := by cases args; simp_all
  obtain ⟨rfl, rfl⟩ := trodVars_none hV
  have k0 := h0
  have lt0 : ∀ x ∈ p0, x.block < W.heap.size := by obtain ⟨m, hm⟩ := k0; exact DataW.trod_lt m _ _ _ hm
  obtain ⟨a0_0, a0_1, a0_2, a0_3, rfl, w0_1, w0_2, w0_3, ep0⟩ := open_pfx (hval 0 26 v0 rfl rfl) h0
  obtain ⟨a1, rfl, rfl, rfl, w1⟩ := Go.ChangeMaps.open_string Tryd.underlying9 (hval 1 9 v1 rfl rfl) h1
  have u1 : a1.size ≤ 1048576 := by have h1 := bulk_le hk (d := DataW.lit (.string a1.data.toList)) (by simp); rw [Lib.size_eq]; simp only [Rows.uptoBulk] at h1; omega
  clear hA0
  refine (walk W hE a0_0 a0_1 w0_1 a0_2 w0_2 a0_3 w0_3 a1 w1 u1).mono fun e W' ⟨he, bel⟩ => ?_
  subst he
  exact ⟨_, rfl, _, _, _, [], _, [], hW', trodAll_mk1 (shut_bool Tryd.underlying4 _), (trodAll_cons_mk (Below.trod laidOut (by kernel_rfl) (of_decide_eq_true (by kernel_rfl)) k0 bel lt0) (trodAll_cons_mk (Go.ChangeMaps.shut_string Tryd.underlying9 w1) trodAll_mk0)), rfl, bel.frame _, fun h => by cases h⟩

theorem laid_met (os : Os) (args : Array Value) : laidMet Tryd.prog Rows.prefixBackUptoRow.laid ((World.laidAll Tryd.prog os Rows.prefixBackUptoRow.laid).forCall (fun _ _ => 0) ⟨#[], args, []⟩).memory :=
  laidMet_laidAll _ (by kernel_rfl) (by kernel_rfl)
set_option maxRecDepth 100000 in
theorem pre_row (os : Os) {H : Type} (enc : TypeId × Value → H) :
    (Rows.OpenSpec.upto Rows.prefixBackSpec).preRow enc Tryd.prog Tryd.f5 Rows.prefixBackUptoRow.domain false Rows.prefixBackUptoRow.laid ((World.laidAll Tryd.prog os Rows.prefixBackUptoRow.laid).forCall (fun _ _ => 0) ⟨#[], #[.agg #[.bool false, .int .u64 0, .int .u64 0, .int .i64 0], .string ByteArray.empty], []⟩).memory #[.agg #[.bool false, .int .u64 0, .int .u64 0, .int .i64 0], .string ByteArray.empty] := by
  have hw : (DataW.whole enc Tryd.prog ((World.laidAll Tryd.prog os Rows.prefixBackUptoRow.laid).forCall (fun _ _ => 0) ⟨#[], #[.agg #[.bool false, .int .u64 0, .int .u64 0, .int .i64 0], .string ByteArray.empty], []⟩).memory Tryd.f5.params.toList (Rows.OpenSpec.upto Rows.prefixBackSpec).vars false (#[.agg #[.bool false, .int .u64 0, .int .u64 0, .int .i64 0], .string ByteArray.empty] : Array Value).toList 8).map (fun x => (x.1, x.2.1)) = some ([.agg [.agg [.lit (.bool false), .lit (.int .u64 0), .lit (.int .u64 0)], .lit (.int .i64 0)], .lit (.string [])], []) := by kernel_rfl
  obtain ⟨⟨x1, x2, x3⟩, hx, hx1⟩ := Option.map_eq_some_iff.1 hw
  simp only [Prod.mk.injEq] at hx1
  obtain ⟨rfl, rfl⟩ := hx1
  exact OpenSpec.preRow_of_cond 8 hx (by kernel_rfl) (fun k hk => by cases hk; rfl) (by kernel_rfl) (laid_met os _)
set_option maxRecDepth 100000 in
theorem lifted (os : Os) (started : os.Started) (H : Type) (enc : TypeId × Value → H) (F : Stop.Interp) :
    ReturnsInHanded {} Tryd.checked os 5 .any ((Rows.OpenSpec.upto Rows.prefixBackSpec).preRow enc Tryd.prog Tryd.f5 Rows.prefixBackUptoRow.domain false Rows.prefixBackUptoRow.laid) (((Rows.OpenSpec.upto Rows.prefixBackSpec).at F).post enc Tryd.prog Tryd.f5 false true false false) := by
  refine returnsInHanded_of_row (C := Tryd.checked) (s := (Rows.OpenSpec.upto Rows.prefixBackSpec)) own started (by kernel_rfl) Tryd.func5
    ⟨World.laidAll Tryd.prog os Rows.prefixBackUptoRow.laid, fun _ _ => 0, ⟨#[], #[.agg #[.bool false, .int .u64 0, .int .u64 0, .int .i64 0], .string ByteArray.empty], []⟩, World.laidAll_os _ _ _, World.shaped_of_ZipB (by kernel_rfl) (by kernel_rfl), rfl, (Input.okWide_of_okWideB (by kernel_rfl)).2, pre_row os enc, (by simp only [Assume.holds]; exact ⟨by simp, by simp, fun _ => Modest.zero, by simp, by simp⟩)⟩ ?_
  intro W base args ds gs before hval hW _ hcond hsz hL hsh _
  rw [MakeChecks.laidMetH_plain _ _ _ (by kernel_rfl)] at hL
  exact contract H enc W base args ds gs before hval hW hsz (hcond _ rfl) (env_of hL hsh)

theorem over : Rows.prefixBackUptoRow.holds Tryd.pinned (Rows.OpenSpec.upto Rows.prefixBackSpec) :=
  OpenClaim.holds_of_cond 5 Tryd.f5 rfl rfl rfl rfl rfl rfl rfl ⟨rfl, rfl, rfl, rfl, rfl⟩ rfl rfl rfl rfl rfl (by kernel_rfl) Tryd.func5 (by kernel_rfl)
    (of_decide_eq_true (by kernel_rfl)) (by unfold Func.isWrapper; first | (rw [if_pos (by decide +kernel)]; kernel_rfl) | (rw [if_neg (by decide +kernel)]; exact ⟨rfl, rfl⟩))
    (fun os started H enc _ F => by rw [OpenClaim.pre_eq_preRow]; exact lifted os started H enc F)

theorem proved : Rows.PrefixBackUptoCardSaid :=
  Claim7.holds_tied_plain_at .later [] Rows.prefixBackUptoCard.laidKinds true Rows.prefixBackUptoCard.stood.harness true over (fun _ h => by cases h) (by kernel_rfl) (fun _ h => by cases h) prefixBackUpto_row_tie rfl ⟨rfl, rfl⟩ (by kernel_rfl) rfl
    (fun f fn hf hfn => by
      obtain rfl : f = 5 := Option.some.inj ((show Tryd.prog.funcNamed Rows.prefixBackUptoRow.func = some 5 by kernel_rfl).symm.trans hf) |>.symm
      obtain rfl : fn = Tryd.f5 := (Option.some.inj (Tryd.func5.symm.trans hfn)).symm
      exact ⟨by kernel_rfl, fun j t ht => by
        rw [Tryd.params5] at ht
        have hm : t ∈ [26, 9] := by simpa using Array.mem_of_getElem? ht
        have hall : ([26, 9].all fun u => !Tryd.prog.wantsStandIn u) = true := by kernel_rfl
        exact (show Tryd.prog.wantsStandIn t = false by simpa using List.all_eq_true.1 hall t hm)⟩)
    (by kernel_rfl)
#print axioms proved
end Go.Proofs.YtecgmejfkfoceaaDoor.Back
