/-
  The laws of layer 13: what a step does, the chapter's example.
-/
import Derived.Test.YtakeodnebegbhaaEpP
import Derived.Test.YtakeodnebegbhaaEpF
import Derived.Test.YtakeodnebegbhaaEpL
namespace Go.Proofs.Ytakeodnebegbhaa
open Go.RowKit
set_option linter.unusedVariables false

theorem and_low (n : Int) (k : Nat) (hk : k ≤ 16) : bits .and .i64 n ((2 ^ k - 1 : Nat) : Int) = n % ((2 ^ k : Nat) : Int) := by
  have h0 : 2 ^ k ≤ 2 ^ 16 := Nat.pow_le_pow_right (by decide) hk
  have h00 : 0 < 2 ^ k := Nat.pow_pos (by decide)
  have h7 : (BitVec.ofInt 64 ((2 ^ k - 1 : Nat) : Int)).toNat = 2 ^ k - 1 := by
    rw [BitVec.toNat_ofInt]
    omega
  have key : (BitVec.ofInt 64 n &&& BitVec.ofInt 64 ((2 ^ k - 1 : Nat) : Int)).toNat = (n % ((2 ^ 64 : Nat) : Int)).toNat % 2 ^ k := by
    rw [BitVec.toNat_and, BitVec.toNat_ofInt, h7, Nat.and_two_pow_sub_one_eq_mod]
  show IntKind.i64.wrap ((BitVec.ofInt 64 n &&& BitVec.ofInt 64 ((2 ^ k - 1 : Nat) : Int)).toNat : Nat) = n % ((2 ^ k : Nat) : Int)
  rw [key, IntKind.wrap_i64]
  have hd : ((2 ^ k : Nat) : Int) ∣ ((2 ^ 64 : Nat) : Int) := Int.natCast_dvd_natCast.2 (Nat.pow_dvd_pow 2 (by omega))
  have h1 : (((n % ((2 ^ 64 : Nat) : Int)).toNat % 2 ^ k : Nat) : Int) = n % ((2 ^ k : Nat) : Int) := by
    rw [Int.natCast_emod, Int.toNat_of_nonneg (by omega), Int.emod_emod_of_dvd n hd]
  have h2 := Int.emod_lt_of_pos n (show (0 : Int) < ((2 ^ k : Nat) : Int) by omega)
  have h3 := Int.emod_nonneg n (show ((2 ^ k : Nat) : Int) ≠ 0 by omega)
  rw [h1]
  omega
theorem i64_and3 (n : Int) : bits .and .i64 n 3 = n % 4 := by have := and_low n 2 (by decide); simpa using this
theorem i64_and15 (n : Int) : bits .and .i64 n 15 = n % 16 := by have := and_low n 4 (by decide); simpa using this
theorem SlI.tch {w w' : World} {A : Option Addr} {n : Nat} {zs : List Int} {S : List Nat} (h : SlI w A n zs) (ht : Tch w w' S) (hn : ∀ g, A = some ⟨g, 0, none⟩ → g ∉ S) : SlI w' A n zs :=
  ⟨h.1, fun j z hz => by
    obtain ⟨g, e, hc⟩ := h.2 j z hz
    exact ⟨g, e, (ht.cell (p := ⟨g, j, none⟩) (block_lt_of_cell hc) (hn g e)).trans hc⟩⟩
theorem NewR.sl {w w' : World} {S : List Nat} {A : Option Addr} {c : Nat} {xs : List Int} (h : NewR w w' S A c xs) : SlI w' A xs.length xs := SlI.of_own h.own
theorem NewR.lt {w w' : World} {S : List Nat} {A : Option Addr} {c : Nat} {xs : List Int} (h : NewR w w' S A c xs) : ∀ g, A = some ⟨g, 0, none⟩ → g < w'.heap.size := fun g hg => by
  have := h.own.lt g (by rw [hg]; rfl)
  exact this.2
theorem ret_as {P : Program} {f : Nat} {args : Array Value} {w : World} {v v' : Value} {R : World → Prop} (h : Calls P f args w fun e w' => e = .returned v ∧ R w') (hv : v = v') : Calls P f args w fun e w' => e = .returned v' ∧ R w' := by rw [hv] at h; exact h

/-- A row that was handed back and is kept: none of S. -/
structure Kept (w : World) (S : List Nat) (A : Option Addr) (n : Nat) (zs : List Int) : Prop where
  sl : SlI w A n zs
  non : ∀ g, A = some ⟨g, 0, none⟩ → g ∉ S ∧ g < w.heap.size
theorem NewR.kept {w w' : World} {S : List Nat} {A : Option Addr} {c : Nat} {xs : List Int} (h : NewR w w' S A c xs) : Kept w' S A xs.length xs := ⟨h.sl, fun g hg => ⟨h.non g hg, h.lt g hg⟩⟩
theorem Kept.go {w w' : World} {S S' : List Nat} {A : Option Addr} {n : Nat} {zs : List Int} (h : Kept w S A n zs) (hg : Goes w w' S S') : Kept w' S' A n zs :=
  ⟨h.sl.tch hg.tch (fun g e => (h.non g e).1), fun g e => ⟨fun hm => by
    have h1 := h.non g e
    rcases hg.fre g hm with h2 | h2
    · exact h1.1 h2
    · omega, Nat.lt_of_lt_of_le (h.non g e).2 hg.tch.size⟩⟩
theorem Kept.alloc {w : World} {S : List Nat} {A : Option Addr} {n : Nat} {zs : List Int} (h : Kept w S A n zs) (o : Obj) : Kept (w.alloc o) S A n zs := by
  have ht : Tch w (w.alloc o) [] := (Tch.refl w []).alloc o
  exact ⟨h.sl.tch ht (by simp), fun g e => ⟨(h.non g e).1, Nat.lt_of_lt_of_le (h.non g e).2 ht.size⟩⟩
theorem Kept.tch0 {w w' : World} {S : List Nat} {A : Option Addr} {n : Nat} {zs : List Int} (h : Kept w S A n zs) (ht : Tch w w' []) : Kept w' S A n zs :=
  ⟨h.sl.tch ht (by simp), fun g e => ⟨(h.non g e).1, Nat.lt_of_lt_of_le (h.non g e).2 ht.size⟩⟩
/-- What stands of the program's epoch in a law that began at w. -/
structure Std (w wr : World) (d : Nat) (S : List Nat) (all ins : List Int) : Prop where
  ep : EpP wr d S all ins
  bel : Below w.heap.size w wr
  abv : ∀ s ∈ S, w.heap.size ≤ s
theorem Std.go {w wr w' : World} {d : Nat} {S S' : List Nat} {all ins all' ins' : List Int} (h : Std w wr d S all ins) (hE : EpP w' d S' all' ins') (hg : Goes wr w' S S') : Std w w' d S' all' ins' :=
  have k := hg.below h.bel.size h.abv
  ⟨hE, h.bel.trans k.1, k.2⟩
theorem Std.alloc {w wr : World} {d : Nat} {S : List Nat} {all ins : List Int} (h : Std w wr d S all ins) (o : Obj) : Std w (wr.alloc o) d S all ins :=
  ⟨h.ep.tch ((Tch.refl wr []).alloc o) (by simp), h.bel.alloc h.bel.size o, h.abv⟩
theorem Std.tch0 {w wr w' : World} {d : Nat} {S : List Nat} {all ins : List Int} (h : Std w wr d S all ins) (ht : Tch wr w' []) : Std w w' d S all ins :=
  ⟨h.ep.tch ht (by simp), h.bel.trans (ht.below h.bel.size (by simp)), h.abv⟩
set_option maxRecDepth 100000 in
set_option maxHeartbeats 4000000 in
theorem awake_yes (w : World) : Calls Try.prog 8 #[] w fun e w' => e = .returned (.bool true) ∧ Below w.heap.size w w' := by
  have H1 : Calls Try.prog 9 #[.int .i64 2, .int .i64 5] w _ := newP_ok 2 5 (by decide) (by decide) w
  go_enter Try.func8, Try.ntmps8
  go_wp2_with fail
  refine Calls.mono H1 ?_
  rintro e w1 ⟨d, S1, rfl, hE, hb, hs⟩
  have E1 : Hid (Std w w1 d S1 [5] [-1, -1]) := Lib.hid ⟨hE, hb, hs⟩
  have HN := Lib.hid (newP_bad 17 0 (by decide) w1)
  clear hE hb hs H1
  go_wp2_with fail
  refine Calls.mono HN.out ?_
  rintro e w2 ⟨rfl, hT⟩
  have E2 := Lib.hid (E1.out.tch0 hT)
  obtain ⟨S2, hS⟩ : ∃ S, S = S1 := ⟨_, rfl⟩
  rw [← hS] at E2
  clear hT HN E1 hS
  have H3 := entP d S2 [5] [-1, -1] 1 (by decide) w2 E2.out.ep
  rw [show entV [5] [-1, -1] 1 = 5 by decide, show entN [-1, -1] 1 = 0 by decide, show entI [5] [-1, -1] 1 = [0, -1] by decide] at H3
  have G3 := Lib.hid H3
  clear H3
  go_wp2_with fail
  refine Calls.mono G3.out ?_
  rintro e w3 ⟨S3, rfl, hE, hG⟩
  have E3 := Lib.hid (E2.out.go hE hG)
  clear hE hG G3 E2
  have H4 := pubP d S3 [5] [0, -1] 6 (by decide) w3 E3.out.ep
  rw [show pubV [5] [0, -1] 6 = ([] : List Int) by decide, show [5] ++ [(6 : Int)] = [5, 6] by decide] at H4
  have G4 := Lib.hid H4
  clear H4
  go_wp2_with fail
  refine Calls.mono G4.out ?_
  rintro e w4 ⟨A4, c4, S4, rfl, hN, hE, hG⟩
  have E4 := Lib.hid (E3.out.go hE hG)
  clear hE hG hN G4 E3
  have H5 := entP d S4 [5, 6] [0, -1] 2 (by decide) w4 E4.out.ep
  rw [show entV [5, 6] [0, -1] 2 = 6 by decide, show entN [0, -1] 2 = 0 by decide, show entI [5, 6] [0, -1] 2 = [0, 1] by decide] at H5
  have G5 := Lib.hid H5
  clear H5
  go_wp2_with fail
  refine Calls.mono G5.out ?_
  rintro e w5 ⟨S5, rfl, hE, hG⟩
  have E5 := Lib.hid (E4.out.go hE hG)
  clear hE hG G5 E4
  have H6 := pubP d S5 [5, 6] [0, 1] 7 (by decide) w5 E5.out.ep
  rw [show pubV [5, 6] [0, 1] 7 = ([] : List Int) by decide, show [5, 6] ++ [(7 : Int)] = [5, 6, 7] by decide] at H6
  have G6 := Lib.hid H6
  clear H6
  go_wp2_with fail
  refine Calls.mono G6.out ?_
  rintro e w6 ⟨A6, c6, S6, rfl, hN, hE, hG⟩
  have E6 := Lib.hid (E5.out.go hE hG)
  clear hE hG hN G6 E5
  have H7 := waitP d S6 [5, 6, 7] [0, 1] (by decide) w6 E6.out.ep
  rw [show wtE [5, 6, 7] [0, 1] = [5, 6] by decide] at H7
  have G7 := Lib.hid H7
  clear H7
  go_wp2_with fail
  refine Calls.mono G7.out ?_
  rintro e w7 ⟨A7, c7, rfl, hN, hE, hT⟩
  obtain ⟨S7, hS⟩ : ∃ S, S = S6 := ⟨_, rfl⟩
  have hG : Goes w6 w7 S6 S7 := by rw [hS]; exact Goes.of_tch hT
  rw [← hS] at hN hE
  have E7 := Lib.hid (E6.out.go hE hG)
  have KW7 := Lib.hid hN.kept
  clear hE hG hN hT hS G7 E6
  have H8 := levP d S7 [5, 6, 7] [0, 1] 1 (by decide) w7 E7.out.ep
  rw [show levV [5, 6, 7] [0, 1] 1 = [5] by decide, show levN [0, 1] 1 = 0 by decide, show levI [0, 1] 1 = [-1, 1] by decide] at H8
  have G8 := Lib.hid H8
  clear H8
  go_wp2_with fail
  refine Calls.mono G8.out ?_
  rintro e w8 ⟨A8, c8, S8, rfl, hN, hE, hG⟩
  have E8 := Lib.hid (E7.out.go hE hG)
  have KW8 := Lib.hid (KW7.out.go hG)
  have KN8 := Lib.hid hN.kept
  clear hE hG hN G8 E7 KW7
  have H9 := levP d S8 [5, 6, 7] [-1, 1] 2 (by decide) w8 E8.out.ep
  rw [show levV [5, 6, 7] [-1, 1] 2 = [6] by decide, show levN [-1, 1] 2 = 0 by decide, show levI [-1, 1] 2 = [-1, -1] by decide] at H9
  have G9 := Lib.hid H9
  clear H9
  go_wp2_with fail
  refine Calls.mono G9.out ?_
  rintro e w9 ⟨A9, c9, S9, rfl, hN, hE, hG⟩
  have E9 := Lib.hid (E8.out.go hE hG)
  have KW9 := Lib.hid (KW8.out.go hG)
  have KN9 := Lib.hid (KN8.out.go hG)
  have KO9 := Lib.hid hN.kept
  clear hE hG hN G9 E8 KW8 KN8
  have H10 := pubP d S9 [5, 6, 7] [-1, -1] 8 (by decide) w9 E9.out.ep
  rw [show pubV [5, 6, 7] [-1, -1] 8 = [7] by decide, show [5, 6, 7] ++ [(8 : Int)] = [5, 6, 7, 8] by decide] at H10
  have G10 := Lib.hid H10
  clear H10
  go_wp2_with fail
  refine Calls.mono G10.out ?_
  rintro e w10 ⟨A10, c10, S10, rfl, hN, hE, hG⟩
  have E10 := Lib.hid (E9.out.go hE hG)
  have KW10 := Lib.hid (KW9.out.go hG)
  have KN10 := Lib.hid (KN9.out.go hG)
  have KO10 := Lib.hid (KO9.out.go hG)
  have KP10 := Lib.hid hN.kept
  clear hE hG hN G10 E9 KW9 KN9 KO9
  obtain ⟨w11, hw⟩ : ∃ x, w10.alloc (.cells #[.int .i64 5, .int .i64 6] 3) = x := ⟨_, rfl⟩
  have E11 := Lib.hid (hw ▸ E10.out.alloc (.cells #[.int .i64 5, .int .i64 6] 3))
  have KW11 := Lib.hid (hw ▸ KW10.out.alloc (.cells #[.int .i64 5, .int .i64 6] 3))
  have KN11 := Lib.hid (hw ▸ KN10.out.alloc (.cells #[.int .i64 5, .int .i64 6] 3))
  have KO11 := Lib.hid (hw ▸ KO10.out.alloc (.cells #[.int .i64 5, .int .i64 6] 3))
  have KP11 := Lib.hid (hw ▸ KP10.out.alloc (.cells #[.int .i64 5, .int .i64 6] 3))
  obtain ⟨S11, hS⟩ : ∃ S, S = S10 := ⟨_, rfl⟩
  rw [← hS] at E11 KW11 KN11 KO11 KP11
  have HL11 : Hid (SlI w11 (some ⟨w10.heap.size, 0, none⟩) 2 [5, 6]) := Lib.hid (hw ▸ SlI.of_blk (zs := [5, 6]) (Blk.new w10 3 #[.int .i64 5, .int .i64 6]))
  have HW11 := Lib.hid hw
  have HS11 := Lib.hid (ret_as (v' := .bool true) (same_any A7 (some ⟨w10.heap.size, 0, none⟩) 2 2 c7 2 [5, 6] [5, 6] (by decide) (by decide) w11 KW11.out.sl HL11.out) (congrArg Value.bool (decide_eq_true rfl)))
  clear hw hS E10 KW10 KN10 KO10 KP10
  go_wp2_with fail
  rw [HW11.out]
  refine Calls.mono HS11.out ?_
  rintro e w12 ⟨rfl, hT⟩
  have E12 := Lib.hid (E11.out.tch0 hT)
  have KW12 := Lib.hid (KW11.out.tch0 hT)
  have KN12 := Lib.hid (KN11.out.tch0 hT)
  have KO12 := Lib.hid (KO11.out.tch0 hT)
  have KP12 := Lib.hid (KP11.out.tch0 hT)
  obtain ⟨S12, hS⟩ : ∃ S, S = S11 := ⟨_, rfl⟩
  rw [← hS] at E12 KW12 KN12 KO12 KP12
  clear hT hS E11 HL11 HW11 HS11 KW11 KN11 KO11 KP11
  have H13 := seeP d S12 [5, 6, 7, 8] [-1, -1] 1 (by decide) w12 E12.out.ep
  rw [show seeV [5, 6, 7, 8] [-1, -1] 1 = 0 by decide, show inE [-1, -1] 1 = false by decide] at H13
  have G13 := Lib.hid H13
  clear H13
  go_wp2_with fail
  refine Calls.mono G13.out ?_
  rintro e w13 ⟨rfl, hE, hT⟩
  obtain ⟨S13, hS⟩ : ∃ S, S = S12 := ⟨_, rfl⟩
  have hG : Goes w12 w13 S12 S13 := by rw [hS]; exact Goes.of_tch hT
  rw [← hS] at hE
  have E13 := Lib.hid (E12.out.go hE hG)
  have KW13 := Lib.hid (KW12.out.go hG)
  have KN13 := Lib.hid (KN12.out.go hG)
  have KO13 := Lib.hid (KO12.out.go hG)
  have KP13 := Lib.hid (KP12.out.go hG)
  clear hE hG hT hS G13 E12 KW12 KN12 KO12 KP12
  obtain ⟨w14, hw⟩ : ∃ x, w13.alloc (.cells #[.int .i64 5] 3) = x := ⟨_, rfl⟩
  have E14 := Lib.hid (hw ▸ E13.out.alloc (.cells #[.int .i64 5] 3))
  have KW14 := Lib.hid (hw ▸ KW13.out.alloc (.cells #[.int .i64 5] 3))
  have KN14 := Lib.hid (hw ▸ KN13.out.alloc (.cells #[.int .i64 5] 3))
  have KO14 := Lib.hid (hw ▸ KO13.out.alloc (.cells #[.int .i64 5] 3))
  have KP14 := Lib.hid (hw ▸ KP13.out.alloc (.cells #[.int .i64 5] 3))
  obtain ⟨S14, hS⟩ : ∃ S, S = S13 := ⟨_, rfl⟩
  rw [← hS] at E14 KW14 KN14 KO14 KP14
  have HL14 : Hid (SlI w14 (some ⟨w13.heap.size, 0, none⟩) 1 [5]) := Lib.hid (hw ▸ SlI.of_blk (zs := [5]) (Blk.new w13 3 #[.int .i64 5]))
  have HW14 := Lib.hid hw
  have HS14 := Lib.hid (ret_as (v' := .bool true) (same_any A8 (some ⟨w13.heap.size, 0, none⟩) 1 1 c8 1 [5] [5] (by decide) (by decide) w14 KN14.out.sl HL14.out) (congrArg Value.bool (decide_eq_true rfl)))
  clear hw hS E13 KW13 KN13 KO13 KP13
  go_wp2_with fail
  rw [HW14.out]
  refine Calls.mono HS14.out ?_
  rintro e w15 ⟨rfl, hT⟩
  have E15 := Lib.hid (E14.out.tch0 hT)
  have KW15 := Lib.hid (KW14.out.tch0 hT)
  have KN15 := Lib.hid (KN14.out.tch0 hT)
  have KO15 := Lib.hid (KO14.out.tch0 hT)
  have KP15 := Lib.hid (KP14.out.tch0 hT)
  obtain ⟨S15, hS⟩ : ∃ S, S = S14 := ⟨_, rfl⟩
  rw [← hS] at E15 KW15 KN15 KO15 KP15
  clear hT hS E14 HL14 HW14 HS14 KW14 KN14 KO14 KP14
  obtain ⟨w16, hw⟩ : ∃ x, w15.alloc (.cells #[.int .i64 6] 3) = x := ⟨_, rfl⟩
  have E16 := Lib.hid (hw ▸ E15.out.alloc (.cells #[.int .i64 6] 3))
  have KW16 := Lib.hid (hw ▸ KW15.out.alloc (.cells #[.int .i64 6] 3))
  have KN16 := Lib.hid (hw ▸ KN15.out.alloc (.cells #[.int .i64 6] 3))
  have KO16 := Lib.hid (hw ▸ KO15.out.alloc (.cells #[.int .i64 6] 3))
  have KP16 := Lib.hid (hw ▸ KP15.out.alloc (.cells #[.int .i64 6] 3))
  obtain ⟨S16, hS⟩ : ∃ S, S = S15 := ⟨_, rfl⟩
  rw [← hS] at E16 KW16 KN16 KO16 KP16
  have HL16 : Hid (SlI w16 (some ⟨w15.heap.size, 0, none⟩) 1 [6]) := Lib.hid (hw ▸ SlI.of_blk (zs := [6]) (Blk.new w15 3 #[.int .i64 6]))
  have HW16 := Lib.hid hw
  have HS16 := Lib.hid (ret_as (v' := .bool true) (same_any A9 (some ⟨w15.heap.size, 0, none⟩) 1 1 c9 1 [6] [6] (by decide) (by decide) w16 KO16.out.sl HL16.out) (congrArg Value.bool (decide_eq_true rfl)))
  clear hw hS E15 KW15 KN15 KO15 KP15
  go_wp2_with fail
  rw [HW16.out]
  refine Calls.mono HS16.out ?_
  rintro e w17 ⟨rfl, hT⟩
  have E17 := Lib.hid (E16.out.tch0 hT)
  have KW17 := Lib.hid (KW16.out.tch0 hT)
  have KN17 := Lib.hid (KN16.out.tch0 hT)
  have KO17 := Lib.hid (KO16.out.tch0 hT)
  have KP17 := Lib.hid (KP16.out.tch0 hT)
  obtain ⟨S17, hS⟩ : ∃ S, S = S16 := ⟨_, rfl⟩
  rw [← hS] at E17 KW17 KN17 KO17 KP17
  clear hT hS E16 HL16 HW16 HS16 KW16 KN16 KO16 KP16
  obtain ⟨w18, hw⟩ : ∃ x, w17.alloc (.cells #[.int .i64 7] 3) = x := ⟨_, rfl⟩
  have E18 := Lib.hid (hw ▸ E17.out.alloc (.cells #[.int .i64 7] 3))
  have KW18 := Lib.hid (hw ▸ KW17.out.alloc (.cells #[.int .i64 7] 3))
  have KN18 := Lib.hid (hw ▸ KN17.out.alloc (.cells #[.int .i64 7] 3))
  have KO18 := Lib.hid (hw ▸ KO17.out.alloc (.cells #[.int .i64 7] 3))
  have KP18 := Lib.hid (hw ▸ KP17.out.alloc (.cells #[.int .i64 7] 3))
  obtain ⟨S18, hS⟩ : ∃ S, S = S17 := ⟨_, rfl⟩
  rw [← hS] at E18 KW18 KN18 KO18 KP18
  have HL18 : Hid (SlI w18 (some ⟨w17.heap.size, 0, none⟩) 1 [7]) := Lib.hid (hw ▸ SlI.of_blk (zs := [7]) (Blk.new w17 3 #[.int .i64 7]))
  have HW18 := Lib.hid hw
  have HS18 := Lib.hid (ret_as (v' := .bool true) (same_any A10 (some ⟨w17.heap.size, 0, none⟩) 1 1 c10 1 [7] [7] (by decide) (by decide) w18 KP18.out.sl HL18.out) (congrArg Value.bool (decide_eq_true rfl)))
  clear hw hS E17 KW17 KN17 KO17 KP17
  go_wp2_with fail
  rw [HW18.out]
  refine Calls.mono HS18.out ?_
  rintro e w19 ⟨rfl, hT⟩
  have E19 := Lib.hid (E18.out.tch0 hT)
  have KW19 := Lib.hid (KW18.out.tch0 hT)
  have KN19 := Lib.hid (KN18.out.tch0 hT)
  have KO19 := Lib.hid (KO18.out.tch0 hT)
  have KP19 := Lib.hid (KP18.out.tch0 hT)
  obtain ⟨S19, hS⟩ : ∃ S, S = S18 := ⟨_, rfl⟩
  rw [← hS] at E19 KW19 KN19 KO19 KP19
  clear hT hS E18 HL18 HW18 HS18 KW18 KN18 KO18 KP18
  have H20 := curP d S19 [5, 6, 7, 8] [-1, -1] (by decide) w19 E19.out.ep
  rw [show curE [5, 6, 7, 8] = 8 by decide] at H20
  have G20 := Lib.hid H20
  clear H20
  go_wp2_with fail
  refine Calls.mono G20.out ?_
  rintro e w20 ⟨rfl, hE, hT⟩
  obtain ⟨S20, hS⟩ : ∃ S, S = S19 := ⟨_, rfl⟩
  have hG : Goes w19 w20 S19 S20 := by rw [hS]; exact Goes.of_tch hT
  rw [← hS] at hE
  have E20 := Lib.hid (E19.out.go hE hG)
  have KW20 := Lib.hid (KW19.out.go hG)
  have KN20 := Lib.hid (KN19.out.go hG)
  have KO20 := Lib.hid (KO19.out.go hG)
  have KP20 := Lib.hid (KP19.out.go hG)
  clear hE hG hT hS G20 E19 KW19 KN19 KO19 KP19
  go_wp2
  go_ret
  exact ⟨rfl, E20.out.bel⟩
end Go.Proofs.Ytakeodnebegbhaa
