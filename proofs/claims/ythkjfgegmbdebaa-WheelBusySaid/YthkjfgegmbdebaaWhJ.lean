/-
  The laws of layer 17: what stands of a wheel in a law; the chapter's example.
-/
import Derived.Test.YthkjfgegmbdebaaWhI
import Derived.Test.YthkjfgegmbdebaaSmI
namespace Go.Proofs.Ythkjfgegmbdebaa
open Go.RowKit
set_option linter.unusedVariables false

theorem SlI.tch {w w' : World} {A : Option Addr} {n : Nat} {zs : List Int} {S : List Nat} (h : SlI w A n zs) (ht : Tch w w' S) (hn : ∀ g, A = some ⟨g, 0, none⟩ → g ∉ S) : SlI w' A n zs :=
  ⟨h.1, fun j z hz => by
    obtain ⟨g, e, hc⟩ := h.2 j z hz
    exact ⟨g, e, (ht.cell (p := ⟨g, j, none⟩) (block_lt_of_cell hc) (hn g e)).trans hc⟩⟩
/-- A row that was handed back and is kept: none of S. -/
structure Kept (w : World) (S : List Nat) (A : Option Addr) (n : Nat) (zs : List Int) : Prop where
  sl : SlI w A n zs
  non : ∀ g, A = some ⟨g, 0, none⟩ → g ∉ S ∧ g < w.heap.size
theorem Kept.go {w w' : World} {S S' : List Nat} {A : Option Addr} {n : Nat} {zs : List Int} (h : Kept w S A n zs) (hg : Goes w w' S S') : Kept w' S' A n zs :=
  ⟨h.sl.tch hg.tch (fun g e => (h.non g e).1), fun g e => ⟨fun hm => by
    have h1 := h.non g e
    rcases hg.fre g hm with h2 | h2
    · exact h1.1 h2
    · omega, Nat.lt_of_lt_of_le (h.non g e).2 hg.tch.size⟩⟩
theorem Kept.tch0 {w w' : World} {S : List Nat} {A : Option Addr} {n : Nat} {zs : List Int} (h : Kept w S A n zs) (ht : Tch w w' []) : Kept w' S A n zs :=
  ⟨h.sl.tch ht (by simp), fun g e => ⟨(h.non g e).1, Nat.lt_of_lt_of_le (h.non g e).2 ht.size⟩⟩
theorem ids_ints (l : List TmI) : idsV l = ints (l.map Prod.fst) := by unfold idsV ints; rw [List.map_map]; rfl
/-- What stands of a wheel in a law that began at w. -/
structure Std (w wr : World) (p t a : Nat) (L : List TmI) (F : List Nat) : Prop where
  wh : WhP wr p t a L F
  bel : Below w.heap.size w wr
  abv : ∀ s ∈ F, w.heap.size ≤ s
section
variable {w wr w' : World} {p t a : Nat} {L : List TmI} {F F' : List Nat}
theorem Std.go {t' a' : Nat} {L' : List TmI} (h : Std w wr p t a L F) (hE : WhP w' p t' a' L' F') (hg : Goes wr w' F F') : Std w w' p t' a' L' F' :=
  have k := hg.below h.bel.size h.abv
  ⟨hE, h.bel.trans k.1, k.2⟩
theorem Std.tch0 (h : Std w wr p t a L F) (ht : Tch wr w' []) : Std w w' p t a L F :=
  ⟨h.wh.tch ht (by simp), h.bel.trans (ht.below h.bel.size (by simp)), h.abv⟩
theorem Std.row (h : Std w wr p t a L F) : RowI t a L := h.wh.row
theorem Std.add (h : Std w wr p t a L F) (id after : Int) (ht : t ≤ 100000000) (ha : a ≤ 100000000) :
    Calls Try.prog 11 #[ptrV p, .int .i64 id, .int .i64 after] wr fun e w' => e = .returned (.int .i64 (addE L id after)) ∧ ∃ F', Std w w' p t (addA L a id after) (addL L t a id after) F' ∧ Goes wr w' F F' := by
  refine (addP h.wh id after ht ha).mono ?_
  rintro e w' ⟨rfl, F', h1, h2⟩
  exact ⟨rfl, F', h.go h1 h2, h2⟩
theorem Std.cancel (h : Std w wr p t a L F) (id : Int) (ht : t ≤ 100000000) :
    Calls Try.prog 13 #[ptrV p, .int .i64 id] wr fun e w' => e = .returned (.bool (decide (wAt L id ≠ 0))) ∧ ∃ F', Std w w' p t a (canL L id) F' ∧ Goes wr w' F F' := by
  refine (cancelP h.wh id ht).mono ?_
  rintro e w' ⟨rfl, F', h1, h2⟩
  exact ⟨rfl, F', h.go h1 h2, h2⟩
theorem Std.tick (h : Std w wr p t a L F) (ht : t ≤ 90000000) :
    Calls Try.prog 16 #[ptrV p] wr fun e w' => ∃ A c F', e = .returned (.slice A (dueL L (t + 1)).length c) ∧ Std w w' p (t + 1) a (tikL L (t + 1)) F' ∧ Goes wr w' F F' ∧ Kept w' F' A (dueL L (t + 1)).length ((dueL L (t + 1)).map Prod.fst) := by
  refine (tickP h.wh ht).mono ?_
  rintro e w' ⟨A, c, F', rfl, h1, h2, h3, h4⟩
  rw [ids_ints] at h1
  refine ⟨A, c, F', rfl, h.go h2 h3, h3, SlI.of_own h1, fun g e => ⟨h4 g ?_, ?_⟩⟩
  · subst e; simp [obI, Value.ownBlock]
  · subst e; exact own_lt h1 rfl
theorem Std.next (h : Std w wr p t a L F) (ht : t ≤ 100000000) : Calls Try.prog 23 #[ptrV p] wr fun e w' => e = .returned (.int .i64 (nxtV L t : Int)) ∧ Std w w' p t a L F ∧ Tch wr w' [] := by
  refine (nextP h.wh ht).mono ?_
  rintro e w' ⟨rfl, h1⟩
  exact ⟨rfl, h.tch0 h1, h1⟩
theorem Std.left (h : Std w wr p t a L F) (id : Int) (ht : t ≤ 100000000) : Calls Try.prog 19 #[ptrV p, .int .i64 id] wr fun e w' => e = .returned (.tuple #[.int .i64 (lftV L t id), .bool (decide (wAt L id ≠ 0))]) ∧ Std w w' p t a L F ∧ Tch wr w' [] := by
  refine (leftP h.wh id ht).mono ?_
  rintro e w' ⟨rfl, h1⟩
  exact ⟨rfl, h.tch0 h1, h1⟩
theorem Std.now (h : Std w wr p t a L F) : Calls Try.prog 21 #[ptrV p] wr fun e w' => e = .returned (.int .i64 (t : Int)) ∧ w' = wr := nowP h.wh
theorem Std.len (h : Std w wr p t a L F) : Calls Try.prog 22 #[ptrV p] wr fun e w' => e = .returned (.int .i64 (L.length : Int)) ∧ w' = wr := lenP h.wh
end
theorem newS (w : World) : Calls Try.prog 9 #[] w fun e w' => ∃ p F, e = .returned (ptrV p) ∧ Std w w' p 0 0 [] F := by
  refine (newW w).mono ?_
  rintro e w' ⟨p, F, rfl, h1, h2, h3⟩
  exact ⟨p, F, rfl, h1, h3.below (Nat.le_refl _) (by simp), h2⟩
set_option maxRecDepth 100000 in
set_option maxHeartbeats 4000000 in
theorem awake_yes (w : World) : Calls Try.prog 8 #[] w fun e w' => e = .returned (.bool true) ∧ Below w.heap.size w w' := by
  have H1 := newS w
  go_enter Try.func8, Try.ntmps8
  go_wp2_with fail
  refine Calls.mono H1 ?_
  rintro e w1 ⟨p, F1, rfl, hE⟩
  have E1 := Lib.hid hE
  clear hE H1
  have H := E1.out.add 5 2 (by decide) (by decide)
  rw [show addE [] 5 2 = 0 by decide, show addA [] 0 5 2 = 1 by decide, show addL [] 0 0 5 2 = [(5, 2, 0)] by decide] at H
  have G := Lib.hid H
  clear H
  go_wp2_with fail
  refine Calls.mono G.out ?_
  rintro e w2 ⟨rfl, F2, hE, -⟩
  have E2 := Lib.hid hE
  clear hE G E1
  have H := E2.out.add 7 1 (by decide) (by decide)
  rw [show addE [(5, 2, 0)] 7 1 = 0 by decide, show addA [(5, 2, 0)] 1 7 1 = 2 by decide, show addL [(5, 2, 0)] 0 1 7 1 = [(5, 2, 0), (7, 1, 1)] by decide] at H
  have G := Lib.hid H
  clear H
  go_wp2_with fail
  refine Calls.mono G.out ?_
  rintro e w3 ⟨rfl, F3, hE, -⟩
  have E3 := Lib.hid hE
  clear hE G E2
  have H := E3.out.add 6 2 (by decide) (by decide)
  rw [show addE [(5, 2, 0), (7, 1, 1)] 6 2 = 0 by decide, show addA [(5, 2, 0), (7, 1, 1)] 2 6 2 = 3 by decide, show addL [(5, 2, 0), (7, 1, 1)] 0 2 6 2 = [(5, 2, 0), (7, 1, 1), (6, 2, 2)] by decide] at H
  have G := Lib.hid H
  clear H
  go_wp2_with fail
  refine Calls.mono G.out ?_
  rintro e w4 ⟨rfl, F4, hE, -⟩
  have E4 := Lib.hid hE
  clear hE G E3
  have H := E4.out.add 5 9 (by decide) (by decide)
  rw [show addE [(5, 2, 0), (7, 1, 1), (6, 2, 2)] 5 9 = 160 by decide, show addA [(5, 2, 0), (7, 1, 1), (6, 2, 2)] 3 5 9 = 3 by decide, show addL [(5, 2, 0), (7, 1, 1), (6, 2, 2)] 0 3 5 9 = [(5, 2, 0), (7, 1, 1), (6, 2, 2)] by decide] at H
  have G := Lib.hid H
  clear H
  go_wp2_with fail
  refine Calls.mono G.out ?_
  rintro e w5 ⟨rfl, F5, hE, -⟩
  have E5 := Lib.hid hE
  clear hE G E4
  have H := E5.out.next (by decide)
  rw [show nxtV [(5, 2, 0), (7, 1, 1), (6, 2, 2)] 0 = 1 by decide] at H
  have G := Lib.hid H
  clear H
  go_wp2_with fail
  refine Calls.mono G.out ?_
  rintro e w6 ⟨rfl, hE, -⟩
  have E6 := Lib.hid hE
  clear hE G E5
  have H := E6.out.tick (by decide)
  rw [show dueL [(5, 2, 0), (7, 1, 1), (6, 2, 2)] (0 + 1) = [(7, 1, 1)] by decide, show tikL [(5, 2, 0), (7, 1, 1), (6, 2, 2)] (0 + 1) = [(5, 2, 0), (6, 2, 2)] by decide] at H
  have G := Lib.hid H
  clear H
  go_wp2_with fail
  refine Calls.mono G.out ?_
  rintro e w7 ⟨A1, c1, F7, rfl, hE, -, hK⟩
  have E7 := Lib.hid hE
  have K7 : Hid (Kept w7 F7 A1 1 [7]) := Lib.hid hK
  clear hE G E6 hK
  have H := E7.out.left 6 (by decide)
  rw [show lftV [(5, 2, 0), (6, 2, 2)] (0 + 1) 6 = 1 by decide, show decide (wAt [(5, 2, 0), (6, 2, 2)] 6 ≠ 0) = true by decide] at H
  have G := Lib.hid H
  clear H
  go_wp2_with fail
  refine Calls.mono G.out ?_
  rintro e w8 ⟨rfl, hE, hT⟩
  have E8 := Lib.hid hE
  have K8 := Lib.hid (K7.out.tch0 hT)
  clear hE G E7 K7 hT
  have H := E8.out.tick (by decide)
  rw [show dueL [(5, 2, 0), (6, 2, 2)] (0 + 1 + 1) = [(5, 2, 0), (6, 2, 2)] by decide, show tikL [(5, 2, 0), (6, 2, 2)] (0 + 1 + 1) = [] by decide] at H
  have G := Lib.hid H
  clear H
  go_wp2_with fail
  refine Calls.mono G.out ?_
  rintro e w9 ⟨A2, c2, F9, rfl, hE, hG, hK⟩
  have E9 := Lib.hid hE
  have K9 := Lib.hid (K8.out.go hG)
  have M9 : Hid (Kept w9 F9 A2 2 [5, 6]) := Lib.hid hK
  clear hE G E8 K8 hG hK
  have H := E9.out.tick (by decide)
  rw [show dueL [] (0 + 1 + 1 + 1) = [] by decide, show tikL [] (0 + 1 + 1 + 1) = [] by decide] at H
  have G := Lib.hid H
  clear H
  go_wp2_with fail
  refine Calls.mono G.out ?_
  rintro e wa ⟨A3, c3, Fa, rfl, hE, hG, -⟩
  have Ea := Lib.hid hE
  have Ka := Lib.hid (K9.out.go hG)
  have Ma := Lib.hid (M9.out.go hG)
  clear hE G E9 K9 M9 hG
  have H := Ea.out.add 1 0 (by decide) (by decide)
  rw [show addE [] 1 0 = 1 by decide, show addA [] 3 1 0 = 3 by decide, show addL [] (0 + 1 + 1 + 1) 3 1 0 = [] by decide] at H
  have G := Lib.hid H
  clear H
  go_wp2_with fail
  refine Calls.mono G.out ?_
  rintro e wb ⟨rfl, Fb, hE, hG⟩
  have Eb := Lib.hid hE
  have Kb := Lib.hid (Ka.out.go hG)
  have Mb := Lib.hid (Ma.out.go hG)
  clear hE G Ea Ka Ma hG
  have H := Eb.out.add 1 4096 (by decide) (by decide)
  rw [show addE [] 1 4096 = 1 by decide, show addA [] 3 1 4096 = 3 by decide, show addL [] (0 + 1 + 1 + 1) 3 1 4096 = [] by decide] at H
  have G := Lib.hid H
  clear H
  go_wp2_with fail
  refine Calls.mono G.out ?_
  rintro e wc ⟨rfl, Fc, hE, hG⟩
  have Ec := Lib.hid hE
  have Kc := Lib.hid (Kb.out.go hG)
  have Mc := Lib.hid (Mb.out.go hG)
  clear hE G Eb Kb Mb hG
  have HTd : Hid (Tch wc (wc.alloc (.cells #[.int .i64 7] 3)) []) := Lib.hid ((Tch.refl wc []).alloc _)
  have H := same_any A1 (some ⟨wc.heap.size, 0, none⟩) 1 1 c1 1 [7] [7] (by decide) (by decide) _ (Kc.out.tch0 HTd.out).sl (SlI.of_blk (zs := [7]) (Blk.new wc 3 (ints [7]).toArray))
  rw [show decide (([7] : List Int) = [7]) = true by decide] at H
  have G := Lib.hid H
  clear H
  go_wp2_with fail
  refine Calls.mono G.out ?_
  rintro e wd ⟨rfl, hT⟩
  have HTe : Hid (Tch wc wd []) := Lib.hid (HTd.out.trans hT)
  have Ed := Lib.hid (Ec.out.tch0 HTe.out)
  have Md := Lib.hid (Mc.out.tch0 HTe.out)
  clear hT G Ec Kc Mc HTe HTd
  have HTd : Hid (Tch wd (wd.alloc (.cells #[.int .i64 5, .int .i64 6] 3)) []) := Lib.hid ((Tch.refl wd []).alloc _)
  have H := same_any A2 (some ⟨wd.heap.size, 0, none⟩) 2 2 c2 2 [5, 6] [5, 6] (by decide) (by decide) _ (Md.out.tch0 HTd.out).sl (SlI.of_blk (zs := [5, 6]) (Blk.new wd 3 (ints [5, 6]).toArray))
  rw [show decide (([5, 6] : List Int) = [5, 6]) = true by decide] at H
  have G := Lib.hid H
  clear H
  go_wp2_with fail
  refine Calls.mono G.out ?_
  rintro e we ⟨rfl, hT⟩
  have Ee := Lib.hid (Ed.out.tch0 (HTd.out.trans hT))
  have N := Lib.hid Ee.out.now
  have Ln := Lib.hid Ee.out.len
  clear hT G Ed Md HTd
  go_wp2_with fail
  refine Calls.mono N.out ?_
  rintro e wf ⟨rfl, rfl⟩
  go_wp2_with fail
  refine Calls.mono Ln.out ?_
  rintro e wf ⟨rfl, rfl⟩
  go_wp2
  go_ret
  exact ⟨rfl, Ee.out.bel⟩
end Go.Proofs.Ythkjfgegmbdebaa
