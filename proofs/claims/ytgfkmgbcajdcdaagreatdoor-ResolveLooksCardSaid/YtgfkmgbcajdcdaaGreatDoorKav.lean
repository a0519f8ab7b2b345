/-
  Several texts in one: RbPo, RbBy, RbAw, RbIn, RbSt, RbMd, Adq, IpC, IpD.
-/
import Derived.Test.YtgfkmgbcajdcdaaGreatDoorKau
import Derived.Test.YtgfkmgbcajdcdaaGreatDoorKas
import Derived.Deep.SlicePairs
import Derived.Deep.Strs
import Derived.Test.YtgfkmgbcajdcdaaGreatDoorKad
import Derived.Test.YtgfkmgbcajdcdaaGreatDoorKal
import Derived.Lib.SliceRun
import Derived.Shelf.Abstract
namespace Go.Proofs.YtgfkmgbcajdcdaaGreatDoor
open Go.RowKit
set_option linter.unusedVariables false

set_option maxRecDepth 100000 in
set_option maxHeartbeats 4000000 in
theorem do_any (t : Nat) (S : List Nat) (L : List TdI) (x : StpR) (hx : x.ok) (w : World) (hE : EnvN w S) (h : RbP w t S L) :
    Calls Tryz.prog 84 #[.pointer (some ⟨t, 0, none⟩), srV x] w fun e w' => e = .returned (.tuple #[.int .i64 (doR L x).2.1, .int .i64 (doR L x).2.2]) ∧ ∃ S', RbP w' t S' (doR L x).1 ∧ Goes w w' S S' := by
  obtain ⟨wh, ⟨⟨ps, ph, pl⟩, pb⟩, pr, me, ⟨vs, vh, vl⟩, po, aw⟩ := x
  obtain ⟨o1, o2, o3⟩ := hx
  have o2 : PfOk ((ps, ph, pl), pb) := o2
  have o3 : PaOk (pr, me, (vs, vh, vl), po, aw) := o3
  obtain ⟨xb, hxb⟩ : ∃ xb, w.heap.size = xb := ⟨_, rfl⟩
  obtain ⟨W0, hW0⟩ : ∃ W, w.alloc (.cells #[.int .i64 wh, .bool ps, .int .u64 (ph : Int), .int .u64 (pl : Int), .int .i64 pb, .int .i64 pr, .int .i64 me, .bool vs, .int .u64 (vh : Int), .int .u64 (vl : Int), .int .i64 po, .bool aw] 107) = W := ⟨_, rfl⟩
  have hX : Blk W0 xb 107 #[.int .i64 wh, .bool ps, .int .u64 (ph : Int), .int .u64 (pl : Int), .int .i64 pb, .int .i64 pr, .int .i64 me, .bool vs, .int .u64 (vh : Int), .int .u64 (vl : Int), .int .i64 po, .bool aw] := hW0 ▸ hxb ▸ Blk.new _ _ _
  have x0 := (hX.cell 0).trans (show _ = some (Value.int .i64 wh) by rfl)
  have x1 := (hX.cell 1).trans (show _ = some (Value.bool ps) by rfl)
  have x2 := (hX.cell 2).trans (show _ = some (Value.int .u64 (ph : Int)) by rfl)
  have x3 := (hX.cell 3).trans (show _ = some (Value.int .u64 (pl : Int)) by rfl)
  have x4 := (hX.cell 4).trans (show _ = some (Value.int .i64 pb) by rfl)
  have x5 := (hX.cell 5).trans (show _ = some (Value.int .i64 pr) by rfl)
  have x6 := (hX.cell 6).trans (show _ = some (Value.int .i64 me) by rfl)
  have x7 := (hX.cell 7).trans (show _ = some (Value.bool vs) by rfl)
  have x8 := (hX.cell 8).trans (show _ = some (Value.int .u64 (vh : Int)) by rfl)
  have x9 := (hX.cell 9).trans (show _ = some (Value.int .u64 (vl : Int)) by rfl)
  have x10 := (hX.cell 10).trans (show _ = some (Value.int .i64 po) by rfl)
  have x11 := (hX.cell 11).trans (show _ = some (Value.bool aw) by rfl)
  have hT0 : Tch w W0 [] := hW0 ▸ (Tch.refl w []).alloc _
  have HT0 : Hid (Tch w W0 S) := Lib.hid (hT0.mono (by simp))
  have hP0 := h.tch hT0 (by simp)
  have hE0 := hE.1.tch0 hT0
  have HW0 := Lib.hid (And.intro hW0 hxb)
  obtain ⟨k, hk⟩ : ∃ k, wh % 8 = k := ⟨_, rfl⟩
  have ha : bits .and .i64 wh 7 = k := by rw [and7R]; exact hk
  have HGo : Hid (∀ W S', Goes W0 W S S' → Goes w W S S') := Lib.hid (fun W S' hg => (Goes.of_tch HT0.out).trans_ hg)
  by_cases k3 : k = 3
  · subst k3
    have HE : Hid (doR L ⟨wh, ((ps, ph, pl), pb), (pr, me, (vs, vh, vl), po, aw)⟩ = ((dropR L ((ps, ph, pl), pb) (pr, me, (vs, vh, vl), po, aw)).1, 0, (dropR L ((ps, ph, pl), pb) (pr, me, (vs, vh, vl), po, aw)).2)) := Lib.hid (by unfold doR; rw [if_pos (show wh % 8 = 3 from hk)])
    have HC := Lib.hid (dropP t S L ((ps, ph, pl), pb) (pr, me, (vs, vh, vl), po, aw) o2 o3 W0 hP0)
    clear hk hE hE0 hP0 h hT0 hX hW0 hxb o1 o2 o3
    go_enter Tryz.func84, Tryz.ntmps84
    go_wp2_with fail
    rw [HW0.out.1, HW0.out.2]
    refine Calls.mono HC.out ?_
    rintro e w1 ⟨rfl, S', hI, hg⟩
    have HI := Lib.hid hI
    have HG := Lib.hid (HGo.out _ _ hg)
    clear hI hg x0 x1 x2 x3 x4 x5 x6 x7 x8 x9 x10 x11
    go_wp2
    refine bodyPost_ret (v := .tuple #[.int .i64 (((dropR L ((ps, ph, pl), pb) (pr, me, (vs, vh, vl), po, aw)).1, 0, (dropR L ((ps, ph, pl), pb) (pr, me, (vs, vh, vl), po, aw)).2)).2.1, .int .i64 (((dropR L ((ps, ph, pl), pb) (pr, me, (vs, vh, vl), po, aw)).1, 0, (dropR L ((ps, ph, pl), pb) (pr, me, (vs, vh, vl), po, aw)).2)).2.2]) (by simp [results, Tryz.results84, go_sem]) rfl ⟨by rw [HE.out], S', by rw [HE.out]; exact HI.out, HG.out⟩
  by_cases k4 : k = 4
  · subst k4
    have HE : Hid (doR L ⟨wh, ((ps, ph, pl), pb), (pr, me, (vs, vh, vl), po, aw)⟩ = ((flushR L pr).1, (flushR L pr).2, 0)) := Lib.hid (by unfold doR; rw [if_neg (show ¬ wh % 8 = 3 by omega), if_pos (show wh % 8 = 4 from hk)])
    have HC := Lib.hid (flushP t S L pr o3.1 W0 hP0)
    clear hk hE hE0 hP0 h hT0 hX hW0 hxb o1 o2 o3
    go_enter Tryz.func84, Tryz.ntmps84
    go_wp2_with fail
    rw [HW0.out.1, HW0.out.2]
    refine Calls.mono HC.out ?_
    rintro e w1 ⟨rfl, S', hI, hg⟩
    have HI := Lib.hid hI
    have HG := Lib.hid (HGo.out _ _ hg)
    clear hI hg x0 x1 x2 x3 x4 x5 x6 x7 x8 x9 x10 x11
    go_wp2
    refine bodyPost_ret (v := .tuple #[.int .i64 (((flushR L pr).1, (flushR L pr).2, 0)).2.1, .int .i64 (((flushR L pr).1, (flushR L pr).2, 0)).2.2]) (by simp [results, Tryz.results84, go_sem]) rfl ⟨by rw [HE.out], S', by rw [HE.out]; exact HI.out, HG.out⟩
  · have b3 : (k == (3 : Int)) = false := by simpa using k3
    have b4 : (k == (4 : Int)) = false := by simpa using k4
    have HE : Hid (doR L ⟨wh, ((ps, ph, pl), pb), (pr, me, (vs, vh, vl), po, aw)⟩ = ((putR L ((ps, ph, pl), pb) (pr, me, (vs, vh, vl), po, aw)).1, 0, (putR L ((ps, ph, pl), pb) (pr, me, (vs, vh, vl), po, aw)).2)) := Lib.hid (by unfold doR; rw [if_neg (show ¬ wh % 8 = 3 by omega), if_neg (show ¬ wh % 8 = 4 by omega)])
    have HC := Lib.hid (putP t S L ((ps, ph, pl), pb) (pr, me, (vs, vh, vl), po, aw) o2 o3 W0 hE0 hE.2 hP0)
    clear hk k3 k4 hE hE0 hP0 h hT0 hX hW0 hxb o1 o2 o3
    go_enter Tryz.func84, Tryz.ntmps84
    go_wp2_with fail
    rw [HW0.out.1, HW0.out.2]
    refine Calls.mono HC.out ?_
    rintro e w1 ⟨rfl, S', hI, hg⟩
    have HI := Lib.hid hI
    have HG := Lib.hid (HGo.out _ _ hg)
    clear hI hg x0 x1 x2 x3 x4 x5 x6 x7 x8 x9 x10 x11
    go_wp2
    refine bodyPost_ret (v := .tuple #[.int .i64 (((putR L ((ps, ph, pl), pb) (pr, me, (vs, vh, vl), po, aw)).1, 0, (putR L ((ps, ph, pl), pb) (pr, me, (vs, vh, vl), po, aw)).2)).2.1, .int .i64 (((putR L ((ps, ph, pl), pb) (pr, me, (vs, vh, vl), po, aw)).1, 0, (putR L ((ps, ph, pl), pb) (pr, me, (vs, vh, vl), po, aw)).2)).2.2]) (by simp [results, Tryz.results84, go_sem]) rfl ⟨by rw [HE.out], S', by rw [HE.out]; exact HI.out, HG.out⟩
end Go.Proofs.YtgfkmgbcajdcdaaGreatDoor

namespace Go.Proofs.YtgfkmgbcajdcdaaGreatDoor
open Go.RowKit
set_option linter.unusedVariables false

/-- The program's rib in a law that began at w. -/
structure StdR (w W : World) (p : Nat) (S : List Nat) (L : List TdI) : Prop where
  P : RbP W p S L
  bel : Below w.heap.size w W
  abv : ∀ s ∈ S, w.heap.size ≤ s
section
variable {w W W' : World} {p : Nat} {S S' : List Nat} {L M : List TdI} {g : Nat} {t : TypeId} {cs : Array Value}
theorem StdR.env (h : StdR w W p S L) (hE : EnvR w) : EnvN W S := hE.n h.bel h.abv
theorem StdR.go (h : StdR w W p S L) (hP : RbP W' p S' M) (hg : Goes W W' S S') : StdR w W' p S' M :=
  have k := hg.below h.bel.size h.abv
  ⟨hP, h.bel.trans k.1, k.2⟩
theorem StdR.read (h : StdR w W p S L) (hP : RbP W' p S L) (ht : Tch W W' S) : StdR w W' p S L := h.go hP (Goes.of_tch ht)
theorem StdR.tch0 (h : StdR w W p S L) (ht : Tch W W' []) : StdR w W' p S L := h.read (h.P.tch ht (by simp)) (ht.mono (by simp))
theorem StdR.alloc (h : StdR w W p S L) (o : Obj) : StdR w (W.alloc o) p S L := h.tch0 ((Tch.refl W []).alloc o)
/-- A block of the law's own beside it. -/
structure OwnR (W : World) (S : List Nat) (g : Nat) (t : TypeId) (cs : Array Value) : Prop where
  blk : Blk W g t cs
  non : g ∉ S
theorem OwnR.go (h : OwnR W S g t cs) (hg : Goes W W' S S') : OwnR W' S' g t cs :=
  ⟨hg.tch.blk h.blk h.non, fun hm => by
    rcases hg.fre g hm with h1 | h1
    · exact h.non h1
    · have := h.blk.lt; omega⟩
theorem OwnR.tch0 (h : OwnR W S g t cs) (ht : Tch W W' []) : OwnR W' S g t cs := h.go (Goes.of_tch (ht.mono (by simp)))
theorem OwnR.alloc (h : OwnR W S g t cs) (o : Obj) : OwnR (W.alloc o) S g t cs := ⟨h.blk.alloc o, h.non⟩
theorem OwnR.new (h : RbP W p S L) (t : TypeId) (cs : Array Value) : OwnR (W.alloc (.cells cs t)) S W.heap.size t cs := ⟨Blk.new W t cs, fun hm => by have := h.lt _ hm; omega⟩
end
end Go.Proofs.YtgfkmgbcajdcdaaGreatDoor

namespace Go.Proofs.YtgfkmgbcajdcdaaGreatDoor
open Go.RowKit
set_option linter.unusedVariables false

/-- The rib, the example's two paths, and what is best. -/
structure AwR (w W : World) (p : Nat) (S : List Nat) (L : List TdI) (va vb vc : Nat) : Prop where
  Y : StdR w W p S L
  A : OwnR W S va 49 #[.int .i64 3, .int .i64 5, .bool false, .int .u64 0, .int .u64 168361985, .int .i64 0, .bool false]
  B : OwnR W S vb 49 #[.int .i64 1, .int .i64 7, .bool false, .int .u64 0, .int .u64 168361986, .int .i64 0, .bool false]
  C : OwnR W S vc 49 #[.int .i64 1, .int .i64 7, .bool false, .int .u64 0, .int .u64 168361986, .int .i64 0, .bool false]
section
variable {w W W' : World} {p : Nat} {S S' : List Nat} {L M : List TdI} {va vb vc : Nat}
theorem AwR.go (h : AwR w W p S L va vb vc) (hP : RbP W' p S' M) (hg : Goes W W' S S') : AwR w W' p S' M va vb vc := ⟨h.Y.go hP hg, h.A.go hg, h.B.go hg, h.C.go hg⟩
theorem AwR.read (h : AwR w W p S L va vb vc) (hP : RbP W' p S L) (ht : Tch W W' S) : AwR w W' p S L va vb vc := h.go hP (Goes.of_tch ht)
theorem AwR.tch0 (h : AwR w W p S L va vb vc) (ht : Tch W W' []) : AwR w W' p S L va vb vc := ⟨h.Y.tch0 ht, h.A.tch0 ht, h.B.tch0 ht, h.C.tch0 ht⟩
theorem AwR.below (h : AwR w W p S L va vb vc) (hb : Below W.heap.size W W') : AwR w W' p S L va vb vc := h.tch0 (Tch.of_below [] hb)
theorem AwR.alloc (h : AwR w W p S L va vb vc) (o : Obj) : AwR w (W.alloc o) p S L va vb vc := h.tch0 ((Tch.refl W []).alloc o)
end
end Go.Proofs.YtgfkmgbcajdcdaaGreatDoor

namespace Go.Proofs.YtgfkmgbcajdcdaaGreatDoor
open Go.ChangeShapes Go.WideShapes Go.ChangeAt Go.RowKit
set_option linter.unusedVariables false

section
variable {H : Type} {enc : TypeId × Value → H} {W : World}
end
theorem n64R {x : Int} (h : (Lit.int .u64 x).wf = true) : ∃ n : Nat, x = n ∧ N64 n := by
  have h1 : 0 ≤ x ∧ x ≤ 18446744073709551615 := by simpa [Lit.wf, IntKind.min, IntKind.max, IntKind.bits, IntKind.signed] using h
  exact ⟨x.toNat, by omega, by unfold N64; omega⟩
end Go.Proofs.YtgfkmgbcajdcdaaGreatDoor

namespace Go.Proofs.YtgfkmgbcajdcdaaGreatDoor
open Go.RowKit Go.ChangeShapes Go.WideShapes Go.ChangeAt
set_option linter.unusedVariables false

abbrev Stp := StpR
instance : Inhabited Stp := ⟨⟨0, ((false, 0, 0), 0), zeroX⟩⟩
/-- A slice of steps that came in. -/
def IsStp (w : World) (a : Option Addr) (l : Nat) (z : List Stp) : Prop :=
  z.length = l ∧ (∀ x ∈ z, x.ok) ∧ (0 < l → ∃ b o, a = some ⟨b, o, none⟩ ∧ b < w.heap.size ∧ ∀ j x, z[j]? = some x → ∀ k v, (srC x)[k]? = some v → w.cell? ⟨b, o + j * 12 + k, none⟩ = some v)
theorem IsStp.below {w w' : World} {a : Option Addr} {l : Nat} {z : List Stp} (h : IsStp w a l z) (hb : Below w.heap.size w w') : IsStp w' a l z := by
  refine ⟨h.1, h.2.1, fun h0 => ?_⟩
  obtain ⟨b, o, e, hlt, hc⟩ := h.2.2 h0
  exact ⟨b, o, e, by have := hb.size; omega, fun j x hx k v hv => (hb.cell (p := ⟨b, o + j * 12 + k, none⟩) hlt).trans (hc j x hx k v hv)⟩
set_option maxRecDepth 100000 in
set_option maxHeartbeats 4000000 in
theorem open_step {H : Type} {enc : TypeId × Value → H} {W : World} {base n : Nat} {spare : Nat → Bool} {held : Bool} {cs : List Value} {y : DataW H × List MemPlace} (hl : cs.length = 12) (hf : DataW.trod enc Tryz.prog W base spare held n 107 cs = some y) :
    ∃ q : StpR, cs = srC q ∧ q.ok := by
  match cs, hl with
  | [c0, c1, c2, c3, c4, c5, c6, c7, c8, c9, c10, c11], _ =>
    have e0 : Tryz.prog.cellsOf 28 = 3 := by kernel_rfl
    have e1 : Tryz.prog.cellsOf 3 = 1 := by kernel_rfl
    have e2 : Tryz.prog.cellsOf 4 = 1 := by kernel_rfl
    have e3 : Tryz.prog.cellsOf 26 = 1 := by kernel_rfl
    have e4 : Tryz.prog.cellsOf 30 = 4 := by kernel_rfl
    have e5 : Tryz.prog.cellsOf 49 = 7 := by kernel_rfl
    cases n with
    | zero => simp [DataW.trod] at hf
    | succ n =>
      simp only [DataW.trod, Tryz.underlying107] at hf
      split at hf
      · obtain ⟨xs, hm, hx⟩ := Option.map_eq_some_iff.1 hf
        simp only [List.mapM_cons, List.mapM_nil, bind, Option.bind_eq_some_iff, pure, Option.some.injEq] at hm
        obtain ⟨y0, g0, r0, ⟨y1, g1, r1, ⟨y2, g2, r2, rfl, rfl⟩, rfl⟩, rfl⟩ := hm
        simp only [e1, e4, e5, List.drop_zero, List.take_succ_cons, List.take_zero, List.drop_succ_cons] at g0 g1 g2
        obtain ⟨x0, t0, q0, w0⟩ := DataW.trod_int Tryz.underlying3 g0
        obtain ⟨p0, p1, m1, hp, _, k0, k1⟩ := trod_struct2 Tryz.underlying30 g1
        simp only [e0, e1, List.drop_zero, List.take_succ_cons, List.take_zero, List.drop_succ_cons] at k0 k1
        obtain ⟨z0, z1, z2, m, hz, _, a0, a1, a2⟩ := Go.Deep.trod_struct3 Tryz.underlying28 k0
        simp only [e2, e3, List.drop_zero, List.take_succ_cons, List.take_zero, List.drop_succ_cons] at a0 a1 a2
        obtain ⟨x1, t1, q1⟩ := DataW.trod_bool Tryz.underlying4 a0
        obtain ⟨x2, t2, q2, w2⟩ := DataW.trod_int Tryz.underlying26 a1
        obtain ⟨x3, t3, q3, w3⟩ := DataW.trod_int Tryz.underlying26 a2
        obtain ⟨x4, t4, q4, w4⟩ := DataW.trod_int Tryz.underlying3 k1
        clear g0 g1 k0 k1 a0 a1 a2 hp hz hx
        cases n with
        | zero => simp [DataW.trod] at g2
        | succ n =>
          simp only [DataW.trod, Tryz.underlying49] at g2
          split at g2
          · obtain ⟨xs, hm, hx⟩ := Option.map_eq_some_iff.1 g2
            simp only [List.mapM_cons, List.mapM_nil, bind, Option.bind_eq_some_iff, pure, Option.some.injEq] at hm
            obtain ⟨y5, g5, r5, ⟨y6, g6, r6, ⟨y7, g7, r7, ⟨y8, g8, r8, ⟨y9, g9, r9, rfl, rfl⟩, rfl⟩, rfl⟩, rfl⟩, rfl⟩ := hm
            simp only [e0, e1, e2, List.drop_zero, List.take_succ_cons, List.take_zero, List.drop_succ_cons] at g5 g6 g7 g8 g9
            obtain ⟨x5, t5, q5, w5⟩ := DataW.trod_int Tryz.underlying3 g5
            obtain ⟨x6, t6, q6, w6⟩ := DataW.trod_int Tryz.underlying3 g6
            obtain ⟨u0, u1, u2, m', hu, _, l0, l1, l2⟩ := Go.Deep.trod_struct3 Tryz.underlying28 g7
            simp only [e2, e3, List.drop_zero, List.take_succ_cons, List.take_zero, List.drop_succ_cons] at l0 l1 l2
            obtain ⟨x7, t7, q7⟩ := DataW.trod_bool Tryz.underlying4 l0
            obtain ⟨x8, t8, q8, w8⟩ := DataW.trod_int Tryz.underlying26 l1
            obtain ⟨x9, t9, q9, w9⟩ := DataW.trod_int Tryz.underlying26 l2
            obtain ⟨xa, ta, qa, wa⟩ := DataW.trod_int Tryz.underlying3 g8
            obtain ⟨xc, tc, qc⟩ := DataW.trod_bool Tryz.underlying4 g9
            injection t0 with t0 _
            injection t1 with t1 _
            injection t2 with t2 _
            injection t3 with t3 _
            injection t4 with t4 _
            injection t5 with t5 _
            injection t6 with t6 _
            injection t7 with t7 _
            injection t8 with t8 _
            injection t9 with t9 _
            injection ta with ta _
            injection tc with tc _
            subst t0 t1 t2 t3 t4 t5 t6 t7 t8 t9 ta tc
            obtain ⟨n2, rfl, v2⟩ := n64R w2
            obtain ⟨n3, rfl, v3⟩ := n64R w3
            obtain ⟨n8, rfl, v8⟩ := n64R w8
            obtain ⟨n9, rfl, v9⟩ := n64R w9
            exact ⟨⟨x0, ((x1, n2, n3), x4), (x5, x6, (x7, n8, n9), xa, xc)⟩, rfl, w0, ⟨⟨v2, v3⟩, w4⟩, w5, w6, ⟨v8, v9⟩, wa⟩
          · cases g2
      · cases hf
set_option maxRecDepth 100000 in
theorem isStp_of {H : Type} {enc : TypeId × Value → H} {W : World} {a : Option Addr} {l c : Nat} {d : DataW H} {p : List MemPlace} (h : DataW.Trod enc Tryz.prog W 0 (fun _ => true) true 23 (.slice a l c) d p) : ∃ z, IsStp W a l z := by
  obtain ⟨fuel, hf⟩ := h
  have ce : Tryz.prog.cellsOf 107 = 12 := by kernel_rfl
  rcases Go.Deep.open_slice Tryz.underlying23 hf with ⟨hcs, _⟩ | ⟨ad, len, cap, m, n, D, Pl, hcs, _, hl, hm, hmm, _, hx⟩
  · simp [Value.cells] at hcs
    obtain ⟨rfl, rfl, rfl⟩ := hcs
    exact ⟨[], rfl, fun x hx => (by cases hx), fun h0 => absurd h0 (by omega)⟩
  · simp [Value.cells] at hcs
    obtain ⟨rfl, rfl, rfl⟩ := hcs
    simp only [if_true] at hmm
    have each : ∀ i, i < l → ∃ q : Stp, (∀ k v, (srC q)[k]? = some v → W.cell? ((ad.add (i * 12)).add k) = some v) ∧ q.ok := by
      intro i hi
      obtain ⟨cs', h1, h2⟩ := hx i (by omega)
      rw [ce] at h1
      obtain ⟨_, hlen, hcell⟩ := World.cells?_some h1
      obtain ⟨q, hq, hok⟩ := open_step hlen h2
      refine ⟨q, fun k v hv => ?_, hok⟩
      rw [← hq] at hv
      have hk := (List.getElem?_eq_some_iff.1 hv).1
      have := hcell k (by omega)
      rw [this]
      simpa using hv
    obtain ⟨q, hq⟩ := Go.Deep.choose_lt each
    refine ⟨(List.range l).map q, by simp, fun x hx => ?_, fun h0 => ?_⟩
    · obtain ⟨i, hi, rfl⟩ := List.mem_map.1 hx
      exact (hq i (List.mem_range.1 hi)).2
    · obtain ⟨b, off, spot⟩ := ad
      have hc := (hq 0 h0).1 0 _ rfl
      have hspot : spot = none := by simpa [Addr.add] using World.cell?_spot hc
      subst hspot
      refine ⟨b, off, rfl, by simpa [Addr.add] using World.block_lt_of_cell? W _ hc, fun j x hjx k v hv => ?_⟩
      rw [List.getElem?_map, Option.map_eq_some_iff] at hjx
      obtain ⟨i, hi, rfl⟩ := hjx
      have hil := (List.getElem?_eq_some_iff.1 hi).1
      have hij : i = j := by rw [List.getElem?_range (by simpa using hil)] at hi; injection hi with hi; exact hi.symm
      subst hij
      have k0 := (hq i (by simpa using hil)).1 k v hv
      have ea : ∀ x : Nat, (⟨b, off, none⟩ : Addr).add x = ⟨b, off + x, none⟩ := fun x => by unfold Addr.add; split <;> simp_all
      have eb : ∀ y x : Nat, (⟨b, y, none⟩ : Addr).add x = ⟨b, y + x, none⟩ := fun y x => by unfold Addr.add; split <;> simp_all
      rw [ea, eb] at k0
      exact k0
end Go.Proofs.YtgfkmgbcajdcdaaGreatDoor

namespace Go.Proofs.YtgfkmgbcajdcdaaGreatDoor
open Go.RowKit
set_option linter.unusedVariables false

/-- What n steps leave. -/
def plR (z : List StpR) (n : Nat) : List TdI := (z.take n).foldl (fun st x => (doR st x).1) []
theorem plR_zero (z : List StpR) : plR z 0 = [] := by simp [plR]
theorem plR_succ {z : List StpR} {n : Nat} {x : StpR} (hx : z[n]? = some x) : plR z (n + 1) = (doR (plR z n) x).1 := by
  unfold plR
  rw [List.take_add_one, hx, List.foldl_append]
  rfl
/-- A step's cells, where it stands. -/
theorem IsStp.cells {w wr : World} {a : Option Addr} {l j : Nat} {z : List Stp} (h : IsStp w a l z) (hb : Below w.heap.size w wr) (hj : j < l) : ∃ g o wh ps ph pl pb pr me vs vh vl po aw, a = some ⟨g, o, none⟩ ∧ z[j]? = some ⟨wh, ((ps, ph, pl), pb), (pr, me, (vs, vh, vl), po, aw)⟩ ∧ StpR.ok ⟨wh, ((ps, ph, pl), pb), (pr, me, (vs, vh, vl), po, aw)⟩ ∧
    wr.cell? ⟨g, o + j * 12, none⟩ = some (.int .i64 wh) ∧ wr.cell? ⟨g, o + j * 12 + 1, none⟩ = some (.bool ps) ∧ wr.cell? ⟨g, o + j * 12 + 2, none⟩ = some (.int .u64 (ph : Int)) ∧ wr.cell? ⟨g, o + j * 12 + 3, none⟩ = some (.int .u64 (pl : Int)) ∧ wr.cell? ⟨g, o + j * 12 + 4, none⟩ = some (.int .i64 pb) ∧ wr.cell? ⟨g, o + j * 12 + 5, none⟩ = some (.int .i64 pr) ∧ wr.cell? ⟨g, o + j * 12 + 6, none⟩ = some (.int .i64 me) ∧ wr.cell? ⟨g, o + j * 12 + 7, none⟩ = some (.bool vs) ∧ wr.cell? ⟨g, o + j * 12 + 8, none⟩ = some (.int .u64 (vh : Int)) ∧ wr.cell? ⟨g, o + j * 12 + 9, none⟩ = some (.int .u64 (vl : Int)) ∧ wr.cell? ⟨g, o + j * 12 + 10, none⟩ = some (.int .i64 po) ∧ wr.cell? ⟨g, o + j * 12 + 11, none⟩ = some (.bool aw) := by
  obtain ⟨b, o, e, hlt, hc⟩ := h.2.2 (by omega)
  have hlz : j < z.length := by rw [h.1]; exact hj
  have hz : z[j]? = some z[j] := List.getElem?_eq_getElem hlz
  have hok := h.2.1 _ (List.mem_of_getElem? hz)
  generalize z[j] = x at hz hok
  obtain ⟨wh, ⟨⟨ps, ph, pl⟩, pb⟩, pr, me, ⟨vs, vh, vl⟩, po, aw⟩ := x
  have k : ∀ k v, (srC ⟨wh, ((ps, ph, pl), pb), (pr, me, (vs, vh, vl), po, aw)⟩)[k]? = some v → wr.cell? ⟨b, o + j * 12 + k, none⟩ = some v := fun k v hv => (hb.cell (p := ⟨b, o + j * 12 + k, none⟩) hlt).trans (hc j _ hz k v hv)
  exact ⟨b, o, wh, ps, ph, pl, pb, pr, me, vs, vh, vl, po, aw, e, hz, hok, k 0 _ rfl, k 1 _ rfl, k 2 _ rfl, k 3 _ rfl, k 4 _ rfl, k 5 _ rfl, k 6 _ rfl, k 7 _ rfl, k 8 _ rfl, k 9 _ rfl, k 10 _ rfl, k 11 _ rfl⟩
set_option maxRecDepth 100000 in
set_option maxHeartbeats 4000000 in
theorem made_any (w : World) (a : Option Addr) (l c : Nat) (z : List Stp) (hz : IsStp w a l z) (w0 : World) (hb0 : Below w.heap.size w w0) (hE : EnvR w) :
    Calls Tryz.prog 42 #[.slice a l c] w0 fun e w' => ∃ p S, e = .returned (.pointer (some ⟨p, 0, none⟩)) ∧ StdR w0 w' p S (plR z (min l 60)) := by
  have HNew := Lib.hid (newP w0)
  have HZ := Lib.hid hz
  have HB0 := Lib.hid hb0
  have HEn := Lib.hid (hE.below hb0)
  clear hz hb0 hE
  go_enter Tryz.func42, Tryz.ntmps42
  go_wp2_with fail
  refine Calls.mono HNew.out ?_
  rintro e w1 ⟨p, S0, rfl, hP, hb, hs⟩
  have Y0 : Hid (StdR w0 w1 p S0 (plR z 0)) := Lib.hid ⟨by rw [plR_zero]; exact hP, hb, hs⟩
  clear hP hb hs
  go_wp2_with fail
  go_loopw [4] (fun iv wr => ∃ (i : Nat) (S : List Nat), iv = .int .i64 (i : Int) ∧ i ≤ l ∧ i ≤ 60 ∧ Hid (StdR w0 wr p S (plR z i))) (fun iv _ => 60 - (intOf iv).toNat)
  case atStart => exact ⟨0, S0, rfl, Nat.zero_le _, Nat.zero_le _, Y0⟩
  case round =>
    obtain ⟨i, S, rfl, hil, hi6, hY⟩ := hrel
    have j1 : IntKind.i64.wrap ((i : Int) + 1) = (i : Int) + 1 := by rw [IntKind.wrap_i64]; omega
    by_cases hlt : i < l
    · have i1 : (i : Int) < (l : Int) := by omega
      have i0 : (0 : Int) ≤ (i : Int) := by omega
      by_cases h60 : i < 60
      · have i6 : (i : Int) < 60 := by omega
        obtain ⟨g, o, wh, ps, ph, pl, pb, pr, me, vs, vh, vl, po, aw, rfl, hzi, hok, c0, c1, c2, c3, c4, c5, c6, c7, c8, c9, ca, cb⟩ := HZ.out.cells (HB0.out.trans (hY.out.bel.mono HB0.out.size)) hlt
        have HD : Hid (Calls Tryz.prog 84 #[.pointer (some ⟨p, 0, none⟩), .agg #[.int .i64 wh, .bool ps, .int .u64 (ph : Int), .int .u64 (pl : Int), .int .i64 pb, .int .i64 pr, .int .i64 me, .bool vs, .int .u64 (vh : Int), .int .u64 (vl : Int), .int .i64 po, .bool aw]] wr _) := Lib.hid (do_any p S (plR z i) ⟨wh, ((ps, ph, pl), pb), (pr, me, (vs, vh, vl), po, aw)⟩ hok wr (HEn.out.n hY.out.bel hY.out.abv) hY.out.P)
        have HS := Lib.hid (plR_succ hzi)
        clear hzi hok
        go_wp2_with fail
        refine Calls.mono HD.out ?_
        rintro e w2 ⟨rfl, S', hP, hg⟩
        rw [← HS.out] at hP
        have Y2 := Lib.hid (hY.out.go hP hg)
        clear hP hg c0 c1 c2 c3 c4 c5 c6 c7 c8 c9 ca cb
        go_wp2
        go_roundw
        case rel => exact ⟨i + 1, S', by go_num, hlt, h60, Y2⟩
        case measure => simp [intOf]; omega
      · have i6 : ¬ (i : Int) < 60 := by omega
        have he : min l 60 = i := by omega
        have HE := Lib.hid he
        clear he h60 hil hi6
        go_wp2
        go_ret
        rw [HE.out]
        exact ⟨p, rfl, S, hY.out⟩
    · have i1 : ¬ (i : Int) < (l : Int) := by omega
      have i1b : decide ((i : Int) < (l : Int)) = false := decide_eq_false i1
      have he : min l 60 = i := by omega
      have HE := Lib.hid he
      clear he hlt hil hi6
      go_wp2
      go_ret
      rw [HE.out]
      exact ⟨p, rfl, S, hY.out⟩
end Go.Proofs.YtgfkmgbcajdcdaaGreatDoor

namespace Go.Proofs.YtgfkmgbcajdcdaaGreatDoor.Ifs
open Go.RowKit
set_option linter.unusedVariables false

theorem eq_ad (s s' : Bool) (h l h' l' : Int) (W : World) : (Op.equalIn 10000 28 (.agg #[.bool s, .int .u64 h, .int .u64 l]) (.agg #[.bool s', .int .u64 h', .int .u64 l'])).run Tryz.prog W = .ok (decide (s = s' ∧ h = h' ∧ l = l')) W := by
  by_cases h1 : s = s'
  · subst h1
    by_cases h2 : h = h'
    · subst h2
      by_cases h3 : l = l'
      · subst h3
        go_simp
      · have h4 : (l == l') = false := by simpa using h3
        rw [show decide (s = s ∧ h = h ∧ l = l') = false by simp [h3]]
        go_simp
    · have h4 : (h == h') = false := by simpa using h2
      rw [show decide (s = s ∧ h = h' ∧ l = l') = false by simp [h2]]
      go_simp
  · have h4 : (s == s') = false := by simpa using h1
    rw [show decide (s = s' ∧ h = h' ∧ l = l') = false by simp [h1]]
    go_simp
/-- The same, of addresses as natural numbers; the walk's two ways. -/
theorem eq_adI (x y : AdI) {b : Bool} (hb : decide (x = y) = b) (W : World) : (Op.equalIn 10000 28 (.agg #[.bool x.1, .int .u64 (x.2.1 : Int), .int .u64 (x.2.2 : Int)]) (.agg #[.bool y.1, .int .u64 (y.2.1 : Int), .int .u64 (y.2.2 : Int)])).run Tryz.prog W = .ok b W := by
  rw [eq_ad, ← hb]
  obtain ⟨s, h, l⟩ := x
  obtain ⟨s', h', l'⟩ := y
  congr 2
  simp [Prod.ext_iff]
  intro _
  constructor <;> (rintro ⟨h1, h2⟩; constructor <;> omega)
end Go.Proofs.YtgfkmgbcajdcdaaGreatDoor.Ifs

namespace Go.Proofs.YtgfkmgbcajdcdaaGreatDoor.Ifs
open Go.RowKit Go.Maps
set_option linter.unusedVariables false

theorem infoMm : (Tryz.prog.info? 134).map (fun i => (i.zero, i.size, i.bytes)) = some (some (.agg #[.string ⟨#[]⟩, .int .u64 0, .int .i64 0, .bool false, .slice none 0 0]), 5, 64) := by kernel_rfl
/-- A local, an address as a value. -/
abbrev lcV (x : Loc) : Value := .agg #[.bool x.1.1, .int .u64 (x.1.2.1 : Int), .int .u64 (x.1.2.2 : Int), .int .i64 x.2]
set_option maxRecDepth 100000 in
set_option maxHeartbeats 1000000 in
/-- find's own question of a local. -/
theorem find1_any (a : AdI) (xb : Nat) (x : Loc) (w : World) (hB : Blk w xb 28 #[.bool a.1, .int .u64 (a.2.1 : Int), .int .u64 (a.2.2 : Int)]) :
    Calls Tryz.prog 198 #[lcV x, .pointer (some ⟨xb, 0, none⟩)] w fun e w' => e = .returned (.bool (isA a x)) ∧ Tch w w' [] := by
  obtain ⟨b, hb⟩ : ∃ b, decide (x.1 = a) = b := ⟨_, rfl⟩
  have HQ := eqA_eql 28 _ _ (eq_adI x.1 a hb)
  have HE : Hid (isA a x = b) := Lib.hid hb
  obtain ⟨⟨xs, xh, xl⟩, xbt⟩ := x
  obtain ⟨s, ah, al⟩ := a
  have HQ : ∀ W, (binOp .eql 28 (.agg #[.bool xs, .int .u64 (xh : Int), .int .u64 (xl : Int)]) (.agg #[.bool s, .int .u64 (ah : Int), .int .u64 (al : Int)])).run Tryz.prog W = .ok (.bool b) W := HQ
  have HT0 : Hid (Tch w (w.alloc (.cells #[.bool xs, .int .u64 (xh : Int), .int .u64 (xl : Int), .int .i64 xbt] 202)) []) := Lib.hid ((Tch.refl w []).alloc _)
  have hX := HT0.out.blk hB (by simp)
  have x0 := (hX.cell 0).trans (show _ = some (Value.bool s) by rfl)
  have x1 := (hX.cell 1).trans (show _ = some (Value.int .u64 (ah : Int)) by rfl)
  have x2 := (hX.cell 2).trans (show _ = some (Value.int .u64 (al : Int)) by rfl)
  clear hB hb hX
  go_enter Tryz.func198, Tryz.ntmps198
  go_wp2
  go_ret
  exact ⟨by rw [HE.out]; rfl, HT0.out⟩
set_option maxRecDepth 100000 in
set_option maxHeartbeats 4000000 in
/-- slices.IndexFunc over locals with find's own question. -/
theorem idx_lc (a : AdI) (xb : Nat) (A : Option Addr) (n c : Nat) (l : List Loc) (hl : l.length = n) (hn : n ≤ 1000) (w : World) (hB : Blk w xb 28 #[.bool a.1, .int .u64 (a.2.1 : Int), .int .u64 (a.2.2 : Int)]) (h : w.ownsRow 0 202 4 (.slice A n c) n (l.flatMap lcC)) :
    Calls Tryz.prog 197 #[.slice A n c, .func (.func 198) #[] #[.pointer (some ⟨xb, 0, none⟩)]] w fun e w' => e = .returned (.int .i64 (((fndI (isA a) l : Nat) : Int) - 1)) ∧ Tch w w' [] := by
  have eg : ∀ args W, (callFunc 198 args).run Tryz.prog W = .ok (.enter 198 args) W := enters_of Tryz.func198 (by kernel_rfl) rfl
  have HL := Lib.hid hl
  have HF := Lib.hid (fun x W hT => find1_any a xb x W (Tch.blk (S := []) (w := w) hT hB (by simp)))
  have HO := Lib.hid h
  clear hB h hl
  go_enter Tryz.func197, Tryz.ntmps197
  go_wp2
  go_loopw [5, 8] (fun _ kv wr => ∃ k : Nat, kv = .int .i64 (k : Int) ∧ k ≤ n ∧ Hid (∀ (j : Nat) (x : Loc), j < k → l[j]? = some x → isA a x = false) ∧ Hid (Tch w wr [])) (fun _ kv _ => n - (intOf kv).toNat)
  case atStart => exact ⟨0, rfl, Nat.zero_le _, Lib.hid (fun j x hj => absurd hj (by omega)), Lib.hid (Tch.refl _ _)⟩
  case round =>
    obtain ⟨k, rfl, hk, hA, hT⟩ := hrel
    have k1 : IntKind.i64.wrap ((k : Int) + 1) = (k : Int) + 1 := by rw [IntKind.wrap_i64]; omega
    by_cases hkn : k < n
    · have kI : (k : Int) < (n : Int) := by omega
      have k0 : (0 : Int) ≤ (k : Int) := by omega
      obtain ⟨x, hx⟩ : ∃ x, l[k]? = some x := ⟨_, List.getElem?_eq_getElem (by rw [HL.out]; exact hkn)⟩
      have d3 := own_tch HO.out hT.out (by simp)
      obtain ⟨gx, rfl⟩ := slice_some d3 (by omega)
      have x0 : wr.cell? ⟨gx, k * 4, none⟩ = some (.bool x.1.1) := own_cellN d3 ((flat4_at (f := lcC) (fun _ => rfl) hx (k := 0) (by decide)).trans rfl)
      have x1 := own_cellN d3 ((flat4_at (f := lcC) (fun _ => rfl) hx (k := 1) (by decide)).trans (show _ = some (Value.int .u64 (x.1.2.1 : Int)) by rfl))
      have x2 := own_cellN d3 ((flat4_at (f := lcC) (fun _ => rfl) hx (k := 2) (by decide)).trans (show _ = some (Value.int .u64 (x.1.2.2 : Int)) by rfl))
      have x3 := own_cellN d3 ((flat4_at (f := lcC) (fun _ => rfl) hx (k := 3) (by decide)).trans (show _ = some (Value.int .i64 x.2) by rfl))
      have HC := Lib.hid (HF.out x wr hT.out)
      have Hx := Lib.hid hx
      obtain ⟨b, hb⟩ : ∃ b, isA a x = b := ⟨_, rfl⟩
      rw [hb] at HC
      have HBb := Lib.hid hb
      clear d3 hx hb
      cases b with
      | true =>
        have HR : Hid (fndI (isA a) l = k + 1) := Lib.hid (fndI_succ.2 ⟨⟨x, Hx.out, HBb.out⟩, hA.out⟩)
        go_wp2_with (go_at_fn 198; refine Calls.mono HC.out ?_; rintro e w' ⟨rfl, hT'⟩; have HT' := Lib.hid hT'; clear hT')
        go_ret
        exact ⟨by rw [HR.out]; simp, hT.out.trans HT'.out⟩
      | false =>
        go_wp2_with (go_at_fn 198; refine Calls.mono HC.out ?_; rintro e w' ⟨rfl, hT'⟩; have HT' := Lib.hid hT'; clear hT')
        go_roundw
        case rel => exact ⟨k + 1, by go_num, hkn, Lib.hid (fun j y hj hy => by
          rcases Nat.lt_or_ge j k with h1 | h1
          · exact hA.out j y h1 hy
          · obtain rfl : j = k := by omega
            rw [Hx.out] at hy
            injection hy with hy
            subst hy
            exact HBb.out), Lib.hid (hT.out.trans HT'.out)⟩
        case measure => simp [intOf]; omega
    · obtain rfl : k = n := by omega
      have kI : ¬ (k : Int) < (k : Int) := by omega
      have HR : Hid (fndI (isA a) l = 0) := Lib.hid (fndI_zero.2 fun j y hy => hA.out j y (by rw [← HL.out]; exact (List.getElem?_eq_some_iff.1 hy).1) hy)
      clear hkn hk
      go_wp2
      go_ret
      exact ⟨by rw [HR.out]; rfl, hT.out⟩
end Go.Proofs.YtgfkmgbcajdcdaaGreatDoor.Ifs

namespace Go.Proofs.YtgfkmgbcajdcdaaGreatDoor.Ifs
open Go.RowKit Go.Maps
set_option linter.unusedVariables false

/-- A port with its row, as a value. -/
abbrev mmV (q : Prt) (v : Value) : Value := .agg #[.string q.1, .int .u64 q.2.1, .int .i64 q.2.2.1, .bool q.2.2.2, v]
set_option maxRecDepth 100000 in
set_option maxHeartbeats 1000000 in
theorem find_any (q : Prt) (a : AdI) (A : Option Addr) (n c : Nat) (l : List Loc) (hl : l.length = n) (hn : n ≤ 1000) (w : World) (h : w.ownsRow 0 202 4 (.slice A n c) n (l.flatMap lcC)) :
    Calls Tryz.prog 169 #[mmV q (.slice A n c), adV a] w fun e w' => e = .returned (.int .i64 (((fndI (isA a) l : Nat) : Int) - 1)) ∧ Tch w w' [] := by
  have HI := Lib.hid (fun W xb (hT : Tch w W []) hB => idx_lc a xb A n c l hl hn W hB (own_tch h hT (by simp)))
  obtain ⟨s, ah, al⟩ := a
  obtain ⟨qn, qm, qt, qu⟩ := q
  have HB : Hid (Blk ((w.alloc (.cells #[.string qn, .int .u64 qm, .int .i64 qt, .bool qu, .slice A n c] 134)).alloc (.cells #[.bool s, .int .u64 (ah : Int), .int .u64 (al : Int)] 28)) (w.heap.size + 1) 28 #[.bool s, .int .u64 (ah : Int), .int .u64 (al : Int)]) := Lib.hid (by
    have := Blk.new (w.alloc (.cells #[.string qn, .int .u64 qm, .int .i64 qt, .bool qu, .slice A n c] 134)) 28 #[.bool s, .int .u64 (ah : Int), .int .u64 (al : Int)]
    rw [World.size_alloc] at this
    exact this)
  clear h hl hn
  go_enter Tryz.func169, Tryz.ntmps169
  go_wp2_with fail
  refine Calls.mono (HI.out _ _ (((Tch.refl w []).alloc _).alloc _) HB.out) ?_
  rintro e w' ⟨rfl, hT⟩
  have HT := Lib.hid hT
  clear hT
  go_wp2
  go_ret
  exact ⟨rfl, (((Tch.refl w []).alloc _).alloc _).trans HT.out⟩
set_option maxRecDepth 100000 in
set_option maxHeartbeats 1000000 in
theorem mine1_any (q : Prt) (a : AdI) (xb : Nat) (A : Option Addr) (n c : Nat) (l : List Loc) (hl : l.length = n) (hn : n ≤ 1000) (w : World) (hB : Blk w xb 28 #[.bool a.1, .int .u64 (a.2.1 : Int), .int .u64 (a.2.2 : Int)]) (h : w.ownsRow 0 202 4 (.slice A n c) n (l.flatMap lcC)) :
    Calls Tryz.prog 200 #[mmV q (.slice A n c), .pointer (some ⟨xb, 0, none⟩)] w fun e w' => e = .returned (.bool (l.any (isA a))) ∧ Tch w w' [] := by
  have HI := Lib.hid (fun W (hT : Tch w W []) => find_any q a A n c l hl hn W (own_tch h hT (by simp)))
  obtain ⟨z, hz⟩ : ∃ z : Int, ((fndI (isA a) l : Nat) : Int) - 1 = z := ⟨_, rfl⟩
  have HZ : Hid (decide ((0 : Int) ≤ z) = l.any (isA a)) := Lib.hid (by rw [← hz]; exact fndI_any)
  rw [hz] at HI
  obtain ⟨s, ah, al⟩ := a
  obtain ⟨qn, qm, qt, qu⟩ := q
  have HT0 : Hid (Tch w (w.alloc (.cells #[.string qn, .int .u64 qm, .int .i64 qt, .bool qu, .slice A n c] 134)) []) := Lib.hid ((Tch.refl w []).alloc _)
  have hX := HT0.out.blk hB (by simp)
  have x0 := (hX.cell 0).trans (show _ = some (Value.bool s) by rfl)
  have x1 := (hX.cell 1).trans (show _ = some (Value.int .u64 (ah : Int)) by rfl)
  have x2 := (hX.cell 2).trans (show _ = some (Value.int .u64 (al : Int)) by rfl)
  clear h hl hn hz hB hX
  go_enter Tryz.func200, Tryz.ntmps200
  go_wp2_with fail
  refine Calls.mono (HI.out _ HT0.out) ?_
  rintro e w' ⟨rfl, hT⟩
  have HT := Lib.hid (HT0.out.trans hT)
  clear hT x0 x1 x2
  go_wp2
  go_ret
  exact ⟨by rw [← HZ.out]; rfl, HT.out⟩
set_option maxRecDepth 100000 in
set_option maxHeartbeats 4000000 in
/-- slices.IndexFunc over the ports with Mine's own question. -/
theorem idx_mm (p : Nat) (S : List Nat) (st : StI) (a : AdI) (xb : Nat) (AM : Option Addr) (cM n : Nat) (hn : st.1.length = n) (w : World) (h : IfP w p S st) (hB : Blk w xb 28 #[.bool a.1, .int .u64 (a.2.1 : Int), .int .u64 (a.2.2 : Int)]) (c0 : w.cell? ⟨p, 0, none⟩ = some (.slice AM n cM)) :
    Calls Tryz.prog 199 #[.slice AM n cM, .func (.func 200) #[] #[.pointer (some ⟨xb, 0, none⟩)]] w fun e w' => e = .returned (.int .i64 (((mineI st.2 a : Nat) : Int) - 1)) ∧ Tch w w' [] := by
  have eg : ∀ args W, (callFunc 200 args).run Tryz.prog W = .ok (.enter 200 args) W := enters_of Tryz.func200 (by kernel_rfl) rfl
  have hf : n ≤ 8 := by rw [← hn]; exact h.few
  have HN2 : Hid (st.2.length = n) := Lib.hid (by rw [← hn]; exact h.inv.len.symm)
  have HN := Lib.hid hn
  have HC0 := Lib.hid c0
  have HH := Lib.hid h
  have HF := Lib.hid (fun q A c l W (hT : Tch w W []) (hl : List.length l ≤ 8) hO => mine1_any q a xb A l.length c l rfl (by omega) W (hT.blk hB (by simp)) hO)
  have HPl : Hid (p < w.heap.size) := Lib.hid (h.lt p h.pin)
  clear hB h c0 hn
  go_enter Tryz.func199, Tryz.ntmps199
  go_wp2
  go_loopw [5, 8] (fun _ kv wr => ∃ k : Nat, kv = .int .i64 (k : Int) ∧ k ≤ n ∧ Hid (∀ (j : Nat) (l : List Loc), j < k → st.2[j]? = some l → l.any (isA a) = false) ∧ Hid (Tch w wr [])) (fun _ kv _ => n - (intOf kv).toNat)
  case atStart => exact ⟨0, rfl, Nat.zero_le _, Lib.hid (fun j x hj => absurd hj (by omega)), Lib.hid (Tch.refl _ _)⟩
  case round =>
    obtain ⟨k, rfl, hk, hA, hT⟩ := hrel
    have k1 : IntKind.i64.wrap ((k : Int) + 1) = (k : Int) + 1 := by rw [IntKind.wrap_i64]; omega
    by_cases hkn : k < n
    · have kI : (k : Int) < (n : Int) := by omega
      have k0 : (0 : Int) ≤ (k : Int) := by omega
      obtain ⟨gM, cM', c, A, q, l, d0, hq, hl, x0, x1, x2, x3, x4, hO, hl8, hpl, hgl, hfz, hgS⟩ := (HH.out.tch hT.out (by simp)).at_ (i := k) (by rw [HN.out]; exact hkn)
      rw [(hT.out.cell (p := ⟨p, 0, none⟩) HPl.out (by simp)).trans HC0.out] at d0
      injection d0 with d0
      injection d0 with d1 d2 d3
      subst d1
      have HC := Lib.hid (HF.out q A c l wr hT.out hl8 hO)
      have Hl := Lib.hid hl
      obtain ⟨m, hm⟩ : ∃ m, l.length = m := ⟨_, rfl⟩
      rw [hm] at x4 HC
      obtain ⟨b, hb⟩ : ∃ b, l.any (isA a) = b := ⟨_, rfl⟩
      rw [hb] at HC
      have HBb := Lib.hid hb
      obtain ⟨qn, qm, qt, qu⟩ := q
      clear hq hl hO hl8 hpl hgl hfz hgS hb hm d2 d3
      cases b with
      | true =>
        have HR : Hid (mineI st.2 a = k + 1) := Lib.hid (fndI_succ.2 ⟨⟨l, Hl.out, HBb.out⟩, hA.out⟩)
        go_wp2_with (go_at_fn 200; refine Calls.mono HC.out ?_; rintro e w' ⟨rfl, hT'⟩; have HT' := Lib.hid hT'; clear hT')
        go_ret
        exact ⟨by rw [HR.out]; simp, hT.out.trans HT'.out⟩
      | false =>
        go_wp2_with (go_at_fn 200; refine Calls.mono HC.out ?_; rintro e w' ⟨rfl, hT'⟩; have HT' := Lib.hid hT'; clear hT')
        go_roundw
        case rel => exact ⟨k + 1, by go_num, hkn, Lib.hid (fun j y hj hy => by
          rcases Nat.lt_or_ge j k with h1 | h1
          · exact hA.out j y h1 hy
          · obtain rfl : j = k := by omega
            rw [Hl.out] at hy
            injection hy with hy
            subst hy
            exact HBb.out), Lib.hid (hT.out.trans HT'.out)⟩
        case measure => simp [intOf]; omega
    · obtain rfl : k = n := by omega
      have kI : ¬ (k : Int) < (k : Int) := by omega
      have HR : Hid (mineI st.2 a = 0) := Lib.hid (fndI_zero.2 fun j y hy => hA.out j y (by rw [← HN2.out]; exact (List.getElem?_eq_some_iff.1 hy).1) hy)
      clear hkn hk
      go_wp2
      go_ret
      exact ⟨by rw [HR.out]; rfl, hT.out⟩
set_option maxRecDepth 100000 in
set_option maxHeartbeats 1000000 in
theorem pmine_any (p : Nat) (S : List Nat) (st : StI) (a : AdI) (w : World) (h : IfP w p S st) :
    Calls Tryz.prog 172 #[.pointer (some ⟨p, 0, none⟩), adV a] w fun e w' => e = .returned (.int .i64 (mineI st.2 a : Int)) ∧ Tch w w' [] := by
  obtain ⟨W0, hW0⟩ : ∃ W, w.alloc (.cells #[.bool a.1, .int .u64 (a.2.1 : Int), .int .u64 (a.2.2 : Int)] 28) = W := ⟨_, rfl⟩
  obtain ⟨xb, hxb⟩ : ∃ xb, w.heap.size = xb := ⟨_, rfl⟩
  have hX : Blk W0 xb 28 #[.bool a.1, .int .u64 (a.2.1 : Int), .int .u64 (a.2.2 : Int)] := hW0 ▸ hxb ▸ Blk.new _ _ _
  have HT0 : Hid (Tch w W0 []) := Lib.hid (hW0 ▸ (Tch.refl w []).alloc _)
  have hD0 := h.tch HT0.out (by simp)
  obtain ⟨AM, cM, m, D, c0, -⟩ := hD0.head
  obtain ⟨n, hn⟩ : ∃ n, st.1.length = n := ⟨_, rfl⟩
  rw [hn] at c0
  have HI := Lib.hid (idx_mm p S st a xb AM cM n hn W0 hD0 hX c0)
  obtain ⟨z, hz⟩ : ∃ z : Int, ((mineI st.2 a : Nat) : Int) - 1 = z := ⟨_, rfl⟩
  rw [hz] at HI
  obtain ⟨M, hM⟩ : ∃ M : Int, ((mineI st.2 a : Nat) : Int) = M := ⟨_, rfl⟩
  have hlt : mineI st.2 a ≤ st.2.length := fndI_le _ _
  have j1 : IntKind.i64.wrap (1 + z) = M := by have := h.inv.len; have := h.few; rw [IntKind.wrap_i64]; omega
  rw [hM]
  have c0 : (w.alloc (.cells #[.bool a.1, .int .u64 (a.2.1 : Int), .int .u64 (a.2.2 : Int)] 28)).cell? ⟨p, 0, none⟩ = some (.slice AM n cM) := by rw [hW0]; exact c0
  have HW0 := Lib.hid (And.intro hW0 hxb)
  obtain ⟨s, ah, al⟩ := a
  clear h hD0 hn hz hM hlt hX hW0 hxb
  go_enter Tryz.func172, Tryz.ntmps172
  go_wp2_with fail
  rw [HW0.out.1, HW0.out.2]
  refine Calls.mono HI.out ?_
  rintro e w' ⟨rfl, hT⟩
  have HT := Lib.hid (HT0.out.trans hT)
  clear hT c0
  go_wp2
  go_ret
  exact ⟨rfl, HT.out⟩
end Go.Proofs.YtgfkmgbcajdcdaaGreatDoor.Ifs
