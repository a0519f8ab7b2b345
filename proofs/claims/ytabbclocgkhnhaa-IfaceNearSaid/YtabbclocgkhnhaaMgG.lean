/-
  Several texts in one: IfF, IfAw, IfMd, IfBo, IfFo.
-/
import Derived.Test.YtabbclocgkhnhaaFrame
import Derived.Test.YtabbclocgkhnhaaMgF
import Derived.Deep.SlicePairs
import Derived.Deep.Strs

namespace Go.Proofs.Ytabbclocgkhnhaa
open Go.RowKit Go.ChangeShapes Go.WideShapes Go.ChangeAt
set_option linter.unusedVariables false

abbrev Stp := StpI
instance : Inhabited Stp := ⟨⟨0, ⟨#[]⟩, 0, 0, 0, false, (false, 0, 0)⟩⟩
/-- A slice of steps that came in. -/
def IsStp (w : World) (a : Option Addr) (l : Nat) (z : List Stp) : Prop :=
  z.length = l ∧ (∀ x ∈ z, x.ok) ∧ (0 < l → ∃ b o, a = some ⟨b, o, none⟩ ∧ b < w.heap.size ∧ ∀ j x, z[j]? = some x → ∀ k v, (stC x)[k]? = some v → w.cell? ⟨b, o + j * 9 + k, none⟩ = some v)
theorem IsStp.below {w w' : World} {a : Option Addr} {l : Nat} {z : List Stp} (h : IsStp w a l z) (hb : Below w.heap.size w w') : IsStp w' a l z := by
  refine ⟨h.1, h.2.1, fun h0 => ?_⟩
  obtain ⟨b, o, e, hlt, hc⟩ := h.2.2 h0
  exact ⟨b, o, e, by have := hb.size; omega, fun j x hx k v hv => (hb.cell (p := ⟨b, o + j * 9 + k, none⟩) hlt).trans (hc j x hx k v hv)⟩
theorem u64_nat {x : Int} (h : (Lit.int .u64 x).wf = true) : ∃ n : Nat, x = (n : Int) ∧ N64 n := by
  have h2 : 0 ≤ x ∧ x ≤ 18446744073709551615 := by
    simp [Lit.wf, IntKind.min, IntKind.max, IntKind.bits, IntKind.signed] at h
    exact h
  exact ⟨x.toNat, by omega, by unfold N64; omega⟩
theorem u64_bdI {x : Int} (h : (Lit.int .u64 x).wf = true) : 0 ≤ x ∧ x ≤ 18446744073709551615 := by
  simp [Lit.wf, IntKind.min, IntKind.max, IntKind.bits, IntKind.signed] at h
  exact h
set_option maxRecDepth 100000 in
set_option maxHeartbeats 4000000 in
theorem open_step {H : Type} {enc : TypeId × Value → H} {W : World} {base n : Nat} {spare : Nat → Bool} {held : Bool} {cs : List Value} {y : DataW H × List MemPlace} (hl : cs.length = 9) (hf : DataW.trod enc Try.prog W base spare held n 36 cs = some y) :
    ∃ q : StpI, cs = stC q ∧ q.ok := by
  match cs, hl with
  | [c0, c1, c2, c3, c4, c5, c6, c7, c8], _ =>
    have e0 : Try.prog.cellsOf 34 = 3 := by kernel_rfl
    have e1 : Try.prog.cellsOf 3 = 1 := by kernel_rfl
    have e2 : Try.prog.cellsOf 4 = 1 := by kernel_rfl
    have e3 : Try.prog.cellsOf 31 = 1 := by kernel_rfl
    have e4 : Try.prog.cellsOf 9 = 1 := by kernel_rfl
    have e5 : Try.prog.cellsOf 32 = 1 := by kernel_rfl
    cases n with
    | zero => simp [DataW.trod] at hf
    | succ n =>
      simp only [DataW.trod, Try.underlying36] at hf
      split at hf
      · obtain ⟨xs, hm, hx⟩ := Option.map_eq_some_iff.1 hf
        simp only [List.mapM_cons, List.mapM_nil, bind, Option.bind_eq_some_iff, pure, Option.some.injEq] at hm
        obtain ⟨y0, g0, r0, ⟨y1, g1, r1, ⟨y2, g2, r2, ⟨y3, g3, r3, ⟨y4, g4, r4, ⟨y5, g5, r5, ⟨y6, g6, r6, rfl, rfl⟩, rfl⟩, rfl⟩, rfl⟩, rfl⟩, rfl⟩, rfl⟩ := hm
        simp only [e0, e1, e2, e4, e5, List.drop_zero, List.take_succ_cons, List.take_zero, List.drop_succ_cons] at g0 g1 g2 g3 g4 g5 g6
        obtain ⟨x0, t0, q0, w0⟩ := DataW.trod_int Try.underlying3 g0
        obtain ⟨x1, t1, q1, w1⟩ := DataW.trod_string Try.underlying9 g1
        obtain ⟨x2, t2, q2, w2⟩ := DataW.trod_int Try.underlying32 g2
        obtain ⟨x3, t3, q3, w3⟩ := DataW.trod_int Try.underlying3 g3
        obtain ⟨x4, t4, q4, w4⟩ := DataW.trod_int Try.underlying3 g4
        obtain ⟨x5, t5, q5⟩ := DataW.trod_bool Try.underlying4 g5
        obtain ⟨z0, z1, z2, m, hz, _, k0, k1, k2⟩ := Go.Deep.trod_struct3 Try.underlying34 g6
        simp only [e2, e3, List.drop_zero, List.take_succ_cons, List.take_zero, List.drop_succ_cons] at k0 k1 k2
        obtain ⟨x6, t6, q6⟩ := DataW.trod_bool Try.underlying4 k0
        obtain ⟨x7, t7, q7, w7⟩ := DataW.trod_int Try.underlying31 k1
        obtain ⟨x8, t8, q8, w8⟩ := DataW.trod_int Try.underlying31 k2
        injection t0 with t0 _
        injection t1 with t1 _
        injection t2 with t2 _
        injection t3 with t3 _
        injection t4 with t4 _
        injection t5 with t5 _
        injection t6 with t6 _
        injection t7 with t7 _
        injection t8 with t8 _
        subst t0 t1 t2 t3 t4 t5 t6 t7 t8
        obtain ⟨n7, rfl, v7⟩ := u64_nat w7
        obtain ⟨n8, rfl, v8⟩ := u64_nat w8
        exact ⟨⟨x0, x1, x2, x3, x4, x5, x6, n7, n8⟩, rfl, w0, w1, u64_bdI w2, w3, w4, v7, v8⟩
      · cases hf
set_option maxRecDepth 100000 in
theorem isStp_of {H : Type} {enc : TypeId × Value → H} {W : World} {a : Option Addr} {l c : Nat} {d : DataW H} {p : List MemPlace} (h : DataW.Trod enc Try.prog W 0 (fun _ => true) true 22 (.slice a l c) d p) : ∃ z, IsStp W a l z := by
  obtain ⟨fuel, hf⟩ := h
  have ce : Try.prog.cellsOf 36 = 9 := by kernel_rfl
  rcases Go.Deep.open_slice Try.underlying22 hf with ⟨hcs, _⟩ | ⟨ad, len, cap, m, n, D, Pl, hcs, _, hl, hm, hmm, _, hx⟩
  · simp [Value.cells] at hcs
    obtain ⟨rfl, rfl, rfl⟩ := hcs
    exact ⟨[], rfl, fun x hx => (by cases hx), fun h0 => absurd h0 (by omega)⟩
  · simp [Value.cells] at hcs
    obtain ⟨rfl, rfl, rfl⟩ := hcs
    simp only [if_true] at hmm
    have each : ∀ i, i < l → ∃ q : Stp, (∀ k v, (stC q)[k]? = some v → W.cell? ((ad.add (i * 9)).add k) = some v) ∧ q.ok := by
      intro i hi
      obtain ⟨cs', h1, h2⟩ := hx i (by omega)
      rw [ce] at h1
      obtain ⟨_, hlen, hcell⟩ := World.cells?_some h1
      obtain ⟨q, hq, hok⟩ := open_step hlen h2
      refine ⟨q, fun k v hv => ?_, hok⟩
      rw [← hq] at hv
      have hk := (List.getElem?_eq_some_iff.1 hv).1
      have := hcell k (by omega)
      rw [this]
      simpa using hv
    obtain ⟨q, hq⟩ := Go.Deep.choose_lt each
    refine ⟨(List.range l).map q, by simp, fun x hx => ?_, fun h0 => ?_⟩
    · obtain ⟨i, hi, rfl⟩ := List.mem_map.1 hx
      exact (hq i (List.mem_range.1 hi)).2
    · obtain ⟨b, off, spot⟩ := ad
      have hc := (hq 0 h0).1 0 _ rfl
      have hspot : spot = none := by simpa [Addr.add] using World.cell?_spot hc
      subst hspot
      refine ⟨b, off, rfl, by simpa [Addr.add] using World.block_lt_of_cell? W _ hc, fun j x hjx k v hv => ?_⟩
      rw [List.getElem?_map, Option.map_eq_some_iff] at hjx
      obtain ⟨i, hi, rfl⟩ := hjx
      have hil := (List.getElem?_eq_some_iff.1 hi).1
      have hij : i = j := by rw [List.getElem?_range (by simpa using hil)] at hi; injection hi with hi; exact hi.symm
      subst hij
      have k0 := (hq i (by simpa using hil)).1 k v hv
      have ea : ∀ x : Nat, (⟨b, off, none⟩ : Addr).add x = ⟨b, off + x, none⟩ := fun x => by unfold Addr.add; split <;> simp_all
      have eb : ∀ y x : Nat, (⟨b, y, none⟩ : Addr).add x = ⟨b, y + x, none⟩ := fun y x => by unfold Addr.add; split <;> simp_all
      rw [ea, eb] at k0
      exact k0
end Go.Proofs.Ytabbclocgkhnhaa

namespace Go.Proofs.Ytabbclocgkhnhaa
open Go.RowKit
set_option linter.unusedVariables false

def nm0 : ByteArray := ⟨#[101, 116, 104, 48]⟩
def nm1 : ByteArray := ⟨#[101, 116, 104, 49]⟩
def ad0 : AdI := (false, 0, 167772161)
def ad1 : AdI := (false, 0, 167772169)
def ad2 : AdI := (false, 0, 184549377)
def aw1 : StI := ([(nm0, 2, 1500, false)], [[]])
def aw2 : StI := ([(nm0, 2, 1500, false)], [[(ad0, 24)]])
def aw3 : StI := ([(nm0, 2, 1500, true)], [[(ad0, 24)]])
theorem aw_a : addI ([], []) nm0 2 1500 = (aw1, 1, 0) := by kernel_rfl
theorem aw_b : addI aw1 nm0 4 1500 = (aw1, 0, 130) := by kernel_rfl
theorem aw_c : addI aw1 nm1 3298534883328 1500 = (aw1, 0, 1) := by kernel_rfl
theorem aw_d : putI aw1 1 ad0 24 = (aw2, 0) := by kernel_rfl
theorem aw_e : putI aw2 1 ad0 16 = (aw2, 133) := by kernel_rfl
theorem aw_f : nearI aw2 ad1 = 0 := by kernel_rfl
theorem aw_g : turnI aw2 1 true = (aw3, 0) := by kernel_rfl
theorem aw_h : nearI aw3 ad1 = 1 := by kernel_rfl
theorem aw_i : srcI aw3 1 ad2 = some ad0 := by kernel_rfl
theorem aw_j : mineI aw3.2 ad0 = 1 := by kernel_rfl
theorem aw_k : namedI aw3.1 nm0 = 1 := by kernel_rfl
theorem aw_l : (localsI aw3 1).length = 1 := by kernel_rfl
theorem ad0_ok : N64 ad0.2.1 ∧ N64 ad0.2.2 := by unfold N64 ad0; decide
theorem ad1_ok : N64 ad1.2.1 ∧ N64 ad1.2.2 := by unfold N64 ad1; decide
theorem ad2_ok : N64 ad2.2.1 ∧ N64 ad2.2.2 := by unfold N64 ad2; decide
theorem aw_s : srV (some ad0) = .tuple #[.agg #[.bool false, .int .u64 0, .int .u64 167772161], .bool true] := rfl
theorem eq_eql (t : TypeId) (x y : Array Value) {b : Bool} (h : ∀ W, (Op.equalIn 10000 t (.agg x) (.agg y)).run Try.prog W = .ok b W) (W : World) : (binOp .eql t (.agg x) (.agg y)).run Try.prog W = .ok (.bool b) W := by
  have := h W
  simp [binOp, Op.equal, Op.maxDepth, this]
/-- The program's set in a law that began at w. -/
structure StdI (w W : World) (p : Nat) (S : List Nat) (st : StI) : Prop where
  P : IfP W p S st
  bel : Below w.heap.size w W
  abv : ∀ s ∈ S, w.heap.size ≤ s
theorem StdI.go {w W W' : World} {p : Nat} {S S' : List Nat} {st st' : StI} (h : StdI w W p S st) (hP : IfP W' p S' st') (hg : Goes W W' S S') : StdI w W' p S' st' :=
  have k := hg.below h.bel.size h.abv
  ⟨hP, h.bel.trans k.1, k.2⟩
theorem StdI.read {w W W' : World} {p : Nat} {S : List Nat} {st : StI} (h : StdI w W p S st) (hP : IfP W' p S st) (ht : Tch W W' S) : StdI w W' p S st := h.go hP (Goes.of_tch ht)
theorem StdI.alloc {w W : World} {p : Nat} {S : List Nat} {st : StI} (h : StdI w W p S st) (o : Obj) : StdI w (W.alloc o) p S st :=
  ⟨h.P.tch ((Tch.refl W []).alloc o) (by simp), h.bel.alloc h.bel.size o, h.abv⟩
/-- A block of the law's own beside it. -/
structure OwnI (W : World) (S : List Nat) (g : Nat) (t : TypeId) (cs : Array Value) : Prop where
  blk : Blk W g t cs
  non : g ∉ S
theorem OwnI.go {W W' : World} {S S' : List Nat} {g : Nat} {t : TypeId} {cs : Array Value} (h : OwnI W S g t cs) (hg : Goes W W' S S') : OwnI W' S' g t cs :=
  ⟨hg.tch.blk h.blk h.non, fun hm => by
    rcases hg.fre g hm with h1 | h1
    · exact h.non h1
    · have := h.blk.lt; omega⟩
theorem OwnI.alloc {W : World} {S : List Nat} {g : Nat} {t : TypeId} {cs : Array Value} (h : OwnI W S g t cs) (o : Obj) : OwnI (W.alloc o) S g t cs := ⟨h.blk.alloc o, h.non⟩
theorem OwnI.new {W : World} {p : Nat} {S : List Nat} {st : StI} (h : IfP W p S st) (t : TypeId) (cs : Array Value) : OwnI (W.alloc (.cells cs t)) S W.heap.size t cs := ⟨Blk.new W t cs, fun hm => by have := h.lt _ hm; omega⟩
set_option maxRecDepth 100000 in
set_option maxHeartbeats 8000000 in
theorem awake_yes (w : World) : Calls Try.prog 8 #[] w fun e w' => e = .returned (.bool true) ∧ Below w.heap.size w w' := by
  have HNew := Lib.hid (newP w)
  go_enter Try.func8, Try.ntmps8
  go_wp2_with fail
  refine Calls.mono HNew.out ?_
  rintro e w1 ⟨p, S0, rfl, hP, hb, hs⟩
  have Y0 : Hid (StdI w w1 p S0 ([], [])) := Lib.hid ⟨hP, hb, hs⟩
  obtain ⟨va, hva⟩ : ∃ va, w1.heap.size = va := ⟨_, rfl⟩
  obtain ⟨W1, hW1⟩ : ∃ W, w1.alloc (.cells #[.bool false, .int .u64 0, .int .u64 167772161] 34) = W := ⟨_, rfl⟩
  have Y1 : Hid (StdI w W1 p S0 ([], [])) := Lib.hid (hW1 ▸ Y0.out.alloc _)
  have V1 : Hid (OwnI W1 S0 va 34 #[.bool false, .int .u64 0, .int .u64 167772161]) := Lib.hid (hW1 ▸ hva ▸ OwnI.new hP _ _)
  have HW1 := Lib.hid (And.intro hW1 hva)
  have HC1 : Hid (Calls Try.prog 24 #[.pointer (some ⟨p, 0, none⟩), .string nm0, .int .u64 2, .int .i64 1500] W1 _) := Lib.hid (addP p S0 ([], []) nm0 2 1500 (by decide) (by decide) (by decide) W1 Y1.out.P)
  rw [aw_a] at HC1
  clear hP hb hs hva hW1
  go_wp2_with fail
  rw [HW1.out.1, HW1.out.2]
  refine Calls.mono HC1.out ?_
  rintro e w2 ⟨rfl, S1, hP, hg⟩
  have Y2 := Lib.hid (Y1.out.go hP hg)
  have V2 := Lib.hid (V1.out.go hg)
  clear hP hg
  have HC2 := Lib.hid (addP p S1 aw1 nm0 4 1500 (by decide) (by decide) (by decide) w2 Y2.out.P)
  rw [aw_b] at HC2
  go_wp2_with fail
  refine Calls.mono HC2.out ?_
  rintro e w3 ⟨rfl, S2, hP, hg⟩
  have Y3 := Lib.hid (Y2.out.go hP hg)
  have V3 := Lib.hid (V2.out.go hg)
  clear hP hg
  have HC3 := Lib.hid (addP p S2 aw1 nm1 3298534883328 1500 (by decide) (by decide) (by decide) w3 Y3.out.P)
  rw [aw_c] at HC3
  go_wp2_with fail
  refine Calls.mono HC3.out ?_
  rintro e w4 ⟨rfl, S3, hP, hg⟩
  have Y4 := Lib.hid (Y3.out.go hP hg)
  have V4 := Lib.hid (V3.out.go hg)
  clear hP hg
  have HC4 := Lib.hid (putP p S3 aw1 1 ad0 ad0_ok 24 (by decide) (by decide) w4 Y4.out.P)
  rw [aw_d] at HC4
  have z0 := (V4.out.blk.cell 0).trans (show _ = some (Value.bool false) by rfl)
  have z1 := (V4.out.blk.cell 1).trans (show _ = some (Value.int .u64 0) by rfl)
  have z2 := (V4.out.blk.cell 2).trans (show _ = some (Value.int .u64 167772161) by rfl)
  go_wp2_with fail
  refine Calls.mono HC4.out ?_
  rintro e w5 ⟨rfl, S4, hP, hg⟩
  have Y5 := Lib.hid (Y4.out.go hP hg)
  have V5 := Lib.hid (V4.out.go hg)
  clear hP hg z0 z1 z2
  have HC5 := Lib.hid (putP p S4 aw2 1 ad0 ad0_ok 16 (by decide) (by decide) w5 Y5.out.P)
  rw [aw_e] at HC5
  have z0 := (V5.out.blk.cell 0).trans (show _ = some (Value.bool false) by rfl)
  have z1 := (V5.out.blk.cell 1).trans (show _ = some (Value.int .u64 0) by rfl)
  have z2 := (V5.out.blk.cell 2).trans (show _ = some (Value.int .u64 167772161) by rfl)
  go_wp2_with fail
  refine Calls.mono HC5.out ?_
  rintro e w6 ⟨rfl, S5, hP, hg⟩
  have Y6 := Lib.hid (Y5.out.go hP hg)
  have V6 := Lib.hid (V5.out.go hg)
  clear hP hg z0 z1 z2
  have HC6 := Lib.hid (nearP p S5 aw2 ad1 ad1_ok w6 Y6.out.P)
  rw [aw_f] at HC6
  go_wp2_with fail
  refine Calls.mono HC6.out ?_
  rintro e w7 ⟨rfl, hP, hT⟩
  have Y7 := Lib.hid (Y6.out.read hP hT)
  have V7 := Lib.hid (V6.out.go (Goes.of_tch hT))
  clear hP hT
  have HC7 := Lib.hid (turnP p S5 aw2 1 true (by decide) w7 Y7.out.P)
  rw [aw_g] at HC7
  go_wp2_with fail
  refine Calls.mono HC7.out ?_
  rintro e w8 ⟨rfl, S6, hP, hg⟩
  have Y8 := Lib.hid (Y7.out.go hP hg)
  have V8 := Lib.hid (V7.out.go hg)
  clear hP hg
  have HC8 := Lib.hid (nearP p S6 aw3 ad1 ad1_ok w8 Y8.out.P)
  rw [aw_h] at HC8
  go_wp2_with fail
  refine Calls.mono HC8.out ?_
  rintro e w9 ⟨rfl, hP, hT⟩
  have Y9 := Lib.hid (Y8.out.read hP hT)
  have V9 := Lib.hid (V8.out.go (Goes.of_tch hT))
  clear hP hT
  have HC9 := Lib.hid (srcP p S6 aw3 1 ad2 ad2_ok (by decide) w9 Y9.out.P)
  rw [aw_i, aw_s] at HC9
  go_wp2_with fail
  refine Calls.mono HC9.out ?_
  rintro e w10 ⟨rfl, hP, hT⟩
  have Y10 := Lib.hid (Y9.out.read hP hT)
  have V10 := Lib.hid (V9.out.go (Goes.of_tch hT))
  clear hP hT
  obtain ⟨vx, hvx⟩ : ∃ vx, w10.heap.size = vx := ⟨_, rfl⟩
  obtain ⟨Wx, hWx⟩ : ∃ W, w10.alloc (.cells #[.bool false, .int .u64 0, .int .u64 167772161] 34) = W := ⟨_, rfl⟩
  have Yx : Hid (StdI w Wx p S6 aw3) := Lib.hid (hWx ▸ Y10.out.alloc _)
  have Vx : Hid (OwnI Wx S6 va 34 #[.bool false, .int .u64 0, .int .u64 167772161]) := Lib.hid (hWx ▸ V10.out.alloc _)
  have Ux : Hid (OwnI Wx S6 vx 34 #[.bool false, .int .u64 0, .int .u64 167772161]) := Lib.hid (hWx ▸ hvx ▸ OwnI.new Y10.out.P _ _)
  have z0 := (Vx.out.blk.cell 0).trans (show _ = some (Value.bool false) by rfl)
  have z1 := (Vx.out.blk.cell 1).trans (show _ = some (Value.int .u64 0) by rfl)
  have z2 := (Vx.out.blk.cell 2).trans (show _ = some (Value.int .u64 167772161) by rfl)
  rw [← hWx] at z0 z1 z2
  have HWx := Lib.hid (And.intro hWx hvx)
  have HM := Lib.hid (mineP p S6 aw3 ad0 ad0_ok Wx Yx.out.P)
  rw [aw_j] at HM
  clear hWx hvx
  go_wp2_with fail
  rw [HWx.out.1, HWx.out.2]
  refine Calls.mono HM.out ?_
  rintro e wm ⟨rfl, hP, hT⟩
  have Ym := Lib.hid (Yx.out.read hP hT)
  have Vm := Vx.out.go (Goes.of_tch hT)
  have Um := Ux.out.go (Goes.of_tch hT)
  have a0 := (Vm.blk.cell 0).trans (show _ = some (Value.bool false) by rfl)
  have a1 := (Vm.blk.cell 1).trans (show _ = some (Value.int .u64 0) by rfl)
  have a2 := (Vm.blk.cell 2).trans (show _ = some (Value.int .u64 167772161) by rfl)
  have b0 := (Um.blk.cell 0).trans (show _ = some (Value.bool false) by rfl)
  have b1 := (Um.blk.cell 1).trans (show _ = some (Value.int .u64 0) by rfl)
  have b2 := (Um.blk.cell 2).trans (show _ = some (Value.int .u64 167772161) by rfl)
  have HN := Lib.hid (namedP p S6 aw3 nm0 (by decide) wm Ym.out.P)
  rw [aw_k] at HN
  have EQ : ∀ W, (binOp .eql 34 (.agg #[.bool false, .int .u64 0, .int .u64 167772161]) (.agg #[.bool false, .int .u64 0, .int .u64 167772161])).run Try.prog W = .ok (.bool true) W := eq_eql _ _ _ (fun W => by rw [eq_ad]; simp)
  clear hP hT Vm Um z0 z1 z2
  go_wp2_with fail
  refine Calls.mono HN.out ?_
  rintro e wn ⟨rfl, hP, hT⟩
  have Yn := Lib.hid (Ym.out.read hP hT)
  have HLo := Lib.hid (localsP p S6 aw3 1 (by decide) wn Yn.out.P)
  rw [aw_l] at HLo
  clear hP hT a0 a1 a2 b0 b1 b2
  go_wp2_with fail
  refine Calls.mono HLo.out ?_
  rintro e wl ⟨A, c, rfl, -, hP, hT⟩
  have Yl := Lib.hid (Yn.out.read hP hT)
  clear hP hT
  go_wp2
  go_ret
  exact ⟨rfl, Yl.out.bel⟩
end Go.Proofs.Ytabbclocgkhnhaa

namespace Go.Proofs.Ytabbclocgkhnhaa
open Go.RowKit
set_option linter.unusedVariables false

/-- What n steps leave. -/
def plI (z : List StpI) (n : Nat) : StI := (z.take n).foldl (fun st x => (doI st x).1) ([], [])
theorem plI_zero (z : List StpI) : plI z 0 = ([], []) := by simp [plI]
theorem plI_succ {z : List StpI} {n : Nat} {x : StpI} (hx : z[n]? = some x) : plI z (n + 1) = (doI (plI z n) x).1 := by
  unfold plI
  rw [List.take_add_one, hx, List.foldl_append]
  rfl
theorem plI_inv {z : List StpI} (hz : ∀ x ∈ z, x.ok) (n : Nat) : InvI (plI z n) := by
  induction n with
  | zero => rw [plI_zero]; exact InvI.nil
  | succ n ih =>
    cases hx : z[n]? with
    | none =>
      have : z.length ≤ n := List.getElem?_eq_none_iff.1 hx
      have e : plI z (n + 1) = plI z n := by unfold plI; rw [List.take_of_length_le this, List.take_of_length_le (by omega)]
      rw [e]; exact ih
    | some x => rw [plI_succ hx]; exact ih.do_ (hz x (List.mem_of_getElem? hx))
/-- A step's cells, where it stands. -/
theorem IsStp.cells {w wr : World} {a : Option Addr} {l j : Nat} {z : List Stp} (h : IsStp w a l z) (hb : Below w.heap.size w wr) (hj : j < l) : ∃ g o wh nm mac nu po up s ah al, a = some ⟨g, o, none⟩ ∧ z[j]? = some ⟨wh, nm, mac, nu, po, up, s, ah, al⟩ ∧ StpI.ok ⟨wh, nm, mac, nu, po, up, s, ah, al⟩ ∧
    wr.cell? ⟨g, o + j * 9, none⟩ = some (.int .i64 wh) ∧ wr.cell? ⟨g, o + j * 9 + 1, none⟩ = some (.string nm) ∧ wr.cell? ⟨g, o + j * 9 + 2, none⟩ = some (.int .u64 mac) ∧ wr.cell? ⟨g, o + j * 9 + 3, none⟩ = some (.int .i64 nu) ∧ wr.cell? ⟨g, o + j * 9 + 4, none⟩ = some (.int .i64 po) ∧
    wr.cell? ⟨g, o + j * 9 + 5, none⟩ = some (.bool up) ∧ wr.cell? ⟨g, o + j * 9 + 6, none⟩ = some (.bool s) ∧ wr.cell? ⟨g, o + j * 9 + 7, none⟩ = some (.int .u64 (ah : Int)) ∧ wr.cell? ⟨g, o + j * 9 + 8, none⟩ = some (.int .u64 (al : Int)) := by
  obtain ⟨b, o, e, hlt, hc⟩ := h.2.2 (by omega)
  have hlz : j < z.length := by rw [h.1]; exact hj
  have hz : z[j]? = some z[j] := List.getElem?_eq_getElem hlz
  have hok := h.2.1 _ (List.mem_of_getElem? hz)
  generalize z[j] = x at hz hok
  obtain ⟨wh, nm, mac, nu, po, up, s, ah, al⟩ := x
  have k : ∀ k v, (stC ⟨wh, nm, mac, nu, po, up, s, ah, al⟩)[k]? = some v → wr.cell? ⟨b, o + j * 9 + k, none⟩ = some v := fun k v hv => (hb.cell (p := ⟨b, o + j * 9 + k, none⟩) hlt).trans (hc j _ hz k v hv)
  exact ⟨b, o, wh, nm, mac, nu, po, up, s, ah, al, e, hz, hok, k 0 _ rfl, k 1 _ rfl, k 2 _ rfl, k 3 _ rfl, k 4 _ rfl, k 5 _ rfl, k 6 _ rfl, k 7 _ rfl, k 8 _ rfl⟩
set_option maxRecDepth 100000 in
set_option maxHeartbeats 4000000 in
theorem made_any (w : World) (a : Option Addr) (l c : Nat) (z : List Stp) (hz : IsStp w a l z) (w0 : World) (hb0 : Below w.heap.size w w0) :
    Calls Try.prog 15 #[.slice a l c] w0 fun e w' => ∃ p S, e = .returned (.pointer (some ⟨p, 0, none⟩)) ∧ StdI w0 w' p S (plI z (min l 60)) := by
  have HNew := Lib.hid (newP w0)
  have HZ := Lib.hid hz
  have HB0 := Lib.hid hb0
  clear hz hb0
  go_enter Try.func15, Try.ntmps15
  go_wp2_with fail
  refine Calls.mono HNew.out ?_
  rintro e w1 ⟨p, S0, rfl, hP, hb, hs⟩
  have Y0 : Hid (StdI w0 w1 p S0 (plI z 0)) := Lib.hid ⟨by rw [plI_zero]; exact hP, hb, hs⟩
  clear hP hb hs
  go_wp2_with fail
  go_loopw [4] (fun iv wr => ∃ (i : Nat) (S : List Nat), iv = .int .i64 (i : Int) ∧ i ≤ l ∧ i ≤ 60 ∧ Hid (StdI w0 wr p S (plI z i))) (fun iv _ => 60 - (intOf iv).toNat)
  case atStart => exact ⟨0, S0, rfl, Nat.zero_le _, Nat.zero_le _, Y0⟩
  case round =>
    obtain ⟨i, S, rfl, hil, hi6, hY⟩ := hrel
    have j1 : IntKind.i64.wrap ((i : Int) + 1) = (i : Int) + 1 := by rw [IntKind.wrap_i64]; omega
    by_cases hlt : i < l
    · have i1 : (i : Int) < (l : Int) := by omega
      have i0 : (0 : Int) ≤ (i : Int) := by omega
      by_cases h60 : i < 60
      · have i6 : (i : Int) < 60 := by omega
        obtain ⟨g, o, wh, nm, mac, nu, po, up, s, ah, al, rfl, hzi, hok, c0, c1, c2, c3, c4, c5, c6, c7, c8⟩ := HZ.out.cells (HB0.out.trans (hY.out.bel.mono HB0.out.size)) hlt
        have HD : Hid (Calls Try.prog 11 #[.pointer (some ⟨p, 0, none⟩), .agg #[.int .i64 wh, .string nm, .int .u64 mac, .int .i64 nu, .int .i64 po, .bool up, .bool s, .int .u64 (ah : Int), .int .u64 (al : Int)]] wr _) := Lib.hid (do_any p S (plI z i) ⟨wh, nm, mac, nu, po, up, s, ah, al⟩ hok wr hY.out.P)
        have HS := Lib.hid (plI_succ hzi)
        clear hzi hok
        go_wp2_with fail
        refine Calls.mono HD.out ?_
        rintro e w2 ⟨rfl, S', hP, hg⟩
        rw [← HS.out] at hP
        have Y2 := Lib.hid (hY.out.go hP hg)
        clear hP hg c0 c1 c2 c3 c4 c5 c6 c7 c8
        go_wp2
        go_roundw
        case rel => exact ⟨i + 1, S', by go_num, hlt, h60, Y2⟩
        case measure => simp [intOf]; omega
      · have i6 : ¬ (i : Int) < 60 := by omega
        have he : min l 60 = i := by omega
        have HE := Lib.hid he
        clear he h60 hil hi6
        go_wp2
        go_ret
        rw [HE.out]
        exact ⟨p, rfl, S, hY.out⟩
    · have i1 : ¬ (i : Int) < (l : Int) := by omega
      have i1b : decide ((i : Int) < (l : Int)) = false := decide_eq_false i1
      have he : min l 60 = i := by omega
      have HE := Lib.hid he
      clear he hlt hil hi6
      go_wp2
      go_ret
      rw [HE.out]
      exact ⟨p, rfl, S, hY.out⟩
end Go.Proofs.Ytabbclocgkhnhaa

namespace Go.Proofs.Ytabbclocgkhnhaa
open Go.RowKit
set_option linter.unusedVariables false

/-- Both sets in a law that began at w. -/
structure BotI (w W : World) (p : Nat) (Sp : List Nat) (t : Nat) (St : List Nat) (st : StI) : Prop where
  two : TwoI W p Sp t St st
  bel : Below w.heap.size w W
  ap : ∀ s ∈ Sp, w.heap.size ≤ s
  at_ : ∀ s ∈ St, w.heap.size ≤ s
section
variable {w W W' : World} {p t : Nat} {Sp St Sp' St' T : List Nat} {st st' : StI}
theorem BotI.tch0 (h : BotI w W p Sp t St st) (ht : Tch W W' []) : BotI w W' p Sp t St st := ⟨h.two.tch0 ht, h.bel.trans (ht.below h.bel.size (by simp)), h.ap, h.at_⟩
theorem BotI.tchO (h : BotI w W p Sp t St st) (ht : Tch W W' T) (h1 : ∀ s ∈ T, s ∉ Sp ∧ s ∉ St ∧ w.heap.size ≤ s) : BotI w W' p Sp t St st :=
  ⟨⟨h.two.P.tch ht (fun s hs hm => (h1 s hm).1 hs), h.two.D.tch ht (fun s hs hm => (h1 s hm).2.1 hs), h.two.dis⟩, h.bel.trans (ht.below h.bel.size (fun s hs => (h1 s hs).2.2)), h.ap, h.at_⟩
theorem BotI.readP (h : BotI w W p Sp t St st) (hP : IfP W' p Sp st) (ht : Tch W W' Sp) : BotI w W' p Sp t St st := ⟨h.two.readP hP ht, h.bel.trans (ht.below h.bel.size h.ap), h.ap, h.at_⟩
theorem BotI.tells (h : BotI w W p Sp t St st) (hT : TwoI W' p Sp t St st) (ht : Tch W W' Sp) : BotI w W' p Sp t St st := ⟨hT, h.bel.trans (ht.below h.bel.size h.ap), h.ap, h.at_⟩
theorem BotI.step {W1 W2 : World} (h : BotI w W p Sp t St st) (hP : IfP W1 p Sp' st') (hg : Goes W W1 Sp Sp') (hD : IfD W2 t St' st') (hg2 : Goes W1 W2 St St') : BotI w W2 p Sp' t St' st' :=
  have k := hg.below h.bel.size h.ap
  have k2 := hg2.below (Nat.le_trans h.bel.size hg.tch.size) h.at_
  have e := h.two.goP hP hg
  ⟨TwoI.mk' hP e.2.1 e.2.2 hD hg2, (h.bel.trans k.1).trans k2.1, k.2, k2.2⟩
end
theorem IsStp.cells_of {w : World} {g o l j : Nat} {z : List Stp} {wh : Int} {nm : ByteArray} {mac nu po : Int} {up s : Bool} {ah al : Nat} (h : IsStp w (some ⟨g, o, none⟩) l z) (hx : z[j]? = some ⟨wh, nm, mac, nu, po, up, s, ah, al⟩) : ∀ W, Below w.heap.size w W →
    W.cell? ⟨g, o + j * 9, none⟩ = some (.int .i64 wh) ∧ W.cell? ⟨g, o + j * 9 + 1, none⟩ = some (.string nm) ∧ W.cell? ⟨g, o + j * 9 + 2, none⟩ = some (.int .u64 mac) ∧ W.cell? ⟨g, o + j * 9 + 3, none⟩ = some (.int .i64 nu) ∧ W.cell? ⟨g, o + j * 9 + 4, none⟩ = some (.int .i64 po) ∧
    W.cell? ⟨g, o + j * 9 + 5, none⟩ = some (.bool up) ∧ W.cell? ⟨g, o + j * 9 + 6, none⟩ = some (.bool s) ∧ W.cell? ⟨g, o + j * 9 + 7, none⟩ = some (.int .u64 (ah : Int)) ∧ W.cell? ⟨g, o + j * 9 + 8, none⟩ = some (.int .u64 (al : Int)) := by
  intro W hW
  obtain ⟨b, o', e, hlt, hc⟩ := h.2.2 (by have := (List.getElem?_eq_some_iff.1 hx).1; have := h.1; omega)
  injection e with e
  injection e with e1 e2
  subst e1 e2
  have k : ∀ k v, (stC ⟨wh, nm, mac, nu, po, up, s, ah, al⟩)[k]? = some v → W.cell? ⟨g, o + j * 9 + k, none⟩ = some v := fun k v hv => (hW.cell (p := ⟨g, o + j * 9 + k, none⟩) hlt).trans (hc j _ hx k v hv)
  exact ⟨k 0 _ rfl, k 1 _ rfl, k 2 _ rfl, k 3 _ rfl, k 4 _ rfl, k 5 _ rfl, k 6 _ rfl, k 7 _ rfl, k 8 _ rfl⟩
/-- A step's own four calls, over the value that is read. -/
abbrev sv9 (wh : Int) (nm : ByteArray) (mac nu po : Int) (up s : Bool) (ah al : Nat) : Value := .agg #[.int .i64 wh, .string nm, .int .u64 mac, .int .i64 nu, .int .i64 po, .bool up, .bool s, .int .u64 (ah : Int), .int .u64 (al : Int)]
theorem do9 (p : Nat) (S : List Nat) (st : StI) (x : StpI) {wh : Int} {nm : ByteArray} {mac nu po : Int} {up s : Bool} {ah al : Nat} (hxe : (⟨wh, nm, mac, nu, po, up, s, ah, al⟩ : StpI) = x) (hok : x.ok) {n1 n2 : Int} (hn1 : (doI st x).2.1 = n1) (hn2 : (doI st x).2.2 = n2) (W : World) (h : IfP W p S st) :
    Calls Try.prog 11 #[.pointer (some ⟨p, 0, none⟩), .agg #[.int .i64 wh, .string nm, .int .u64 mac, .int .i64 nu, .int .i64 po, .bool up, .bool s, .int .u64 (ah : Int), .int .u64 (al : Int)]] W fun e w' => e = .returned (.tuple #[.int .i64 n1, .int .i64 n2]) ∧ ∃ S', IfP w' p S' (doI st x).1 ∧ Goes W w' S S' := by
  subst hxe hn1 hn2; exact do_any p S st _ hok W h
theorem does9 (p : Nat) (S : List Nat) (st : StI) (x : StpI) {wh : Int} {nm : ByteArray} {mac nu po : Int} {up s : Bool} {ah al : Nat} (hxe : (⟨wh, nm, mac, nu, po, up, s, ah, al⟩ : StpI) = x) (hok : x.ok) {n1 n2 : Int} (hn1 : (doI st x).2.1 = n1) (hn2 : (doI st x).2.2 = n2) (W : World) (h : IfD W p S st) :
    Calls Try.prog 12 #[.pointer (some ⟨p, 0, none⟩), .agg #[.int .i64 wh, .string nm, .int .u64 mac, .int .i64 nu, .int .i64 po, .bool up, .bool s, .int .u64 (ah : Int), .int .u64 (al : Int)]] W fun e w' => e = .returned (.tuple #[.int .i64 n1, .int .i64 n2]) ∧ ∃ S', IfD w' p S' (doI st x).1 ∧ Goes W w' S S' := by
  subst hxe hn1 hn2; exact does_any p S st _ hok W h
theorem tells9 (p : Nat) (Sp : List Nat) (t : Nat) (St : List Nat) (st : StI) (x : StpI) {wh : Int} {nm : ByteArray} {mac nu po : Int} {up s : Bool} {ah al : Nat} (hxe : (⟨wh, nm, mac, nu, po, up, s, ah, al⟩ : StpI) = x) (hok : x.ok) (W : World) (h : TwoI W p Sp t St st) :
    Calls Try.prog 13 #[.pointer (some ⟨p, 0, none⟩), .pointer (some ⟨t, 0, none⟩), .agg #[.int .i64 wh, .string nm, .int .u64 mac, .int .i64 nu, .int .i64 po, .bool up, .bool s, .int .u64 (ah : Int), .int .u64 (al : Int)]] W fun e w' => e = .returned (.bool true) ∧ TwoI w' p Sp t St st ∧ Tch W w' Sp := by
  subst hxe; exact tells_any p Sp t St st _ hok W h
theorem own_frN {w : World} {base g n c sz : Nat} {t : TypeId} {xs : List Value} (h : w.ownsRow base t sz (.slice (some ⟨g, 0, none⟩) n c) n xs) (i : Nat) : w.frozen? ⟨g, i, none⟩ = false := by
  rcases h.2 with ⟨e, -⟩ | ⟨g', cap, cur, e, -, hb, -⟩
  · cases e
  · injection e with e2
    injection e2 with e2
    injection e2 with e2
    subst e2
    exact Blk.frozen hb _
end Go.Proofs.Ytabbclocgkhnhaa

namespace Go.Proofs.Ytabbclocgkhnhaa
open Go.RowKit
set_option linter.unusedVariables false

/-- No block of both. -/
def Dis (A B : List Nat) : Prop := ∀ s ∈ A, s ∉ B
theorem Dis.symm {A B : List Nat} (h : Dis A B) : Dis B A := fun s hs hm => h s hm hs
theorem Dis.fre {A A' B : List Nat} {k : Nat} (h : Dis A B) (hf : ∀ s ∈ A', s ∈ A ∨ k ≤ s) (hB : ∀ s ∈ B, s < k) : Dis A' B := fun s hs hm => by
  rcases hf s hs with h1 | h1
  · exact h s h1 hm
  · have := hB s hm; omega
/-- Two pairs, in a law that began at w. -/
structure FourI (w W : World) (p : Nat) (Sp : List Nat) (t : Nat) (St : List Nat) (st : StI) (q : Nat) (Sq : List Nat) (u : Nat) (Su : List Nat) (sq : StI) : Prop where
  x : BotI w W p Sp t St st
  y : BotI w W q Sq u Su sq
  pq : Dis Sp Sq
  pu : Dis Sp Su
  tq : Dis St Sq
  tu : Dis St Su
section
variable {w W W1 W2 : World} {p t q u : Nat} {Sp St Sq Su Sp' St' : List Nat} {st st' sq : StI}
theorem FourI.symm (h : FourI w W p Sp t St st q Sq u Su sq) : FourI w W q Sq u Su sq p Sp t St st := ⟨h.y, h.x, h.pq.symm, h.tq.symm, h.pu.symm, h.tu.symm⟩
theorem FourI.tch0 (h : FourI w W p Sp t St st q Sq u Su sq) (ht : Tch W W1 []) : FourI w W1 p Sp t St st q Sq u Su sq := ⟨h.x.tch0 ht, h.y.tch0 ht, h.pq, h.pu, h.tq, h.tu⟩
theorem FourI.step (h : FourI w W p Sp t St st q Sq u Su sq) (hP : IfP W1 p Sp' st') (hg : Goes W W1 Sp Sp') (hD : IfD W2 t St' st') (hg2 : Goes W1 W2 St St') : FourI w W2 p Sp' t St' st' q Sq u Su sq := by
  have hx := h.x.step hP hg hD hg2
  have hs := hg.tch.size
  have lq : ∀ s ∈ Sq, s < W.heap.size := h.y.two.P.lt
  have lu : ∀ s ∈ Su, s < W.heap.size := h.y.two.D.lt
  have y1 : BotI w W1 q Sq u Su sq := ⟨⟨h.y.two.P.tch hg.tch (fun s a b => h.pq s b a), h.y.two.D.tch hg.tch (fun s a b => h.pu s b a), h.y.two.dis⟩, h.x.bel.trans (hg.below h.x.bel.size h.x.ap).1, h.y.ap, h.y.at_⟩
  have y2 : BotI w W2 q Sq u Su sq := ⟨⟨y1.two.P.tch hg2.tch (fun s a b => h.tq s b a), y1.two.D.tch hg2.tch (fun s a b => h.tu s b a), y1.two.dis⟩, hx.bel, y1.ap, y1.at_⟩
  exact ⟨hx, y2, h.pq.fre hg.fre lq, h.pu.fre hg.fre lu, h.tq.fre hg2.fre (fun s a => Nat.lt_of_lt_of_le (lq s a) hs), h.tu.fre hg2.fre (fun s a => Nat.lt_of_lt_of_le (lu s a) hs)⟩
/-- Between the two steps: the program's has been done. -/
theorem FourI.mid (h : FourI w W p Sp t St st q Sq u Su sq) (hP : IfP W1 p Sp' st') (hg : Goes W W1 Sp Sp') : IfD W1 t St st ∧ Below w.heap.size w W1 :=
  ⟨(h.x.two.goP hP hg).2.1, h.x.bel.trans (hg.below h.x.bel.size h.x.ap).1⟩
theorem FourI.tells (h : FourI w W p Sp t St st q Sq u Su sq) (hT : TwoI W1 p Sp t St st) (ht : Tch W W1 Sp) : FourI w W1 p Sp t St st q Sq u Su sq :=
  ⟨h.x.tells hT ht, ⟨⟨h.y.two.P.tch ht (fun s a b => h.pq s b a), h.y.two.D.tch ht (fun s a b => h.pu s b a), h.y.two.dis⟩, h.x.bel.trans (ht.below h.x.bel.size h.x.ap), h.y.ap, h.y.at_⟩, h.pq, h.pu, h.tq, h.tu⟩
end
/-- The set, its copy, and the document's set that is played anew. -/
structure CpyI (w W : World) (p : Nat) (Sp : List Nat) (q : Nat) (Sq : List Nat) (st : StI) (t : Nat) (St : List Nat) (sd : StI) : Prop where
  P : IfP W p Sp st
  Q : IfP W q Sq st
  D : IfD W t St sd
  bel : Below w.heap.size w W
  ap : ∀ s ∈ Sp, w.heap.size ≤ s
  aq : ∀ s ∈ Sq, w.heap.size ≤ s
  at_ : ∀ s ∈ St, w.heap.size ≤ s
  pq : Dis Sp Sq
  pt : Dis Sp St
  qt : Dis Sq St
theorem CpyI.does {w W W1 : World} {p q t : Nat} {Sp Sq St St' : List Nat} {st sd sd' : StI} (h : CpyI w W p Sp q Sq st t St sd) (hD : IfD W1 t St' sd') (hg : Goes W W1 St St') : CpyI w W1 p Sp q Sq st t St' sd' :=
  have k := hg.below h.bel.size h.at_
  ⟨h.P.tch hg.tch h.pt, h.Q.tch hg.tch h.qt, hD, h.bel.trans k.1, h.ap, h.aq, k.2, h.pq, (h.pt.symm.fre hg.fre h.P.lt).symm, (h.qt.symm.fre hg.fre h.Q.lt).symm⟩
theorem CpyI.four {w W W1 : World} {p q t u : Nat} {Sp Sq St Su : List Nat} {st : StI} (h : CpyI w W p Sp q Sq st t St st) (hU : IfD W1 u Su st) (hT : Tch W W1 []) (hu : ∀ s ∈ Su, W.heap.size ≤ s) : FourI w W1 p Sp t St st q Sq u Su st := by
  have b1 := h.bel.trans (hT.below h.bel.size (by simp))
  have lp := h.P.lt
  have lq := h.Q.lt
  have lt' := h.D.lt
  exact ⟨⟨⟨h.P.tch hT (by simp), h.D.tch hT (by simp), h.pt⟩, b1, h.ap, h.at_⟩, ⟨⟨h.Q.tch hT (by simp), hU, fun s a b => by have := lq s a; have := hu s b; omega⟩, b1, h.aq, fun s a => Nat.le_trans h.bel.size (hu s a)⟩, h.pq,
    fun s a b => by have := lp s a; have := hu s b; omega, h.qt.symm, fun s a b => by have := lt' s a; have := hu s b; omega⟩
end Go.Proofs.Ytabbclocgkhnhaa
