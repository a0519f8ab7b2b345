/-
  Steps, texts that came in (layer 19).
-/
import Derived.Test.YtlbkphnbpenbcaaFrame
import Derived.Test.YtlbkphnbpenbcaaNgV
import Derived.Deep.SlicePairs
import Derived.Deep.Strs
namespace Go.Proofs.Ytlbkphnbpenbcaa
open Go.RowKit Go.ChangeShapes Go.WideShapes Go.ChangeAt
set_option linter.unusedVariables false

abbrev Stp := StpI
instance : Inhabited Stp := ⟨⟨0, 0, (false, 0, 0), 0, ⟨#[]⟩, false, false⟩⟩
abbrev I64 (x : Int) : Prop := (Lit.int .i64 x).wf = true
def StpI.ok (x : StpI) : Prop := I64 x.what ∧ I64 x.port ∧ KyN (x.port, x.ad) ∧ (0 ≤ x.mac ∧ x.mac ≤ 18446744073709551615)
def stpC (x : StpI) : List Value := [.int .i64 x.what, .int .i64 x.port, .bool x.ad.1, .int .u64 (x.ad.2.1 : Int), .int .u64 (x.ad.2.2 : Int), .int .u64 x.mac, .string x.pkt, .bool x.ans, .bool x.ov]
/-- A slice of steps that came in. -/
def IsStp (w : World) (a : Option Addr) (l : Nat) (z : List Stp) : Prop :=
  z.length = l ∧ (∀ x ∈ z, x.ok) ∧ (0 < l → ∃ b o, a = some ⟨b, o, none⟩ ∧ b < w.heap.size ∧ ∀ j x, z[j]? = some x → ∀ k v, (stpC x)[k]? = some v → w.cell? ⟨b, o + j * 9 + k, none⟩ = some v)
theorem IsStp.below {w w' : World} {a : Option Addr} {l : Nat} {z : List Stp} (h : IsStp w a l z) (hb : Below w.heap.size w w') : IsStp w' a l z := by
  refine ⟨h.1, h.2.1, fun h0 => ?_⟩
  obtain ⟨b, o, e, hlt, hc⟩ := h.2.2 h0
  exact ⟨b, o, e, by have := hb.size; omega, fun j x hx k v hv => (hb.cell (p := ⟨b, o + j * 9 + k, none⟩) hlt).trans (hc j x hx k v hv)⟩
theorem u64_nat {x : Int} (h : (Lit.int .u64 x).wf = true) : ∃ n : Nat, x = (n : Int) ∧ N64 n := by
  have h2 : 0 ≤ x ∧ x ≤ 18446744073709551615 := by
    simp [Lit.wf, IntKind.min, IntKind.max, IntKind.bits, IntKind.signed] at h
    exact h
  exact ⟨x.toNat, by omega, by unfold N64; omega⟩
theorem u64_bdI {x : Int} (h : (Lit.int .u64 x).wf = true) : 0 ≤ x ∧ x ≤ 18446744073709551615 := by
  simp [Lit.wf, IntKind.min, IntKind.max, IntKind.bits, IntKind.signed] at h
  exact h
set_option maxRecDepth 100000 in
set_option maxHeartbeats 4000000 in
theorem open_step {H : Type} {enc : TypeId × Value → H} {W : World} {base n : Nat} {spare : Nat → Bool} {held : Bool} {cs : List Value} {y : DataW H × List MemPlace} (hl : cs.length = 9) (hf : DataW.trod enc Try.prog W base spare held n 33 cs = some y) :
    ∃ q : StpI, cs = stpC q ∧ q.ok := by
  match cs, hl with
  | [c0, c1, c2, c3, c4, c5, c6, c7, c8], _ =>
    have e0 : Try.prog.cellsOf 30 = 3 := by kernel_rfl
    have e1 : Try.prog.cellsOf 3 = 1 := by kernel_rfl
    have e2 : Try.prog.cellsOf 4 = 1 := by kernel_rfl
    have e3 : Try.prog.cellsOf 28 = 1 := by kernel_rfl
    have e4 : Try.prog.cellsOf 9 = 1 := by kernel_rfl
    have e5 : Try.prog.cellsOf 31 = 1 := by kernel_rfl
    cases n with
    | zero => simp [DataW.trod] at hf
    | succ n =>
      simp only [DataW.trod, Try.underlying33] at hf
      split at hf
      · obtain ⟨xs, hm, hx⟩ := Option.map_eq_some_iff.1 hf
        simp only [List.mapM_cons, List.mapM_nil, bind, Option.bind_eq_some_iff, pure, Option.some.injEq] at hm
        obtain ⟨y0, g0, r0, ⟨y1, g1, r1, ⟨y2, g2, r2, ⟨y3, g3, r3, ⟨y4, g4, r4, ⟨y5, g5, r5, ⟨y6, g6, r6, rfl, rfl⟩, rfl⟩, rfl⟩, rfl⟩, rfl⟩, rfl⟩, rfl⟩ := hm
        simp only [e0, e1, e2, e4, e5, List.drop_zero, List.take_succ_cons, List.take_zero, List.drop_succ_cons] at g0 g1 g2 g3 g4 g5 g6
        obtain ⟨x0, t0, q0, w0⟩ := DataW.trod_int Try.underlying3 g0
        obtain ⟨x1, t1, q1, w1⟩ := DataW.trod_int Try.underlying3 g1
        obtain ⟨z0, z1, z2, m, hz, _, k0, k1, k2⟩ := Go.Deep.trod_struct3 Try.underlying30 g2
        simp only [e2, e3, List.drop_zero, List.take_succ_cons, List.take_zero, List.drop_succ_cons] at k0 k1 k2
        obtain ⟨x2, t2, q2⟩ := DataW.trod_bool Try.underlying4 k0
        obtain ⟨x3, t3, q3, w3⟩ := DataW.trod_int Try.underlying28 k1
        obtain ⟨x4, t4, q4, w4⟩ := DataW.trod_int Try.underlying28 k2
        obtain ⟨x5, t5, q5, w5⟩ := DataW.trod_int Try.underlying31 g3
        obtain ⟨x6, t6, q6, w6⟩ := DataW.trod_string Try.underlying9 g4
        obtain ⟨x7, t7, q7⟩ := DataW.trod_bool Try.underlying4 g5
        obtain ⟨x8, t8, q8⟩ := DataW.trod_bool Try.underlying4 g6
        injection t0 with t0 _
        injection t1 with t1 _
        injection t2 with t2 _
        injection t3 with t3 _
        injection t4 with t4 _
        injection t5 with t5 _
        injection t6 with t6 _
        injection t7 with t7 _
        injection t8 with t8 _
        subst t0 t1 t2 t3 t4 t5 t6 t7 t8
        obtain ⟨n3, rfl, v3⟩ := u64_nat w3
        obtain ⟨n4, rfl, v4⟩ := u64_nat w4
        exact ⟨⟨x0, x1, (x2, n3, n4), x5, x6, x7, x8⟩, rfl, w0, w1, ⟨v3, v4⟩, u64_bdI w5⟩
      · cases hf
set_option maxRecDepth 100000 in
theorem isStp_of {H : Type} {enc : TypeId × Value → H} {W : World} {a : Option Addr} {l c : Nat} {d : DataW H} {p : List MemPlace} (h : DataW.Trod enc Try.prog W 0 (fun _ => true) true 22 (.slice a l c) d p) : ∃ z, IsStp W a l z := by
  obtain ⟨fuel, hf⟩ := h
  have ce : Try.prog.cellsOf 33 = 9 := by kernel_rfl
  rcases Go.Deep.open_slice Try.underlying22 hf with ⟨hcs, _⟩ | ⟨ad, len, cap, m, n, D, Pl, hcs, _, hl, hm, hmm, _, hx⟩
  · simp [Value.cells] at hcs
    obtain ⟨rfl, rfl, rfl⟩ := hcs
    exact ⟨[], rfl, fun x hx => (by cases hx), fun h0 => absurd h0 (by omega)⟩
  · simp [Value.cells] at hcs
    obtain ⟨rfl, rfl, rfl⟩ := hcs
    simp only [if_true] at hmm
    have each : ∀ i, i < l → ∃ q : Stp, (∀ k v, (stpC q)[k]? = some v → W.cell? ((ad.add (i * 9)).add k) = some v) ∧ q.ok := by
      intro i hi
      obtain ⟨cs', h1, h2⟩ := hx i (by omega)
      rw [ce] at h1
      obtain ⟨_, hlen, hcell⟩ := World.cells?_some h1
      obtain ⟨q, hq, hok⟩ := open_step hlen h2
      refine ⟨q, fun k v hv => ?_, hok⟩
      rw [← hq] at hv
      have hk := (List.getElem?_eq_some_iff.1 hv).1
      have := hcell k (by omega)
      rw [this]
      simpa using hv
    obtain ⟨q, hq⟩ := Go.Deep.choose_lt each
    refine ⟨(List.range l).map q, by simp, fun x hx => ?_, fun h0 => ?_⟩
    · obtain ⟨i, hi, rfl⟩ := List.mem_map.1 hx
      exact (hq i (List.mem_range.1 hi)).2
    · obtain ⟨b, off, spot⟩ := ad
      have hc := (hq 0 h0).1 0 _ rfl
      have hspot : spot = none := by simpa [Addr.add] using World.cell?_spot hc
      subst hspot
      refine ⟨b, off, rfl, by simpa [Addr.add] using World.block_lt_of_cell? W _ hc, fun j x hjx k v hv => ?_⟩
      rw [List.getElem?_map, Option.map_eq_some_iff] at hjx
      obtain ⟨i, hi, rfl⟩ := hjx
      have hil := (List.getElem?_eq_some_iff.1 hi).1
      have hij : i = j := by rw [List.getElem?_range (by simpa using hil)] at hi; injection hi with hi; exact hi.symm
      subst hij
      have k0 := (hq i (by simpa using hil)).1 k v hv
      have ea : ∀ x : Nat, (⟨b, off, none⟩ : Addr).add x = ⟨b, off + x, none⟩ := fun x => by unfold Addr.add; split <;> simp_all
      have eb : ∀ y x : Nat, (⟨b, y, none⟩ : Addr).add x = ⟨b, y + x, none⟩ := fun y x => by unfold Addr.add; split <;> simp_all
      rw [ea, eb] at k0
      exact k0
theorem array9 {cs : Array Value} (h : cs.size = 9) : ∃ a b c d e f g i j, cs = #[a, b, c, d, e, f, g, i, j] := by
  obtain ⟨l⟩ := cs
  match l, h with
  | [a, b, c, d, e, f, g, i, j], _ => exact ⟨a, b, c, d, e, f, g, i, j, rfl⟩
set_option maxRecDepth 100000 in
set_option maxHeartbeats 4000000 in
theorem open_stp {H : Type} {enc : TypeId × Value → H} {W : World} {b0 base : Nat} {spare : Nat → Bool} {held : Bool} {v : Value} {d : DataW H} {ps : List MemPlace}
    (hval : Value.okWide Try.prog W .any b0 33 v) (h : DataW.Trod enc Try.prog W base spare held 33 v d ps) :
    ∃ x0 x1 x2 x3 x4 x5 x6 x7 x8, v = .agg #[.int .i64 x0, .int .i64 x1, .bool x2, .int .u64 x3, .int .u64 x4, .int .u64 x5, .string x6, .bool x7, .bool x8] ∧ (Lit.int .i64 x0).wf = true ∧ (Lit.int .i64 x1).wf = true ∧ (Lit.int .u64 x3).wf = true ∧ (Lit.int .u64 x4).wf = true ∧ (Lit.int .u64 x5).wf = true ∧ x6.size ≤ maxLen ∧ ps = [] := by
  obtain ⟨cs, rfl, hsz⟩ := okWide_struct Try.underlying33 hval
  have eC : Try.prog.cellsOf 33 = 9 := by kernel_rfl
  rw [eC] at hsz
  obtain ⟨c0, c1, c2, c3, c4, c5, c6, c7, c8, rfl⟩ := array9 hsz
  obtain ⟨fuel, hf⟩ := h
  have e0 : Try.prog.cellsOf 30 = 3 := by kernel_rfl
  have e1 : Try.prog.cellsOf 3 = 1 := by kernel_rfl
  have e2 : Try.prog.cellsOf 4 = 1 := by kernel_rfl
  have e3 : Try.prog.cellsOf 28 = 1 := by kernel_rfl
  have e4 : Try.prog.cellsOf 9 = 1 := by kernel_rfl
  have e5 : Try.prog.cellsOf 31 = 1 := by kernel_rfl
  cases fuel with
  | zero => simp [DataW.trod] at hf
  | succ fuel =>
    simp only [DataW.trod, Try.underlying33, Value.cells] at hf
    split at hf
    · obtain ⟨xs, hm, hx⟩ := Option.map_eq_some_iff.1 hf
      simp only [List.mapM_cons, List.mapM_nil, bind, Option.bind_eq_some_iff, pure, Option.some.injEq] at hm
      obtain ⟨y0, g0, r0, ⟨y1, g1, r1, ⟨y2, g2, r2, ⟨y3, g3, r3, ⟨y4, g4, r4, ⟨y5, g5, r5, ⟨y6, g6, r6, rfl, rfl⟩, rfl⟩, rfl⟩, rfl⟩, rfl⟩, rfl⟩, rfl⟩ := hm
      simp only [e0, e1, e2, e4, e5, List.drop_zero, List.take_succ_cons, List.take_zero, List.drop_succ_cons] at g0 g1 g2 g3 g4 g5 g6
      obtain ⟨x0, t0, q0, w0⟩ := DataW.trod_int Try.underlying3 g0
      obtain ⟨x1, t1, q1, w1⟩ := DataW.trod_int Try.underlying3 g1
      obtain ⟨z0, z1, z2, m, hz, _, k0, k1, k2⟩ := Go.Deep.trod_struct3 Try.underlying30 g2
      simp only [e2, e3, List.drop_zero, List.take_succ_cons, List.take_zero, List.drop_succ_cons] at k0 k1 k2
      obtain ⟨x2, t2, q2⟩ := DataW.trod_bool Try.underlying4 k0
      obtain ⟨x3, t3, q3, w3⟩ := DataW.trod_int Try.underlying28 k1
      obtain ⟨x4, t4, q4, w4⟩ := DataW.trod_int Try.underlying28 k2
      obtain ⟨x5, t5, q5, w5⟩ := DataW.trod_int Try.underlying31 g3
      obtain ⟨x6, t6, q6, w6⟩ := DataW.trod_string Try.underlying9 g4
      obtain ⟨x7, t7, q7⟩ := DataW.trod_bool Try.underlying4 g5
      obtain ⟨x8, t8, q8⟩ := DataW.trod_bool Try.underlying4 g6
      injection t0 with t0 _
      injection t1 with t1 _
      injection t2 with t2 _
      injection t3 with t3 _
      injection t4 with t4 _
      injection t5 with t5 _
      injection t6 with t6 _
      injection t7 with t7 _
      injection t8 with t8 _
      subst t0 t1 t2 t3 t4 t5 t6 t7 t8
      subst q0 q1 q5 q6 q7 q8
      subst q2 q3 q4
      injection hx with _ hx
      refine ⟨x0, x1, x2, x3, x4, x5, x6, x7, x8, rfl, w0, w1, w3, w4, w5, w6, ?_⟩
      rw [← hx, hz]
      simp
    · cases hf
/-- A slice of texts that came in. -/
def IsStrs (w : World) (a : Option Addr) (l : Nat) (z : List ByteArray) : Prop :=
  z.length = l ∧ (0 < l → ∃ b o, a = some ⟨b, o, none⟩ ∧ b < w.heap.size ∧ ∀ (j : Nat) (x : ByteArray), z[j]? = some x → w.cell? ⟨b, o + j, none⟩ = some (.string x))
theorem IsStrs.below {w w' : World} {a : Option Addr} {l : Nat} {z : List ByteArray} (h : IsStrs w a l z) (hb : Below w.heap.size w w') : IsStrs w' a l z := by
  refine ⟨h.1, fun h0 => ?_⟩
  obtain ⟨b, o, e, hlt, hc⟩ := h.2 h0
  exact ⟨b, o, e, by have := hb.size; omega, fun j x hx => (hb.cell (p := ⟨b, o + j, none⟩) hlt).trans (hc j x hx)⟩
set_option maxRecDepth 100000 in
theorem isStrs_of {H : Type} {enc : TypeId × Value → H} {W : World} {a : Option Addr} {l c : Nat} {d : DataW H} {p : List MemPlace} (h : DataW.Trod enc Try.prog W 0 (fun _ => true) true 52 (.slice a l c) d p) : ∃ z, IsStrs W a l z := by
  obtain ⟨fuel, hf⟩ := h
  have ce : Try.prog.cellsOf 9 = 1 := by kernel_rfl
  rcases Go.Deep.open_slice Try.underlying52 hf with ⟨hcs, _⟩ | ⟨ad, len, cap, m, n, D, Pl, hcs, _, hl, hm, hmm, _, hx⟩
  · simp [Value.cells] at hcs
    obtain ⟨rfl, rfl, rfl⟩ := hcs
    exact ⟨[], rfl, fun h0 => absurd h0 (by omega)⟩
  · simp [Value.cells] at hcs
    obtain ⟨rfl, rfl, rfl⟩ := hcs
    simp only [if_true] at hmm
    have each : ∀ i, i < l → ∃ q : ByteArray, W.cell? (ad.add (i * 1)) = some (.string q) := by
      intro i hi
      obtain ⟨cs', h1, h2⟩ := hx i (by omega)
      rw [ce] at h1
      obtain ⟨_, hlen, hcell⟩ := World.cells?_some h1
      match cs', hlen with
      | [c0], _ =>
        obtain ⟨q, t0, -, -⟩ := DataW.trod_string Try.underlying9 h2
        injection t0 with t0 _
        subst t0
        have := hcell 0 (by simp)
        refine ⟨q, ?_⟩
        have ea : (ad.add (i * 1)).add 0 = ad.add (i * 1) := by simp [Addr.add]
        rw [← ea, this]
        rfl
    obtain ⟨q, hq⟩ := Go.Deep.choose_lt each
    refine ⟨(List.range l).map q, by simp, fun h0 => ?_⟩
    obtain ⟨b, off, spot⟩ := ad
    have hc := hq 0 h0
    have hspot : spot = none := by simpa [Addr.add] using World.cell?_spot hc
    subst hspot
    refine ⟨b, off, rfl, by simpa [Addr.add] using World.block_lt_of_cell? W _ hc, fun j x hjx => ?_⟩
    rw [List.getElem?_map, Option.map_eq_some_iff] at hjx
    obtain ⟨i, hi, rfl⟩ := hjx
    have hil := (List.getElem?_eq_some_iff.1 hi).1
    have hij : i = j := by rw [List.getElem?_range (by simpa using hil)] at hi; injection hi with hi; exact hi.symm
    subst hij
    have k0 := hq i (by simpa using hil)
    have ea : ∀ x : Nat, (⟨b, off, none⟩ : Addr).add x = ⟨b, off + x, none⟩ := fun x => by unfold Addr.add; split <;> simp_all
    rw [ea, Nat.mul_one] at k0
    exact k0
end Go.Proofs.Ytlbkphnbpenbcaa
