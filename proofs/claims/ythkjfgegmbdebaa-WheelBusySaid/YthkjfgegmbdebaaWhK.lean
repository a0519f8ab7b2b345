/-
  Steps that came in (layer 17).
-/
import Derived.Test.YthkjfgegmbdebaaFrame
import Derived.Test.YthkjfgegmbdebaaWhJ
import Derived.Deep.SlicePairs
namespace Go.Proofs.Ythkjfgegmbdebaa
open Go.RowKit Go.ChangeShapes Go.WideShapes Go.ChangeAt
set_option linter.unusedVariables false

/-- A slice of steps that came in. -/
abbrev Stp := Int × Int × Int
def IsStp (w : World) (a : Option Addr) (l : Nat) (z : List Stp) : Prop :=
  z.length = l ∧ (∀ x ∈ z, ((Lit.int .i64 x.1).wf = true ∧ (Lit.int .i64 x.2.1).wf = true) ∧ (Lit.int .i64 x.2.2).wf = true) ∧ (0 < l → ∃ b o, a = some ⟨b, o, none⟩ ∧ b < w.heap.size ∧ ∀ j x, z[j]? = some x → w.cell? ⟨b, o + j * 3, none⟩ = some (.int .i64 x.1) ∧ w.cell? ⟨b, o + j * 3 + 1, none⟩ = some (.int .i64 x.2.1) ∧ w.cell? ⟨b, o + j * 3 + 2, none⟩ = some (.int .i64 x.2.2))
theorem IsStp.below {w w' : World} {a : Option Addr} {l : Nat} {z : List Stp} (h : IsStp w a l z) (hb : Below w.heap.size w w') : IsStp w' a l z := by
  refine ⟨h.1, h.2.1, fun h0 => ?_⟩
  obtain ⟨b, o, e, hlt, hc⟩ := h.2.2 h0
  refine ⟨b, o, e, by have := hb.size; omega, fun j x hx => ?_⟩
  obtain ⟨c1, c2, c3⟩ := hc j x hx
  exact ⟨(hb.cell (p := ⟨b, o + j * 3, none⟩) hlt).trans c1, (hb.cell (p := ⟨b, o + j * 3 + 1, none⟩) hlt).trans c2, (hb.cell (p := ⟨b, o + j * 3 + 2, none⟩) hlt).trans c3⟩
theorem stepFields : ∃ f0 f1 f2 : Field, Try.prog.underlying 29 = some (.struct #[f0, f1, f2]) ∧ (f0.type = 3 ∧ f0.offset = 0) ∧ (f1.type = 3 ∧ f1.offset = 1) ∧ (f2.type = 3 ∧ f2.offset = 2) :=
  ⟨_, _, _, Try.underlying29, ⟨rfl, rfl⟩, ⟨rfl, rfl⟩, ⟨rfl, rfl⟩⟩
theorem isStp_of {H : Type} {enc : TypeId × Value → H} {W : World} {a : Option Addr} {l c : Nat} {d : DataW H} {p : List MemPlace} (h : DataW.Trod enc Try.prog W 0 (fun _ => true) true 22 (.slice a l c) d p) : ∃ z, IsStp W a l z := by
  obtain ⟨fuel, hf⟩ := h
  obtain ⟨f0, f1, f2, hu, ⟨t0, o0⟩, ⟨t1, o1⟩, ⟨t2, o2⟩⟩ := stepFields
  have ce : Try.prog.cellsOf 29 = 3 := by kernel_rfl
  have ci : Try.prog.cellsOf 3 = 1 := by kernel_rfl
  rcases Go.Deep.open_slice Try.underlying22 hf with ⟨hcs, _⟩ | ⟨ad, len, cap, m, n, D, Pl, hcs, _, hl, hm, hmm, _, hx⟩
  · simp [Value.cells] at hcs
    obtain ⟨rfl, rfl, rfl⟩ := hcs
    exact ⟨[], rfl, fun x hx => (by cases hx), fun h0 => absurd h0 (by omega)⟩
  · simp [Value.cells] at hcs
    obtain ⟨rfl, rfl, rfl⟩ := hcs
    simp only [if_true] at hmm
    have each : ∀ i, i < l → ∃ q : Stp, W.cell? (ad.add (i * 3)) = some (.int .i64 q.1) ∧ W.cell? ((ad.add (i * 3)).add 1) = some (.int .i64 q.2.1) ∧ W.cell? ((ad.add (i * 3)).add 2) = some (.int .i64 q.2.2) ∧ ((Lit.int .i64 q.1).wf = true ∧ (Lit.int .i64 q.2.1).wf = true) ∧ (Lit.int .i64 q.2.2).wf = true := by
      intro i hi
      obtain ⟨cs', h1, h2⟩ := hx i (by omega)
      rw [ce] at h1
      obtain ⟨_, hlen, hcell⟩ := World.cells?_some h1
      obtain ⟨y0, y1, y2, n', _, hcl, g0, g1, g2⟩ := Go.Deep.trod_struct3 hu h2
      rw [t0, o0, ci] at g0
      rw [t1, o1, ci] at g1
      rw [t2, o2, ci] at g2
      match cs', hlen with
      | [v0, v1, v2], _ =>
        simp only [List.drop_zero, List.take_succ_cons, List.take_zero, List.drop_succ_cons] at g0 g1 g2
        obtain ⟨b0, e0, _, w0⟩ := DataW.trod_int Try.underlying3 g0
        obtain ⟨b1, e1, _, w1⟩ := DataW.trod_int Try.underlying3 g1
        obtain ⟨n2, e2, _, w2⟩ := DataW.trod_int Try.underlying3 g2
        injection e0 with e0 _
        injection e1 with e1 _
        injection e2 with e2 _
        subst e0 e1 e2
        have k0 := hcell 0 (by omega)
        have k1 := hcell 1 (by omega)
        have k2 := hcell 2 (by omega)
        exact ⟨(b0, b1, n2), by simpa [Addr.add] using k0, by simpa using k1, by simpa using k2, ⟨w0, w1⟩, w2⟩
    obtain ⟨q, hq⟩ := Go.Deep.choose_lt each
    refine ⟨(List.range l).map q, by simp, fun x hx => ?_, fun h0 => ?_⟩
    · obtain ⟨i, hi, rfl⟩ := List.mem_map.1 hx
      exact (hq i (List.mem_range.1 hi)).2.2.2
    · obtain ⟨b, off, spot⟩ := ad
      have hc := (hq 0 h0).1
      have hspot : spot = none := by simpa [Addr.add] using World.cell?_spot hc
      subst hspot
      refine ⟨b, off, rfl, by simpa [Addr.add] using World.block_lt_of_cell? W _ hc, fun j x hjx => ?_⟩
      rw [List.getElem?_map, Option.map_eq_some_iff] at hjx
      obtain ⟨i, hi, rfl⟩ := hjx
      have hil := (List.getElem?_eq_some_iff.1 hi).1
      have hij : i = j := by rw [List.getElem?_range (by simpa using hil)] at hi; injection hi with hi; exact hi.symm
      subst hij
      obtain ⟨k0, k1, k2, -⟩ := hq i (by simpa using hil)
      have ea : ∀ x : Nat, (⟨b, off, none⟩ : Addr).add x = ⟨b, off + x, none⟩ := fun x => by unfold Addr.add; split <;> simp_all
      have eb : ∀ y x : Nat, (⟨b, y, none⟩ : Addr).add x = ⟨b, y + x, none⟩ := fun y x => by unfold Addr.add; split <;> simp_all
      rw [ea] at k0 k1 k2
      rw [eb] at k1 k2
      exact ⟨k0, k1, k2⟩
theorem IsStp.cells {w wr : World} {a : Option Addr} {l j : Nat} {z : List Stp} (h : IsStp w a l z) (hb : Below w.heap.size w wr) (hj : j < l) : ∃ g o q1 q2 q3, a = some ⟨g, o, none⟩ ∧ g < w.heap.size ∧ z[j]? = some (q1, q2, q3) ∧
    wr.cell? ⟨g, o + j * 3, none⟩ = some (.int .i64 q1) ∧ wr.cell? ⟨g, o + j * 3 + 1, none⟩ = some (.int .i64 q2) ∧ wr.cell? ⟨g, o + j * 3 + 2, none⟩ = some (.int .i64 q3) ∧ (Lit.int .i64 q1).wf = true ∧ (Lit.int .i64 q2).wf = true ∧ (Lit.int .i64 q3).wf = true := by
  obtain ⟨b, o, e, hlt, hc⟩ := h.2.2 (by omega)
  have hlz : j < z.length := by rw [h.1]; exact hj
  have hz : z[j]? = some z[j] := List.getElem?_eq_getElem hlz
  obtain ⟨c1, c2, c3⟩ := hc j _ hz
  have hw := h.2.1 _ (List.mem_of_getElem? hz)
  exact ⟨b, o, z[j].1, z[j].2.1, z[j].2.2, e, hlt, hz, (hb.cell (p := ⟨b, o + j * 3, none⟩) hlt).trans c1, (hb.cell (p := ⟨b, o + j * 3 + 1, none⟩) hlt).trans c2, (hb.cell (p := ⟨b, o + j * 3 + 2, none⟩) hlt).trans c3, hw.1.1, hw.1.2, hw.2⟩
/-- A step, in any world in which what came in lies as it lay. -/
theorem IsStp.step {w : World} {a : Option Addr} {l j : Nat} {z : List Stp} (h : IsStp w a l z) (hj : j < l) : ∃ g o q1 q2 q3, a = some ⟨g, o, none⟩ ∧ g < w.heap.size ∧ z[j]? = some (q1, q2, q3) ∧ (Lit.int .i64 q1).wf = true ∧ (Lit.int .i64 q2).wf = true ∧ (Lit.int .i64 q3).wf = true ∧
    ∀ W, Below w.heap.size w W → W.cell? ⟨g, o + j * 3, none⟩ = some (.int .i64 q1) ∧ W.cell? ⟨g, o + j * 3 + 1, none⟩ = some (.int .i64 q2) ∧ W.cell? ⟨g, o + j * 3 + 2, none⟩ = some (.int .i64 q3) := by
  obtain ⟨b, o, e, hlt, hc⟩ := h.2.2 (by omega)
  have hlz : j < z.length := by rw [h.1]; exact hj
  have hz : z[j]? = some z[j] := List.getElem?_eq_getElem hlz
  obtain ⟨c1, c2, c3⟩ := hc j _ hz
  have hw := h.2.1 _ (List.mem_of_getElem? hz)
  exact ⟨b, o, z[j].1, z[j].2.1, z[j].2.2, e, hlt, hz, hw.1.1, hw.1.2, hw.2, fun W hb => ⟨(hb.cell (p := ⟨b, o + j * 3, none⟩) hlt).trans c1, (hb.cell (p := ⟨b, o + j * 3 + 1, none⟩) hlt).trans c2, (hb.cell (p := ⟨b, o + j * 3 + 2, none⟩) hlt).trans c3⟩⟩
theorem and_low (n : Int) (k : Nat) (hk : k ≤ 16) : bits .and .i64 n ((2 ^ k - 1 : Nat) : Int) = n % ((2 ^ k : Nat) : Int) := by
  have h0 : 2 ^ k ≤ 2 ^ 16 := Nat.pow_le_pow_right (by decide) hk
  have h00 : 0 < 2 ^ k := Nat.pow_pos (by decide)
  have h7 : (BitVec.ofInt 64 ((2 ^ k - 1 : Nat) : Int)).toNat = 2 ^ k - 1 := by
    rw [BitVec.toNat_ofInt]
    omega
  have key : (BitVec.ofInt 64 n &&& BitVec.ofInt 64 ((2 ^ k - 1 : Nat) : Int)).toNat = (n % ((2 ^ 64 : Nat) : Int)).toNat % 2 ^ k := by
    rw [BitVec.toNat_and, BitVec.toNat_ofInt, h7, Nat.and_two_pow_sub_one_eq_mod]
  show IntKind.i64.wrap ((BitVec.ofInt 64 n &&& BitVec.ofInt 64 ((2 ^ k - 1 : Nat) : Int)).toNat : Nat) = n % ((2 ^ k : Nat) : Int)
  rw [key, IntKind.wrap_i64]
  have hd : ((2 ^ k : Nat) : Int) ∣ ((2 ^ 64 : Nat) : Int) := Int.natCast_dvd_natCast.2 (Nat.pow_dvd_pow 2 (by omega))
  have h1 : (((n % ((2 ^ 64 : Nat) : Int)).toNat % 2 ^ k : Nat) : Int) = n % ((2 ^ k : Nat) : Int) := by
    rw [Int.natCast_emod, Int.toNat_of_nonneg (by omega), Int.emod_emod_of_dvd n hd]
  have h2 := Int.emod_lt_of_pos n (show (0 : Int) < ((2 ^ k : Nat) : Int) by omega)
  have h3 := Int.emod_nonneg n (show ((2 ^ k : Nat) : Int) ≠ 0 by omega)
  rw [h1]
  omega
theorem i64_and3 (n : Int) : bits .and .i64 n 3 = n % 4 := by have := and_low n 2 (by decide); simpa using this
/-- A number, none below 0. -/
def absI (c : Int) : Nat := (if c < 0 then -(c + 1) else c).toNat
theorem absI_le {c : Int} (h : (Lit.int .i64 c).wf = true) : absI c ≤ 9223372036854775807 := by
  have := i64_bd h
  unfold absI
  split <;> omega
/-- How many ticks a step lets go by. -/
def tkI (c : Int) : Nat := absI c % 600
theorem tkI_lt (c : Int) : tkI c < 600 := Nat.mod_lt _ (by decide)
set_option maxRecDepth 100000 in
theorem ticks_any (a b c : Int) (h : (Lit.int .i64 c).wf = true) (w : World) : Calls Try.prog 15 #[.agg #[.int .i64 a, .int .i64 b, .int .i64 c]] w fun e w' => e = .returned (.int .i64 (tkI c : Int)) ∧ Tch w w' [] := by
  have hb := i64_bd h
  have HT : Hid (∀ o, Tch w (w.alloc o) []) := Lib.hid (fun o => (Tch.refl w []).alloc o)
  obtain ⟨r, hr⟩ : ∃ r, tkI c = r := ⟨_, rfl⟩
  have hr6 : r < 600 := by rw [← hr]; exact tkI_lt c
  have HR := Lib.hid hr
  have w2 : IntKind.i64.wrap (r : Int) = (r : Int) := by rw [IntKind.wrap_i64]; omega
  by_cases hc : c < 0
  · obtain ⟨y, hy⟩ : ∃ y : Nat, -(c + 1) = (y : Int) := ⟨(-(c + 1)).toNat, by omega⟩
    have w0 : IntKind.i64.wrap (c + 1) = c + 1 := by rw [IntKind.wrap_i64]; omega
    have w1 : IntKind.i64.wrap (-(c + 1)) = (y : Int) := by rw [← hy, IntKind.wrap_i64]; omega
    have r1 : Int.tmod (y : Int) 600 = (r : Int) := by rw [show (600 : Int) = ((600 : Nat) : Int) from rfl, rem_nat, ← hr]; unfold tkI absI; rw [if_pos hc, hy]; rfl
    clear hr hb hy h hr6
    go_enter Try.func15, Try.ntmps15
    go_wp2
    go_ret
    exact ⟨by rw [HR.out]; rfl, HT.out _⟩
  · obtain ⟨y, hy⟩ : ∃ y : Nat, c = (y : Int) := ⟨c.toNat, by omega⟩
    have r1 : Int.tmod (y : Int) 600 = (r : Int) := by rw [show (600 : Int) = ((600 : Nat) : Int) from rfl, rem_nat, ← hr]; unfold tkI absI; rw [if_neg hc, hy]; rfl
    subst hy
    clear hr hb h hr6
    go_enter Try.func15, Try.ntmps15
    go_wp2
    go_ret
    exact ⟨by rw [HR.out]; rfl, HT.out _⟩
/-- A number, none below 0, as the laws reckon it. -/
theorem abs_neg {c : Int} (h : (Lit.int .i64 c).wf = true) (hc : c < 0) : IntKind.i64.wrap (c + 1) = c + 1 ∧ IntKind.i64.wrap (-(c + 1)) = (absI c : Int) := by
  have hb := i64_bd h
  refine ⟨by rw [IntKind.wrap_i64]; omega, ?_⟩
  unfold absI
  rw [if_pos hc, IntKind.wrap_i64]; omega
theorem abs_pos {c : Int} (hc : ¬ c < 0) : c = (absI c : Int) := by
  unfold absI
  rw [if_neg hc]; omega
end Go.Proofs.Ythkjfgegmbdebaa
