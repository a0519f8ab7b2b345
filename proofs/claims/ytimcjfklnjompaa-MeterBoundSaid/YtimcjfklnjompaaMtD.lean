/-
  Draws that came in (layer 18).
-/
import Derived.Test.YtimcjfklnjompaaFrame
import Derived.Test.YtimcjfklnjompaaMtC
import Derived.Deep.SlicePairs
import Derived.Deep.RegionHeld
namespace Go.Proofs.Ytimcjfklnjompaa
open Go.RowKit Go.ChangeShapes Go.WideShapes Go.ChangeAt
set_option linter.unusedVariables false

/-- A slice of steps that came in. -/
abbrev Stp := Bool × Int
def IsStp (w : World) (a : Option Addr) (l : Nat) (z : List Stp) : Prop :=
  z.length = l ∧ (∀ x ∈ z, (Lit.int .i64 x.2).wf = true) ∧ (0 < l → ∃ b o, a = some ⟨b, o, none⟩ ∧ b < w.heap.size ∧ ∀ j x, z[j]? = some x → w.cell? ⟨b, o + j * 2, none⟩ = some (.bool x.1) ∧ w.cell? ⟨b, o + j * 2 + 1, none⟩ = some (.int .i64 x.2))
theorem IsStp.below {w w' : World} {a : Option Addr} {l : Nat} {z : List Stp} (h : IsStp w a l z) (hb : Below w.heap.size w w') : IsStp w' a l z := by
  refine ⟨h.1, h.2.1, fun h0 => ?_⟩
  obtain ⟨b, o, e, hlt, hc⟩ := h.2.2 h0
  refine ⟨b, o, e, by have := hb.size; omega, fun j x hx => ?_⟩
  obtain ⟨c1, c2⟩ := hc j x hx
  exact ⟨(hb.cell (p := ⟨b, o + j * 2, none⟩) hlt).trans c1, (hb.cell (p := ⟨b, o + j * 2 + 1, none⟩) hlt).trans c2⟩
theorem IsStp.cells {w wr : World} {a : Option Addr} {l j : Nat} {z : List Stp} (h : IsStp w a l z) (hb : Below w.heap.size w wr) (hj : j < l) : ∃ g o q1 q2, a = some ⟨g, o, none⟩ ∧ g < w.heap.size ∧ z[j]? = some (q1, q2) ∧
    wr.cell? ⟨g, o + j * 2, none⟩ = some (.bool q1) ∧ wr.cell? ⟨g, o + j * 2 + 1, none⟩ = some (.int .i64 q2) ∧ (Lit.int .i64 q2).wf = true := by
  obtain ⟨b, o, e, hlt, hc⟩ := h.2.2 (by omega)
  have hlz : j < z.length := by rw [h.1]; exact hj
  have hz : z[j]? = some z[j] := List.getElem?_eq_getElem hlz
  obtain ⟨c1, c2⟩ := hc j _ hz
  have hw := h.2.1 _ (List.mem_of_getElem? hz)
  exact ⟨b, o, z[j].1, z[j].2, e, hlt, hz, (hb.cell (p := ⟨b, o + j * 2, none⟩) hlt).trans c1, (hb.cell (p := ⟨b, o + j * 2 + 1, none⟩) hlt).trans c2, hw⟩
theorem stepFields : ∃ f0 f1 : Field, Try.prog.underlying 37 = some (.struct #[f0, f1]) ∧ (f0.type = 4 ∧ f0.offset = 0) ∧ (f1.type = 3 ∧ f1.offset = 1) :=
  ⟨_, _, Try.underlying37, ⟨rfl, rfl⟩, ⟨rfl, rfl⟩⟩
theorem isStp_of {H : Type} {enc : TypeId × Value → H} {W : World} {a : Option Addr} {l c : Nat} {d : DataW H} {p : List MemPlace} (h : DataW.Trod enc Try.prog W 0 (fun _ => true) true 28 (.slice a l c) d p) : ∃ z, IsStp W a l z := by
  obtain ⟨fuel, hf⟩ := h
  obtain ⟨f0, f1, hu, ⟨t0, o0⟩, ⟨t1, o1⟩⟩ := stepFields
  have ce : Try.prog.cellsOf 37 = 2 := by kernel_rfl
  have ci : Try.prog.cellsOf 3 = 1 := by kernel_rfl
  have cb : Try.prog.cellsOf 4 = 1 := by kernel_rfl
  rcases Go.Deep.open_slice Try.underlying28 hf with ⟨hcs, _⟩ | ⟨ad, len, cap, m, n, D, Pl, hcs, _, hl, hm, hmm, _, hx⟩
  · simp [Value.cells] at hcs
    obtain ⟨rfl, rfl, rfl⟩ := hcs
    exact ⟨[], rfl, fun x hx => (by cases hx), fun h0 => absurd h0 (by omega)⟩
  · simp [Value.cells] at hcs
    obtain ⟨rfl, rfl, rfl⟩ := hcs
    simp only [if_true] at hmm
    have each : ∀ i, i < l → ∃ q : Stp, W.cell? (ad.add (i * 2)) = some (.bool q.1) ∧ W.cell? ((ad.add (i * 2)).add 1) = some (.int .i64 q.2) ∧ (Lit.int .i64 q.2).wf = true := by
      intro i hi
      obtain ⟨cs', h1, h2⟩ := hx i (by omega)
      rw [ce] at h1
      obtain ⟨_, hlen, hcell⟩ := World.cells?_some h1
      obtain ⟨y0, y1, n', _, hcl, g0, g1⟩ := Go.ChangeShapes.trod_struct2 hu h2
      rw [t0, o0, cb] at g0
      rw [t1, o1, ci] at g1
      match cs', hlen with
      | [v0, v1], _ =>
        simp only [List.drop_zero, List.take_succ_cons, List.take_zero, List.drop_succ_cons] at g0 g1
        obtain ⟨b0, e0, _⟩ := DataW.trod_bool Try.underlying4 g0
        obtain ⟨b1, e1, _, w1⟩ := DataW.trod_int Try.underlying3 g1
        injection e0 with e0 _
        injection e1 with e1 _
        subst e0 e1
        have k0 := hcell 0 (by omega)
        have k1 := hcell 1 (by omega)
        exact ⟨(b0, b1), by simpa [Addr.add] using k0, by simpa using k1, w1⟩
    obtain ⟨q, hq⟩ := Go.Deep.choose_lt each
    refine ⟨(List.range l).map q, by simp, fun x hx => ?_, fun h0 => ?_⟩
    · obtain ⟨i, hi, rfl⟩ := List.mem_map.1 hx
      exact (hq i (List.mem_range.1 hi)).2.2
    · obtain ⟨b, off, spot⟩ := ad
      have hc := (hq 0 h0).1
      have hspot : spot = none := by simpa [Addr.add] using World.cell?_spot hc
      subst hspot
      refine ⟨b, off, rfl, by simpa [Addr.add] using World.block_lt_of_cell? W _ hc, fun j x hjx => ?_⟩
      rw [List.getElem?_map, Option.map_eq_some_iff] at hjx
      obtain ⟨i, hi, rfl⟩ := hjx
      have hil := (List.getElem?_eq_some_iff.1 hi).1
      have hij : i = j := by rw [List.getElem?_range (by simpa using hil)] at hi; injection hi with hi; exact hi.symm
      subst hij
      obtain ⟨k0, k1, -⟩ := hq i (by simpa using hil)
      have ea : ∀ x : Nat, (⟨b, off, none⟩ : Addr).add x = ⟨b, off + x, none⟩ := fun x => by unfold Addr.add; split <;> simp_all
      have eb : ∀ y x : Nat, (⟨b, y, none⟩ : Addr).add x = ⟨b, y + x, none⟩ := fun y x => by unfold Addr.add; split <;> simp_all
      rw [ea] at k0 k1
      rw [eb] at k1
      exact ⟨k0, k1⟩
/-- A draw, in any world in which what came in lies as it lay. -/
theorem IsStp.step {w : World} {a : Option Addr} {l j : Nat} {z : List Stp} (h : IsStp w a l z) (hj : j < l) : ∃ g o q1 q2, a = some ⟨g, o, none⟩ ∧ g < w.heap.size ∧ z[j]? = some (q1, q2) ∧ (Lit.int .i64 q2).wf = true ∧
    ∀ W, Below w.heap.size w W → W.cell? ⟨g, o + j * 2, none⟩ = some (.bool q1) ∧ W.cell? ⟨g, o + j * 2 + 1, none⟩ = some (.int .i64 q2) := by
  obtain ⟨b, o, e, hlt, hc⟩ := h.2.2 (by omega)
  have hlz : j < z.length := by rw [h.1]; exact hj
  have hz : z[j]? = some z[j] := List.getElem?_eq_getElem hlz
  obtain ⟨c1, c2⟩ := hc j _ hz
  have hw := h.2.1 _ (List.mem_of_getElem? hz)
  exact ⟨b, o, z[j].1, z[j].2, e, hlt, hz, hw, fun W hb => ⟨(hb.cell (p := ⟨b, o + j * 2, none⟩) hlt).trans c1, (hb.cell (p := ⟨b, o + j * 2 + 1, none⟩) hlt).trans c2⟩⟩
theorem and_low (n : Int) (k : Nat) (hk : k ≤ 16) : bits .and .i64 n ((2 ^ k - 1 : Nat) : Int) = n % ((2 ^ k : Nat) : Int) := by
  have h0 : 2 ^ k ≤ 2 ^ 16 := Nat.pow_le_pow_right (by decide) hk
  have h00 : 0 < 2 ^ k := Nat.pow_pos (by decide)
  have h7 : (BitVec.ofInt 64 ((2 ^ k - 1 : Nat) : Int)).toNat = 2 ^ k - 1 := by
    rw [BitVec.toNat_ofInt]
    omega
  have key : (BitVec.ofInt 64 n &&& BitVec.ofInt 64 ((2 ^ k - 1 : Nat) : Int)).toNat = (n % ((2 ^ 64 : Nat) : Int)).toNat % 2 ^ k := by
    rw [BitVec.toNat_and, BitVec.toNat_ofInt, h7, Nat.and_two_pow_sub_one_eq_mod]
  show IntKind.i64.wrap ((BitVec.ofInt 64 n &&& BitVec.ofInt 64 ((2 ^ k - 1 : Nat) : Int)).toNat : Nat) = n % ((2 ^ k : Nat) : Int)
  rw [key, IntKind.wrap_i64]
  have hd : ((2 ^ k : Nat) : Int) ∣ ((2 ^ 64 : Nat) : Int) := Int.natCast_dvd_natCast.2 (Nat.pow_dvd_pow 2 (by omega))
  have h1 : (((n % ((2 ^ 64 : Nat) : Int)).toNat % 2 ^ k : Nat) : Int) = n % ((2 ^ k : Nat) : Int) := by
    rw [Int.natCast_emod, Int.toNat_of_nonneg (by omega), Int.emod_emod_of_dvd n hd]
  have h2 := Int.emod_lt_of_pos n (show (0 : Int) < ((2 ^ k : Nat) : Int) by omega)
  have h3 := Int.emod_nonneg n (show ((2 ^ k : Nat) : Int) ≠ 0 by omega)
  rw [h1]
  omega
theorem i64_and1023 (n : Int) : bits .and .i64 n 1023 = n % 1024 := by have := and_low n 10 (by decide); simpa using this
theorem ti_bd {r b l : Int} (hr : 0 ≤ r) (h : 0 ≤ l ∧ l ≤ b) : 0 ≤ tiL r b l ∧ tiL r b l ≤ b ∧ tiL r b l ≤ l + r := by unfold tiL; split <;> omega
theorem tk_bd {b l : Int} (n : Int) (h : 0 ≤ l ∧ l ≤ b) : 0 ≤ tkL l n ∧ tkL l n ≤ b := by unfold tkL; split <;> omega
/-- What stands of a bucket in a law that began at w. -/
structure BStd (w wr : World) (p : Nat) (r b l : Int) : Prop where
  bk : BkI wr p r b l
  bel : Below w.heap.size w wr
  abv : w.heap.size ≤ p
  bd : 0 ≤ l ∧ l ≤ b
  rb : (0 ≤ r ∧ r ≤ 1048576) ∧ b ≤ 1048576
theorem BStd.drewN {w wr : World} {p : Nat} {r b l : Int} (h : BStd w wr p r b l) (n : Nat) : BStd w (wr.drewN n) p r b l := ⟨h.bk.drewN n, below_drewN h.bel n, h.abv, h.bd, h.rb⟩
theorem BStd.drew {w wr : World} {p : Nat} {r b l : Int} (h : BStd w wr p r b l) : BStd w wr.drew p r b l := h.drewN 1
theorem BStd.go {w wr w' : World} {p : Nat} {r b l l' : Int} (h : BStd w wr p r b l) (hk : BkI w' p r b l') (ht : Tch wr w' [p]) (hb : 0 ≤ l' ∧ l' ≤ b) : BStd w w' p r b l' :=
  ⟨hk, h.bel.trans (ht.below h.bel.size (by simp; exact h.abv)), h.abv, hb, h.rb⟩
theorem BStd.take {w wr : World} {p : Nat} {r b l : Int} (h : BStd w wr p r b l) (n : Int) : Calls Try.prog 13 #[ptrV p, .int .i64 n] wr fun e w' => e = .returned (.bool (tkB l n)) ∧ BStd w w' p r b (tkL l n) ∧ Tch wr w' [p] := by
  refine (take_any h.bk (by have := h.bd; have := h.rb; omega) n).mono ?_
  rintro e w' ⟨rfl, h1, h2⟩
  exact ⟨rfl, h.go h1 h2 (tk_bd n h.bd), h2⟩
theorem BStd.tick {w wr : World} {p : Nat} {r b l : Int} (h : BStd w wr p r b l) : Calls Try.prog 11 #[ptrV p] wr fun e w' => e = .returned (.tuple #[]) ∧ BStd w w' p r b (tiL r b l) ∧ Tch wr w' [p] := by
  refine (tick_any h.bk (by have := h.bd; have := h.rb; omega) (by have := h.rb; omega)).mono ?_
  rintro e w' ⟨rfl, h1, h2⟩
  have h3 := ti_bd h.rb.1.1 h.bd
  exact ⟨rfl, h.go h1 h2 ⟨h3.1, h3.2.1⟩, h2⟩
theorem BStd.level {w wr : World} {p : Nat} {r b l : Int} (h : BStd w wr p r b l) : Calls Try.prog 15 #[ptrV p] wr fun e w' => e = .returned (.int .i64 l) ∧ w' = wr := level_any h.bk
theorem bucketS {w wr : World} (hb : Below w.heap.size w wr) (r b : Int) (h : (rtB r && rtB b) = true) : Calls Try.prog 10 #[.int .i64 r, .int .i64 b] wr fun e w' => ∃ p, e = .returned (.tuple #[ptrV p, .int .i64 0]) ∧ BStd w w' p r b b := by
  obtain ⟨h1, h2⟩ : rtB r = true ∧ rtB b = true := by simpa using h
  rw [rt_iff] at h1 h2
  refine (bucket_ok wr r b h).mono ?_
  rintro e w' ⟨p, rfl, hk, hp, ht⟩
  exact ⟨p, rfl, hk, hb.trans (ht.below hb.size (by simp)), Nat.le_trans hb.size hp, by omega, by omega⟩
end Go.Proofs.Ytimcjfklnjompaa
