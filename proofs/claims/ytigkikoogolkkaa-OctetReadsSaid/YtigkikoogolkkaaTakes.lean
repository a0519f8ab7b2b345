/-
  What a slice of Takes (a bool and an int each) that came in reads as.
-/
import Derived.Test.YtigkikoogolkkaaRefPut
import Derived.Deep.SlicePairs
import Derived.SizedLaws
namespace Go.Proofs.Ytigkikoogolkkaa
open Go.ChangeShapes Go.WideShapes Go.ChangeAt Go.RowKit Go.Deep
set_option linter.unusedVariables false

/-- A slice of Takes reads as these pairs; its cells lie below block B. -/
def TK (w : World) (B : Nat) (A : Option Addr) (n : Nat) (l : List (Bool × Int)) : Prop :=
  l.length = n ∧ (∀ p ∈ l, (Lit.int .i64 p.2).wf = true) ∧
  (0 < n → ∃ b o, A = some ⟨b, o, none⟩ ∧ b < B ∧ ∀ j p, l[j]? = some p → w.cell? ⟨b, o + j * 2, none⟩ = some (.bool p.1) ∧ w.cell? ⟨b, o + j * 2 + 1, none⟩ = some (.int .i64 p.2))

theorem TK.below {w w' : World} {B n : Nat} {A : Option Addr} {l : List (Bool × Int)} (h : TK w B A n l) (hb : Below B w w') : TK w' B A n l :=
  ⟨h.1, h.2.1, fun hn => by
    obtain ⟨b, o, e, hB, hc⟩ := h.2.2 hn
    exact ⟨b, o, e, hB, fun j p hp => ⟨(hb.cell (p := ⟨b, o + j * 2, none⟩) hB).trans (hc j p hp).1, (hb.cell (p := ⟨b, o + j * 2 + 1, none⟩) hB).trans (hc j p hp).2⟩⟩⟩

theorem TK.at_ {w : World} {B n j : Nat} {A : Option Addr} {l : List (Bool × Int)} (h : TK w B A n l) (hj : j < n) :
    ∃ b o p, A = some ⟨b, o, none⟩ ∧ b < B ∧ l[j]? = some p ∧ (Lit.int .i64 p.2).wf = true ∧ w.cell? ⟨b, o + j * 2, none⟩ = some (.bool p.1) ∧ w.cell? ⟨b, o + j * 2 + 1, none⟩ = some (.int .i64 p.2) := by
  obtain ⟨b, o, e, hB, hc⟩ := h.2.2 (by omega)
  have hl : j < l.length := by have := h.1; omega
  have hg : l[j]? = some l[j] := List.getElem?_eq_getElem hl
  exact ⟨b, o, l[j], e, hB, hg, h.2.1 _ (List.getElem_mem hl), hc j _ hg⟩

theorem plain_add (b o i : Nat) : (⟨b, o, none⟩ : Addr).add i = ⟨b, o + i, none⟩ := by
  unfold Addr.add
  split
  · simp
  · rfl

theorem open_takes {H : Type} {enc : TypeId × Value → H} {w : World} {base : Nat} {held : Bool} {fuel : Nat} {a : Option Addr} {len cap : Nat} {x : DataW H × List MemPlace}
    (h : DataW.trod enc Try.prog w base (fun _ => true) held fuel 32 [.slice a len cap] = some x) :
    ∃ l, TK w w.heap.size a len l ∧ len ≤ cap ∧ cap ≤ 9223372036854775807 := by
  rcases open_slice_pairs Try.underlying32 Try.underlying38 (by kernel_rfl) rfl rfl (by kernel_rfl) (by kernel_rfl) h with ⟨hcs, _⟩ | ⟨x, l, c, m, n, V0, V1, D0, D1, P0, P1, hcs, _, hl, hm, hmm, _, hi⟩
  · simp at hcs
    obtain ⟨rfl, rfl, rfl⟩ := hcs
    exact ⟨[], ⟨rfl, (fun _ h => by cases h), fun h => absurd h (by omega)⟩, Nat.le_refl _, by omega⟩
  · simp at hcs
    obtain ⟨rfl, rfl, rfl⟩ := hcs
    have hlm : len ≤ m := by rw [hmm]; simp; omega
    have hp : ∀ i, i < m → ∃ p : Bool × Int, V0 i = .bool p.1 ∧ V1 i = .int .i64 p.2 ∧ (Lit.int .i64 p.2).wf = true := fun i him => by
      obtain ⟨_, _, t0, t1⟩ := hi i him
      obtain ⟨y, e0, _⟩ := DataW.trod_bool Try.underlying4 t0
      obtain ⟨z, e1, _, wz⟩ := DataW.trod_int Try.underlying3 t1
      injection e0 with e0
      injection e1 with e1
      exact ⟨(y, z), e0, e1, wz⟩
    obtain ⟨f, hf⟩ := choose_lt hp
    refine ⟨(List.range len).map f, ⟨by simp, fun p hp => ?_, fun hn => ?_⟩, hl, hm⟩
    · obtain ⟨i, h1, rfl⟩ := List.mem_map.1 hp
      exact (hf i (by have := List.mem_range.1 h1; omega)).2.2
    · obtain ⟨c0, _⟩ := hi 0 (by omega)
      obtain ⟨b, off, spot⟩ := x
      have hspot : spot = none := by simpa [Addr.add] using World.cell?_spot c0
      subst hspot
      refine ⟨b, off, rfl, by simpa [block_of_add] using block_lt_of_cell c0, fun j p hj => ?_⟩
      have hjl : j < len := by have := (List.getElem?_eq_some_iff.1 hj).1; simpa using this
      obtain ⟨h0, h1, _⟩ := hi j (by omega)
      rw [plain_add] at h0 h1
      have e : p = f j := by
        rw [List.getElem?_map, List.getElem?_range hjl] at hj
        injection hj with hj
        exact hj.symm
      rw [e, ← (hf j (by omega)).1, ← (hf j (by omega)).2.1]
      exact ⟨h0, h1⟩
end Go.Proofs.Ytigkikoogolkkaa
