/-
  What a slice of slices of integers that came in reads as, and how much it holds: for the laws' second form.
-/
import Derived.Test.YtelkjcgfielbpaaFrame
import Derived.Deep.Matrix
namespace Go.Proofs.Ytelkjcgfielbpaa
open Go.ChangeShapes Go.WideShapes Go.ChangeAt Go.RowKit Go.Deep
set_option linter.unusedVariables false

theorem bulk_mem {H : Type} {d : DataW H} {l : List (DataW H)} (h : d ∈ l) : Rows.uptoBulk d ≤ Rows.uptoBulkAll l := by
  induction l with
  | nil => cases h
  | cons x r ih =>
    simp only [Rows.uptoBulkAll]
    rcases List.mem_cons.1 h with e | e
    · subst e; omega
    · have := ih e; omega
theorem bulk_le {H : Type} {d : DataW H} {l : List (DataW H)} (hk : Rows.uptoSmall H l = true) (h : d ∈ l) : Rows.uptoBulk d ≤ 1048576 := by
  have h1 : Rows.uptoBulkAll l ≤ 1048576 := by simpa [Rows.uptoSmall] using hk
  exact Nat.le_trans (bulk_mem h) h1
theorem bulk_lits {H : Type} (k : IntKind) (zs : List Int) : Rows.uptoBulkAll (H := H) (lits k zs) = zs.length := by
  induction zs with
  | nil => rfl
  | cons z r ih =>
    show Rows.uptoBulk (DataW.lit (.int k z)) + Rows.uptoBulkAll (lits k r) = r.length + 1
    rw [ih]
    simp [Rows.uptoBulk]; omega
theorem bulk_map {H : Type} {f : Nat → DataW H} {g : Nat → List Int} : ∀ rs : List Nat, (∀ r ∈ rs, (g r).length + 1 ≤ Rows.uptoBulk (f r)) → rs.length + (rs.map g).flatten.length ≤ Rows.uptoBulkAll (rs.map f)
  | [], _ => by simp [Rows.uptoBulkAll]
  | r :: rs, h => by
    have h1 := h r (List.mem_cons_self ..)
    have h2 := bulk_map rs fun x hx => h x (List.mem_cons_of_mem _ hx)
    simp only [List.map_cons, List.flatten_cons, List.length_append, List.length_cons, Rows.uptoBulkAll]
    omega

/-- A slice of slices of integers that came in. -/
def IsRows (k : IntKind) (W : World) (a : Option Addr) (l c : Nat) (z : List (List Int)) : Prop :=
  z.length = l ∧ (a = none → c = 0) ∧ l ≤ c ∧ (0 < l → ∃ b o, a = some ⟨b, o, none⟩ ∧ b < W.heap.size ∧ ∀ j zs, z[j]? = some zs → ∃ A n cc, W.cell? ⟨b, o + j, none⟩ = some (.slice A n cc) ∧ RI k W W.heap.size A n zs ∧ (A = none → cc = 0) ∧ n ≤ cc)

section
variable {H : Type} {enc : TypeId × Value → H} {W : World}
theorem isRows_of {k : IntKind} {t m e : TypeId} {a : Option Addr} {l c : Nat} {d : DataW H} {p : List MemPlace} (ht : Try.prog.underlying t = some (.slice m)) (hm : Try.prog.underlying m = some (.slice e)) (he : Try.prog.underlying e = some (.int k)) (c1 : Try.prog.cellsOf m = 1) (c2 : Try.prog.cellsOf e = 1)
    (h : DataW.Trod enc Try.prog W 0 (fun _ => true) true t (.slice a l c) d p) : ∃ z, IsRows k W a l c z ∧ l + z.flatten.length ≤ Rows.uptoBulk d := by
  obtain ⟨fuel, hf⟩ := h
  rcases open_int_rows ht hm he c1 c2 hf with ⟨hcs, hx⟩ | ⟨x, len, cap, A, L, C, Z, hcs, _, hl, hcm, hx, hall⟩
  · simp [Value.cells] at hcs
    obtain ⟨rfl, rfl, rfl⟩ := hcs
    exact ⟨[], ⟨rfl, fun _ => rfl, Nat.le_refl _, fun h => absurd h (by omega)⟩, by simp⟩
  · simp [Value.cells] at hcs
    obtain ⟨rfl, rfl, rfl⟩ := hcs
    simp only [Prod.mk.injEq] at hx
    have each : ∀ r, r < c → IsRow k W (A r) (L r) (C r) (Z r) := by
      intro r hr
      obtain ⟨_, h1, h2, h3, h4, h5, h6⟩ := hall r hr
      cases hA : A r with
      | none =>
        have h0 := h5 hA
        exact .inl ⟨rfl, by omega, h0, List.eq_nil_of_length_eq_zero (by omega)⟩
      | some a' =>
        obtain ⟨_, hc⟩ := h6 a' hA
        exact .inr ⟨a', rfl, h1, h2, h3, fun i hi => hc i (by omega), h4⟩
    refine ⟨(List.range l).map fun r => (Z r).take (L r), ⟨by simp, (fun h => by cases h), hl, fun h0 => ?_⟩, ?_⟩
    · obtain ⟨b, off, spot⟩ := x
      have hc0 := (hall 0 (by omega)).1
      have hspot : spot = none := by simpa [Addr.add] using World.cell?_spot hc0
      subst hspot
      refine ⟨b, off, rfl, by simpa [block_of_add] using block_lt_of_cell hc0, fun j zs hj => ?_⟩
      rw [List.getElem?_map, Option.map_eq_some_iff] at hj
      obtain ⟨r, hr, rfl⟩ := hj
      obtain ⟨hr1, hr2⟩ := List.getElem?_eq_some_iff.1 hr
      simp at hr1 hr2
      subst hr2
      have hc1 := hall j (by omega)
      refine ⟨A j, L j, C j, ?_, (each j (by omega)).ri.1, hc1.2.2.2.2.2.1, hc1.2.1⟩
      rw [← hc1.1]
      by_cases hj0 : j = 0
      · subst hj0; simp [Addr.add]
      · simp [Addr.add, hj0]
    · rw [hx.1]
      have h1 := bulk_map (H := H) (f := fun r => intRow k (A r) (L r) (Z r)) (g := fun r => (Z r).take (L r)) (List.range l) (fun r hr => by
        have hr' : r < c := by have := List.mem_range.1 hr; omega
        obtain ⟨_, h1, h2, h3, h4, h5, h6⟩ := hall r hr'
        cases hA : A r with
        | none =>
          have h0 := h5 hA
          simp [intRow, Rows.uptoBulk, List.eq_nil_of_length_eq_zero (show (Z r).length = 0 by omega)]
        | some a' =>
          simp only [intRow, Rows.uptoBulk, bulk_lits]
          omega)
      simp only [List.length_range] at h1
      simp only [Rows.uptoBulk]
      omega
end
end Go.Proofs.Ytelkjcgfielbpaa
