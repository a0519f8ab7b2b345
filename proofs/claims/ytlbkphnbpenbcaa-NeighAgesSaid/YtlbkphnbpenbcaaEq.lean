/-
  '==' of two plain values of one type: whether they read the same.
-/
import Derived.Test.YtlbkphnbpenbcaaWords
import Derived.Test.YtlbkphnbpenbcaaRows
import Derived.DeepKeys
namespace Go.Proofs.Ytlbkphnbpenbcaa
open Go.RowKit
set_option linter.unusedVariables false

theorem eq_yes {t : TypeId} {x y : Value} {lx ly : List Lit} (D m d : Nat) (e : d + m = 10000) (hk : Try.prog.keyTypeAt m t = true) (fx : x.formed Try.prog t = true) (fy : y.formed Try.prog t = true)
    (hx : Try.prog.keyLits D t x.cells.toList = some lx) (hy : Try.prog.keyLits D t y.cells.toList = some ly) (h : lx = ly) (W : World) :
    (Op.equalIn 10000 t x y).run Try.prog W = .ok true W := by
  obtain ⟨r, hr, hi⟩ := run_equalIn_deep d m t hk W D D x y lx ly fx fy hx hy
  rw [e] at hr
  rw [hr, hi.2 h]
theorem eq_no {t : TypeId} {x y : Value} {lx ly : List Lit} (D m d : Nat) (e : d + m = 10000) (hk : Try.prog.keyTypeAt m t = true) (fx : x.formed Try.prog t = true) (fy : y.formed Try.prog t = true)
    (hx : Try.prog.keyLits D t x.cells.toList = some lx) (hy : Try.prog.keyLits D t y.cells.toList = some ly) (h : lx ≠ ly) (W : World) :
    (Op.equalIn 10000 t x y).run Try.prog W = .ok false W := by
  obtain ⟨r, hr, hi⟩ := run_equalIn_deep d m t hk W D D x y lx ly fx fy hx hy
  rw [e] at hr
  cases r
  · exact hr
  · exact absurd (hi.1 rfl) h

theorem mapM_some' {α β : Type} {f : α → Option β} {g : α → β} : ∀ {l : List α}, (∀ a ∈ l, f a = some (g a)) → l.mapM f = some (l.map g)
  | [], _ => rfl
  | a :: l, h => by
    rw [List.mapM_cons, h a (by simp), mapM_some' fun b hb => h b (by simp [hb])]
    rfl
theorem flatten_ones {α : Type} (f : Int → α) : ∀ (n : Nat) (zs : List Int), zs.length = n → ((List.range n).map fun i => [f (zs.getD i 0)]).flatten = zs.map f
  | 0, zs, h => by rw [List.eq_nil_of_length_eq_zero h]; rfl
  | n + 1, zs, h => by
    have hne : zs ≠ [] := by intro e; simp [e] at h
    obtain ⟨m, z, rfl⟩ : ∃ m z, zs = m ++ [z] := ⟨zs.dropLast, zs.getLast hne, (List.dropLast_concat_getLast hne).symm⟩
    have hm : m.length = n := by simpa using h
    have ih := flatten_ones f n m hm
    rw [List.range_succ, List.map_append, List.flatten_append, List.map_append, ← ih]
    congr 1
    · congr 1
      refine List.map_congr_left fun i hi => ?_
      have : i < m.length := by rw [hm]; exact List.mem_range.1 hi
      simp [List.getD_eq_getElem?_getD, List.getElem?_append_left this]
    · subst hm
      simp [List.getD_eq_getElem?_getD]
theorem keyLits_ints {q : IntKind} {t e : TypeId} {n : Nat} (ht : Try.prog.underlying t = some (.array n e)) (he : Try.prog.underlying e = some (.int q)) (hce : Try.prog.cellsOf e = 1) (hct : Try.prog.cellsOf t = n) (zs : List Int) (hl : zs.length = n) (hw : ∀ z ∈ zs, (Lit.int q z).wf = true) :
    Try.prog.keyLits 2 t (zs.map (Value.int q)) = some (zs.map (Lit.int q)) := by
  unfold Program.keyLits
  simp only [ht, hce, hct, List.length_map, hl, if_true, Nat.mul_one]
  rw [mapM_some' (g := fun i => [Lit.int q (zs.getD i 0)]) (fun i hi => ?_)]
  · simp only [Option.map_some, Option.some.injEq]
    exact flatten_ones (Lit.int q) n zs hl
  · have hi' : i < zs.length := by rw [hl]; exact List.mem_range.1 hi
    have e1 : ((zs.map (Value.int q)).drop i).take 1 = [Value.int q (zs.getD i 0)] := by
      rw [List.drop_eq_getElem_cons (by simpa using hi')]
      simp [List.getD_eq_getElem?_getD, hi']
    rw [e1]
    unfold Program.keyLits
    simp only [he]
    rw [if_pos ⟨trivial, hw _ (by rw [List.getD_eq_getElem?_getD, List.getElem?_eq_getElem hi']; exact List.getElem_mem hi')⟩]
/-- '==' of two arrays of integers. -/
theorem eq_ints {q : IntKind} {t e : TypeId} {n : Nat} (ht : Try.prog.underlying t = some (.array n e)) (he : Try.prog.underlying e = some (.int q)) (hce : Try.prog.cellsOf e = 1) (hct : Try.prog.cellsOf t = n) (hk : Try.prog.keyTypeAt 3 t = true)
    (xs ys : List Int) (hx : xs.length = n) (hy : ys.length = n) (wx : ∀ z ∈ xs, (Lit.int q z).wf = true) (wy : ∀ z ∈ ys, (Lit.int q z).wf = true) {b : Bool} (hb : decide (xs = ys) = b) (W : World) :
    (Op.equalIn 10000 t (.agg (xs.map (Value.int q)).toArray) (.agg (ys.map (Value.int q)).toArray)).run Try.prog W = .ok b W := by
  have kx := keyLits_ints ht he hce hct xs hx wx
  have ky := keyLits_ints ht he hce hct ys hy wy
  have fx : ∀ l : List Int, l.length = n → (Value.agg (l.map (Value.int q)).toArray).formed Try.prog t = true := fun l hl => by
    unfold Value.formed
    simp [ht, hct, hl]
  have inj : xs.map (Lit.int q) = ys.map (Lit.int q) ↔ xs = ys := List.map_inj_right (fun _ _ h => by injection h)
  by_cases h : xs = ys
  · have hb1 : b = true := by rw [← hb]; simp [h]
    rw [hb1]
    exact eq_yes 2 3 9997 rfl hk (fx xs hx) (fx ys hy) (by simpa [Value.cells] using kx) (by simpa [Value.cells] using ky) (inj.2 h) W
  · have hb1 : b = false := by rw [← hb]; simp [h]
    rw [hb1]
    exact eq_no 2 3 9997 rfl hk (fx xs hx) (fx ys hy) (by simpa [Value.cells] using kx) (by simpa [Value.cells] using ky) (fun e => h (inj.1 e)) W
end Go.Proofs.Ytlbkphnbpenbcaa
