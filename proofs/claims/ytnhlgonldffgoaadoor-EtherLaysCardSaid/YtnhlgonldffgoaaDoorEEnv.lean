/-
  What the package-level table of places holds: out of what the row lists.
-/
import Derived.Test.YtnhlgonldffgoaaDoorENum
import Derived.Test.YtnhlgonldffgoaaDoorFrame
import Derived.Test.YtnhlgonldffgoaaDoorTie
import Derived.Test.YtnhlgonldffgoaaDoorCards
import Derived.Lib.LaidTab
import Derived.Stop.LaidErr
import Derived.LaidLaws
import Derived.Deep.DeepHandedRow
import Derived.Lay
import Derived.SevenTiedAt
namespace Go.Proofs.YtnhlgonldffgoaaDoor
open Go.RowKit
set_option linter.unusedVariables false

section
open Go.Lib
theorem pair_of_trod {H : Type} {enc : TypeId × Value → H} {P : Program} {w : World} {base : Nat} {sp : Nat → Bool} {held : Bool} {fuel : Nat} {e ti : TypeId} {fs : Array Field} {f0 f1 : Field} {k : IntKind} {cs : List Value} {a b : Int} {p : List MemPlace}
    (he : P.underlying e = some (.struct fs)) (hfs : fs.toList = [f0, f1]) (h0 : f0.type = ti ∧ f0.offset = 0) (h1 : f1.type = ti ∧ f1.offset = 1) (hce : P.cellsOf e = 2) (hti : P.underlying ti = some (.int k)) (hci : P.cellsOf ti = 1)
    (h : DataW.trod enc P w base sp held fuel e cs = some (.agg [.lit (.int k a), .lit (.int k b)], p)) : cs = [.int k a, .int k b] := by
  cases fuel with
  | zero => simp [DataW.trod] at h
  | succ fuel =>
    simp only [DataW.trod, he, hce] at h
    split at h
    · rename_i hl
      obtain ⟨xs, hm, hx⟩ := Option.map_eq_some_iff.1 h
      rw [hfs] at hm
      simp only [List.mapM_cons, List.mapM_nil, h0.1, h0.2, h1.1, h1.2, hci, bind, Option.bind_eq_some_iff, pure, Option.some.injEq] at hm
      obtain ⟨x0, e0, ys, ⟨x1, e1, zs, rfl, rfl⟩, rfl⟩ := hm
      obtain ⟨z0, c0, rfl, _⟩ := DataW.trod_int hti e0
      obtain ⟨z1, c1, rfl, _⟩ := DataW.trod_int hti e1
      simp at hx
      obtain ⟨⟨rfl, rfl⟩, -⟩ := hx
      match cs, hl with
      | [x, y], _ => simpa using And.intro c0 c1
    · cases h
theorem cells_of_pairs {H : Type} {enc : TypeId × Value → H} {P : Program} {w : World} {base : Nat} {sp : Nat → Bool} {held : Bool} {fuel : Nat} {t e ti : TypeId} {n : Nat} {fs : Array Field} {f0 f1 : Field} {k : IntKind} {cs : List Value} {zs : List (Int × Int)} {p : List MemPlace}
    (ht : P.underlying t = some (.array n e)) (he : P.underlying e = some (.struct fs)) (hfs : fs.toList = [f0, f1]) (h0 : f0.type = ti ∧ f0.offset = 0) (h1 : f1.type = ti ∧ f1.offset = 1) (hce : P.cellsOf e = 2) (hct : P.cellsOf t = n * 2) (hti : P.underlying ti = some (.int k)) (hci : P.cellsOf ti = 1)
    (h : DataW.trod enc P w base sp held fuel t cs = some (.agg (zs.map fun z => .agg [.lit (.int k z.1), .lit (.int k z.2)]), p)) : zs.length = n ∧ cs.length = n * 2 ∧ ∀ (i : Nat) (z : Int × Int), zs[i]? = some z → cs[i * 2]? = some (.int k z.1) ∧ cs[i * 2 + 1]? = some (.int k z.2) := by
  cases fuel with
  | zero => simp [DataW.trod] at h
  | succ fuel =>
    simp only [DataW.trod, ht, hce, hct] at h
    split at h
    · rename_i hl
      obtain ⟨xs, hm, hx⟩ := Option.map_eq_some_iff.1 h
      have hxs : xs.map (·.1) = zs.map fun z => (DataW.agg [.lit (.int k z.1), .lit (.int k z.2)] : DataW H) := by
        have := congrArg Prod.fst hx
        simpa using this
      have hxl : xs.length = n := by simpa using mapM_length hm
      have hzl : zs.length = n := by
        have := congrArg List.length hxs
        simp at this
        omega
      refine ⟨hzl, hl, fun i z hz => ?_⟩
      have hi : i < n := by rw [← hzl]; exact (List.getElem?_eq_some_iff.1 hz).1
      obtain ⟨b, hb, hf⟩ := mapM_at hm i i (by simp [hi])
      have h2 : (xs.map (·.1))[i]? = some b.1 := by simp [hb]
      rw [hxs, List.getElem?_map, hz] at h2
      simp only [Option.map_some, Option.some.injEq] at h2
      obtain ⟨b1, b2⟩ := b
      simp only at h2
      subst h2
      have hc := pair_of_trod he hfs h0 h1 hce hti hci hf
      have g0 := congrArg (·[0]?) hc
      have g1 := congrArg (·[1]?) hc
      simp [List.getElem?_drop] at g0 g1
      exact ⟨g0, g1⟩
    · cases h
end
theorem gPlc : Tryd.prog.globalNamed "crossway/ether.places" = some 0 := by kernel_rfl
theorem tPlc : (Tryd.prog.globals[0]?).map (·.type) = some 94 := by kernel_rfl
/-- The places and widths of the numbers of a message. -/
def plc : List (Int × Int) := [(0, 2), (2, 2), (4, 1), (5, 1), (6, 2), (8, 6), (14, 4), (18, 6), (24, 4)]
def plcCells : Array Value := #[.int .i64 0, .int .i64 2, .int .i64 2, .int .i64 2, .int .i64 4, .int .i64 1, .int .i64 5, .int .i64 1, .int .i64 6, .int .i64 2, .int .i64 8, .int .i64 6, .int .i64 14, .int .i64 4, .int .i64 18, .int .i64 6, .int .i64 24, .int .i64 4]

/-- What the calls read of the variable. -/
def EnvE (w : World) : Prop := w.var? Tryd.prog "crossway/ether.places" = some plcCells
theorem EnvE.below {w w' : World} (h : EnvE w) (hb : Below w.heap.size w w') : EnvE w' := by
  unfold EnvE World.var? at h ⊢
  rw [gPlc] at h ⊢
  simp only [Option.bind_some] at h ⊢
  have hlt : 0 < w.heap.size := by
    rcases Nat.lt_or_ge 0 w.heap.size with h' | h'
    · exact h'
    · rw [Array.getElem?_eq_none h'] at h; cases h
  rw [hb.block _ hlt]
  exact h
theorem EnvE.alloc {w : World} (h : EnvE w) (o : Obj) : EnvE (w.alloc o) := h.below ((Below.refl _ _).alloc (Nat.le_refl _) _)
theorem EnvE.cell {w : World} (h : EnvE w) (i : Nat) : w.cell? ⟨0, i, none⟩ = plcCells[i]? := World.var?_cell gPlc h i
theorem EnvE.lt {w : World} (h : EnvE w) : 0 < w.heap.size := by
  unfold EnvE World.var? at h
  rw [gPlc] at h
  simp only [Option.bind_some] at h
  rcases Nat.lt_or_ge 0 w.heap.size with h' | h'
  · exact h'
  · rw [Array.getElem?_eq_none h'] at h; cases h
theorem placeFields : ∃ fs f0 f1, Tryd.prog.underlying 93 = some (.struct fs) ∧ fs.toList = [f0, f1] ∧ (f0.type = 3 ∧ f0.offset = 0) ∧ (f1.type = 3 ∧ f1.offset = 1) :=
  ⟨_, _, _, Tryd.underlying93, rfl, ⟨rfl, rfl⟩, ⟨rfl, rfl⟩⟩
set_option maxRecDepth 100000 in
theorem envE_of {W : World} (hL : laidMet Tryd.prog Rows.etherLaysRow.laid W) : EnvE W := by
  obtain ⟨ps, ⟨g', t', cs, fuel, p, q, hg', ht', hvar, hd, _, _⟩, _⟩ := hL
  obtain rfl := Option.some.inj (gPlc.symm.trans hg')
  obtain rfl := Option.some.inj (tPlc.symm.trans ht')
  obtain ⟨fs, f0, f1, u1, u2, u3, u4⟩ := placeFields
  obtain ⟨_, hl, hc⟩ := cells_of_pairs (zs := plc) (n := 9) Tryd.underlying94 u1 u2 u3 u4 (by kernel_rfl) (by kernel_rfl) Tryd.underlying3 (by kernel_rfl) hd
  have e : cs.toList = plcCells.toList := by
    apply List.ext_getElem?
    intro i
    by_cases hi : i < 18
    · have h := hc (i / 2) ((plc[i / 2]?).getD (0, 0)) (by
        rcases (show i / 2 = 0 ∨ i / 2 = 1 ∨ i / 2 = 2 ∨ i / 2 = 3 ∨ i / 2 = 4 ∨ i / 2 = 5 ∨ i / 2 = 6 ∨ i / 2 = 7 ∨ i / 2 = 8 by omega) with h | h | h | h | h | h | h | h | h <;> rw [h] <;> rfl)
      rcases (show i = 0 ∨ i = 1 ∨ i = 2 ∨ i = 3 ∨ i = 4 ∨ i = 5 ∨ i = 6 ∨ i = 7 ∨ i = 8 ∨ i = 9 ∨ i = 10 ∨ i = 11 ∨ i = 12 ∨ i = 13 ∨ i = 14 ∨ i = 15 ∨ i = 16 ∨ i = 17 by omega) with rfl | rfl | rfl | rfl | rfl | rfl | rfl | rfl | rfl | rfl | rfl | rfl | rfl | rfl | rfl | rfl | rfl | rfl
      all_goals first | exact h.1 | exact h.2
    · rw [List.getElem?_eq_none (by omega), List.getElem?_eq_none (by show 18 ≤ i; omega)]
  have e2 : cs = plcCells := Array.toList_inj.1 e
  rw [e2] at hvar
  exact hvar
end Go.Proofs.YtnhlgonldffgoaaDoor
