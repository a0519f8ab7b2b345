/-
  The laws' own helpers (layer 12): a step that came in; a row of texts.
-/
import Derived.Test.YtogbchahfkphoaaRgW
import Derived.Test.YtogbchahfkphoaaRgS
import Derived.Test.YtogbchahfkphoaaRgQ
namespace Go.Proofs.Ytogbchahfkphoaa
open Go.RowKit
set_option linter.unusedVariables false

theorem IsStp.cells {w wr : World} {a : Option Addr} {l j : Nat} {z : List Stp} (h : IsStp w a l z) (hb : Below w.heap.size w wr) (hj : j < l) :
    ∃ g o x1 x2 x3, a = some ⟨g, o, none⟩ ∧ g < w.heap.size ∧ z[j]? = some (x1, x2, x3) ∧ wr.cell? ⟨g, o + j * 3, none⟩ = some (.int .i64 x1) ∧ wr.cell? ⟨g, o + j * 3 + 1, none⟩ = some (.int .i64 x2) ∧ wr.cell? ⟨g, o + j * 3 + 2, none⟩ = some (.string x3) ∧
      (-9223372036854775808 ≤ x1 ∧ x1 ≤ 9223372036854775807) ∧ (-9223372036854775808 ≤ x2 ∧ x2 ≤ 9223372036854775807) := by
  obtain ⟨g, o, e, hlt, hc⟩ := h.2.2 (by omega)
  obtain ⟨x, hx⟩ : ∃ x, z[j]? = some x := ⟨_, List.getElem?_eq_getElem (by rw [h.1]; exact hj)⟩
  obtain ⟨c1, c2, c3⟩ := hc j x hx
  obtain ⟨⟨q1, q2⟩, -⟩ := h.2.1 x (List.mem_of_getElem? hx)
  obtain ⟨x1, x2, x3⟩ := x
  exact ⟨g, o, x1, x2, x3, e, hlt, hx, (hb.cell (p := ⟨g, o + j * 3, none⟩) hlt).trans c1, (hb.cell (p := ⟨g, o + j * 3 + 1, none⟩) hlt).trans c2, (hb.cell (p := ⟨g, o + j * 3 + 2, none⟩) hlt).trans c3, i64_bd q1, i64_bd q2⟩
/-- Texts as a ring's elements. -/
def elS (l : List ByteArray) : List (List Value) := l.map fun s => [.string s]
theorem elS_len (l : List ByteArray) : (elS l).length = l.length := by simp [elS]
theorem elS_at {l : List ByteArray} {i : Nat} {s : ByteArray} (h : l[i]? = some s) : (elS l)[i]? = some [.string s] := by simp [elS, h]
theorem elS_app (l : List ByteArray) (s : ByteArray) : elS (l ++ [s]) = elS l ++ [[.string s]] := by simp [elS]
theorem len_of {n m out : Nat} (h : n = out + m) : ((n : Nat) : Int) - (out : Int) = (m : Int) := by omega
/-- What a step says is one of four. -/
theorem kind4 (x : Int) : 0 ≤ x % 4 ∧ x % 4 < 4 := by omega
end Go.Proofs.Ytogbchahfkphoaa
