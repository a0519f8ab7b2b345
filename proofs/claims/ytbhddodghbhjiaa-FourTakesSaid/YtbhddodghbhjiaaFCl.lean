/-
  strings.Builder.String and strings.Clone.
-/
import Derived.Test.YtbhddodghbhjiaaFWr
import Derived.Test.YtbhddodghbhjiaaShelfE
namespace Go.Proofs.Ytbhddodghbhjiaa
open Go.RowKit
set_option linter.unusedVariables false

theorem string_any {w : World} {b R : Nat} {p : Option Addr} {l : List UInt8} (h : Wr w b R p (l.map fun b => (b.toNat : Int))) (hp : p = none ∨ p = some ⟨b, 0, none⟩) (hR : R ≤ w.heap.size) :
    Calls Try.prog 59 #[.pointer (some ⟨b, 0, none⟩)] w fun e w' => e = .returned (.string ⟨l.toArray⟩) ∧ Below b w w' := by
  obtain ⟨hbR, v, hb, hown⟩ := h
  rw [byteCells_of, List.length_map] at hown
  have hI : Lib.BuilderAt 85 5 b b (.pointer p) (Lib.byteCells l) w := ⟨Nat.le_refl _, v, hb, by rw [Lib.byteCells_length]; exact own_less hown (by omega), own_far hown hbR⟩
  refine Try.Builder_String_any b b l w ?_ (by omega)
  rcases hp with rfl | rfl
  · exact .inl hI
  · exact .inr hI
set_option maxHeartbeats 1000000 in
theorem clone_any (s : ByteArray) (hs : s.size ≤ 281474976710656) (w : World) :
    Calls Try.prog 36 #[.string s] w fun e w' => e = .returned (.string s) ∧ Below w.heap.size w w' := by
  have H := Lib.hid (Try.stringslite_Clone s w hs)
  go_enter Try.func36, Try.ntmps36
  go_wp2_with fail
  refine Calls.mono H.out ?_
  rintro e w1 ⟨rfl, hb⟩
  go_wp2
  go_ret
  exact ⟨rfl, hb⟩
end Go.Proofs.Ytbhddodghbhjiaa
