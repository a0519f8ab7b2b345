/-
  'string(b)' and '[]byte(s)'.
-/
import Derived.Test.YtnligeelbajnpaaENum
import Derived.Test.YtnligeelbajnpaaMake
import Derived.Lib.ConvBytes
import Derived.Laws.BytesArg
namespace Go.Proofs.Ytnligeelbajnpaa
open Go.RowKit
set_option linter.unusedVariables false

/-- 'string(b)' of a block that is known whole. -/
theorem conv_str {w : World} {B n c : Nat} {A : Option Addr} {zs : List Int} (h : RI .u8 w B A n zs) :
    (convert 49 9 (.slice A n c)).run Try.prog w = .ok (.string (strOfNums zs)) w := by
  rcases Nat.eq_zero_or_pos n with h0 | h0
  · subst h0
    obtain rfl := List.eq_nil_of_length_eq_zero h.1
    rcases A with _ | ⟨b, o, sp⟩
    · exact run_convert_bytes_nil w 49 5 (by kernel_rfl) (by kernel_rfl) 0 c 9 (by kernel_rfl)
    · rw [run_convert_bytes_string w 49 9 5 _ 0 c (by kernel_rfl) (by kernel_rfl) (by kernel_rfl)]
      have hl : (loadCells ⟨b, o, sp⟩ 0).run Try.prog w = .ok (([] : List Int).map (Value.int .u8)).toArray w := by
        have := run_loadCells_list (P := Try.prog) w ⟨b, o, sp⟩ [] (fun j v hj => by cases hj)
        simpa using this
      rw [run_bytesToString w _ 0 c [] hl]
      rfl
  · obtain ⟨b, o, rfl, hb, hc⟩ := h.2.1 h0
    refine run_convert_bytes_arg w 49 5 (by kernel_rfl) (by kernel_rfl) b o n c zs h.1 (fun i hi => ?_) 9 (by kernel_rfl)
    have hi' : i < zs.length := by rw [h.1]; exact hi
    rw [hc i _ (List.getElem?_eq_getElem hi')]
    simp [List.getD_eq_getElem?_getD, hi']

/-- The world behind '[]byte(s)'. -/
theorem bytesWorld_below (w : World) (s : ByteArray) : Below w.heap.size w (Lib.bytesWorld w 5 s) :=
  ⟨rfl, rfl, rfl, by rw [Lib.bytesWorld_size]; omega, fun k hk => Lib.bytesWorld_at_old w _ s k hk⟩
theorem bytesWorld_ri (w : World) (s : ByteArray) : RI .u8 (Lib.bytesWorld w 5 s) (Lib.bytesWorld w 5 s).heap.size (some ⟨w.heap.size, 0, none⟩) s.size (byt s) := by
  refine ⟨byt_len s, fun _ => ⟨w.heap.size, 0, rfl, by rw [Lib.bytesWorld_size]; omega, fun j z hz => ?_⟩, (byt_by s).wf⟩
  have hj : j < s.size := by rw [← byt_len]; exact (List.getElem?_eq_some_iff.1 hz).1
  rw [Nat.zero_add, Lib.bytesWorld_cell w 5 s j hj]
  have hj' : j < s.data.toList.length := by rw [Array.length_toList]; exact hj
  unfold byt at hz
  rw [List.getElem?_map, List.getElem?_eq_getElem hj', Option.map_some] at hz
  injection hz with hz
  rw [← hz, List.getD_eq_getElem?_getD, List.getElem?_eq_getElem hj']
  rfl
theorem conv_bytes (w : World) (s : ByteArray) : (convert 9 49 (.string s)).run Try.prog w = .ok (.slice (some ⟨w.heap.size, 0, none⟩) s.size (grownCap w s.size 0 5)) (Lib.bytesWorld w 5 s) :=
  Lib.run_convert_string_bytes w 9 49 5 s Try.underlying9 Try.underlying49 Try.underlying5
end Go.Proofs.Ytnligeelbajnpaa
