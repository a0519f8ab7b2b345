/-
  strings.Clone.
-/
import Derived.Test.YtljdebpemdjliaaWords
import Derived.Lib.Hide
import Derived.Test.YtljdebpemdjliaaShelfC
namespace Go.Proofs.Ytljdebpemdjliaa
open Go.RowKit
set_option linter.unusedVariables false

set_option maxHeartbeats 1000000 in
theorem sclone_any (s : ByteArray) (hs : s.size ≤ 281474976710656) (w : World) :
    Calls Try.prog 27 #[.string s] w fun e w' => e = .returned (.string s) ∧ Below w.heap.size w w' := by
  have H := Lib.hid (Try.stringslite_Clone s w hs)
  go_enter Try.func27, Try.ntmps27
  go_wp2_with fail
  refine Calls.mono H.out ?_
  rintro e w1 ⟨rfl, hb⟩
  go_wp2
  go_ret
  exact ⟨rfl, hb⟩
end Go.Proofs.Ytljdebpemdjliaa
