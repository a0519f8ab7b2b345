/-
  ip4.Take of any text.
-/
import Derived.Test.YtbhddodghbhjiaaFTk1
import Derived.Test.YtbhddodghbhjiaaFTk2
import Derived.Test.YtbhddodghbhjiaaFTk3
import Derived.Test.YtbhddodghbhjiaaFTk4
import Derived.Test.YtbhddodghbhjiaaFTk5
import Derived.Test.YtbhddodghbhjiaaFTk6
import Derived.Test.YtbhddodghbhjiaaFTk7
namespace Go.Proofs.Ytbhddodghbhjiaa
open Go.RowKit
set_option linter.unusedVariables false

theorem take_any (s : ByteArray) (hs : s.size ≤ 281474976710656) (w : World) :
    Calls Try.prog 11 #[.string s] w fun e w' => e = .returned (tkRV s) ∧ Below w.heap.size w w' := by
  by_cases he : (szR s).2 = 0
  · by_cases hsm : fo (tot 0 ((byt s).take (hdL s))) = 65535
    · by_cases hA : tlN s < hdL s
      · exact take_lt s hs w he hsm hA
      · by_cases hB : 32768 ≤ ptN s
        · exact take_od s hs w he hsm hA hB
        · by_cases hC : s.size < tlN s
          · exact take_sh s hs w he hsm hA hB hC
          · rcases Bool.eq_false_or_eq_true (opB (s.extract 20 (hdL s))) with hD | hD
            · exact take_ok s hs w he hsm hA hB hC hD
            · exact take_op s hs w he hsm hA hB hC hD
    · exact take_sm s hs w he hsm
  · exact take_he s hs w he
end Go.Proofs.Ytbhddodghbhjiaa
