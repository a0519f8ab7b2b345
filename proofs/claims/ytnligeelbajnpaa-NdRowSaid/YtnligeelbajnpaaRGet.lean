/-
  What the document's own Get answers, for any bytes, any place and any width.
-/
import Derived.Test.YtnligeelbajnpaaWords
import Derived.Test.YtnligeelbajnpaaRows
import Derived.WalkKit
import Derived.WalkSpells
import Derived.WalkLawsBesides
import Derived.Outline
import Derived.Deep.QuietTactic
import Derived.BigQuiet
import Derived.Lib.Hide
namespace Go.Proofs.Ytnligeelbajnpaa
open Go.RowKit
set_option linter.unusedVariables false


/-- There is no such number. -/
def NoNum (n : Nat) (a k : Int) : Prop := k < 0 ∨ 8 < k ∨ a < 0 ∨ (n : Int) - a < k

end Go.Proofs.Ytnligeelbajnpaa
