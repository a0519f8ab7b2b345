/-
  prefix.Less of any two ranges.
-/
import Derived.Test.YtabbclocgkhnhaaPHold
namespace Go.Proofs.Ytabbclocgkhnhaa
open Go.RowKit
set_option linter.unusedVariables false

end Go.Proofs.Ytabbclocgkhnhaa
