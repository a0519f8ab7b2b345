/-
  The document's own set of ports (layer 14): what it calls of the earlier layers.
-/
import Derived.Test.YtabbclocgkhnhaaIfG
import Derived.Test.YtabbclocgkhnhaaERCls
import Derived.Test.YtabbclocgkhnhaaPRBit
import Derived.Test.YtabbclocgkhnhaaPRCo
