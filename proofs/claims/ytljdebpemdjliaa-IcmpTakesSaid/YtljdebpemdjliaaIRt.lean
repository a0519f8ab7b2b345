/-
  The document's own Take of any text between any two.
-/
import Derived.Test.YtljdebpemdjliaaIRt1
import Derived.Test.YtljdebpemdjliaaIRt2
import Derived.Test.YtljdebpemdjliaaIRt3
namespace Go.Proofs.Ytljdebpemdjliaa
open Go.RowKit
set_option linter.unusedVariables false

theorem rtake_any (s : ByteArray) (hs : s.size ≤ 140737488351232) (six : Bool) (a b : Ad) (ha : WfA a) (hb : WfA b) (w : World) :
    Calls Try.prog 14 #[.string s, .bool six, a.val, b.val] w fun e w' => e = .returned (tkIV s six a b) ∧ Below w.heap.size w w' := by
  cases six with
  | true =>
    obtain ⟨sa, ah, al⟩ := a
    obtain ⟨sb, bh, bl⟩ := b
    cases sa with
    | false => exact rtk_far1 s hs ah al _ w
    | true =>
      cases sb with
      | false => exact rtk_far2 s hs ah al bh bl w
      | true =>
        by_cases h1 : s.size < 8
        · exact rtk_short6 s hs ah al bh bl h1 w
        by_cases h2 : SumI true ⟨true, ah, al⟩ ⟨true, bh, bl⟩ s.size (byt s) = 65535
        · by_cases h3 : 65008 < s.size
          · exact rtk_long6 s hs ah al bh bl ha hb h3 h2 w
          · exact rtk_ok6 s hs ah al bh bl ha hb (by omega) (by omega) h2 w
        · exact rtk_sum6 s hs ah al bh bl ha hb (by omega) h2 w
  | false =>
    by_cases h1 : s.size < 8
    · exact rtk_short4 s hs a b h1 w
    by_cases h2 : SumI false a b s.size (byt s) = 65535
    · by_cases h3 : 65008 < s.size
      · exact rtk_long4 s hs a b ha hb h3 h2 w
      · exact rtk_ok4 s hs a b ha hb (by omega) (by omega) h2 w
    · exact rtk_sum4 s hs a b ha hb (by omega) h2 w
end Go.Proofs.Ytljdebpemdjliaa
