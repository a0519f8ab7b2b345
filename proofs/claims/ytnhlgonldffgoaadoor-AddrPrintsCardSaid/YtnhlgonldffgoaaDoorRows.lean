/-
  NARROWER THAN 'FOR EVERY INPUT', by the rows' own cells (each row's printed sentence says how): AddrParses: laid · AddrPrints: laid · AddrSpelt: laid · EtherLays: laid · EtherTakes: laid · EtherBack: laid · EtherAgain: laid · EtherAsks: laid · EtherMacs: laid · EtherGroups: laid.
  DERIVED. THE GIVEN ROWS OF THIS SEAT. 10 by the template 'for every input the law returns true; each argument reads behind the call as it read before'; 0 by the template 'total and deterministic' (their statements: YtnhlgonldffgoaaDoorTotals.lean).
  GIVEN WITH THE SEED: the statements are not yours to turn. If you find one false, say at which input.
  Laid BY PROGRAM, IN A SANDBOX (cutbox-rows.mjs): the forced cells as the released guide's own fill.sh prints them over the translation 1ab34d563286492a… (all of the seat's roots in one cut). By AI agents, Wed Nov 11 2026. No macro, syntax, notation, axiom, sorry.
-/
import Derived.Test.YtnhlgonldffgoaaDoorChecked
import GoSem.Claim
import GoSem.ClaimJoined
import GoSem.ClaimMapViews
import Derived.JoinedTies
import Derived.KernelRfl
namespace Go.Proofs.YtnhlgonldffgoaaDoor
/- THE CELL 'sum', in the pinned program and in every row, IS THE sha256 OF THE DUMP (.gsa) THAT YtnhlgonldffgoaaDoorProg.lean LOADS. Nothing in Lean hashes anything: it is a label: what it is worth is what the hold of that sum in a sandbox is worth. -/
noncomputable def Tryd.pinned : Pinned := { name := "ytnhlgonldffgoaadoor", sum := "1ab34d563286492a9b30dd6d4915985b78f44b7120b889ffc91a3dfa4a78eea9", checked := Tryd.checked }
namespace Rows
def none {H : Type} : Left H := { results := [], args := [] }

/- WHAT THE LISTED PACKAGE-LEVEL VARIABLES READ AS WHEN THE CALL BEGINS. Each datum BY PROGRAM (the guide's laid-datum.mjs) off the statement by which the dump's own 'gosem.cut.vars' lays the variable. In a bare row this is a premise. The card (YtnhlgonldffgoaaDoorCards.lean) ties it to the program's text. -/
def laid_math_bits_deBruijn32tab {H : Type} : DataW H := .agg [.lit (.int .u8 0), .lit (.int .u8 1), .lit (.int .u8 28), .lit (.int .u8 2), .lit (.int .u8 29), .lit (.int .u8 14), .lit (.int .u8 24), .lit (.int .u8 3), .lit (.int .u8 30), .lit (.int .u8 22), .lit (.int .u8 20), .lit (.int .u8 15), .lit (.int .u8 25), .lit (.int .u8 17), .lit (.int .u8 4), .lit (.int .u8 8), .lit (.int .u8 31), .lit (.int .u8 27), .lit (.int .u8 13), .lit (.int .u8 23), .lit (.int .u8 21), .lit (.int .u8 19), .lit (.int .u8 16), .lit (.int .u8 7), .lit (.int .u8 26), .lit (.int .u8 12), .lit (.int .u8 18), .lit (.int .u8 6), .lit (.int .u8 11), .lit (.int .u8 5), .lit (.int .u8 10), .lit (.int .u8 9)]
def laid_math_bits_deBruijn64tab {H : Type} : DataW H := .agg [.lit (.int .u8 0), .lit (.int .u8 1), .lit (.int .u8 56), .lit (.int .u8 2), .lit (.int .u8 57), .lit (.int .u8 49), .lit (.int .u8 28), .lit (.int .u8 3), .lit (.int .u8 61), .lit (.int .u8 58), .lit (.int .u8 42), .lit (.int .u8 50), .lit (.int .u8 38), .lit (.int .u8 29), .lit (.int .u8 17), .lit (.int .u8 4), .lit (.int .u8 62), .lit (.int .u8 47), .lit (.int .u8 59), .lit (.int .u8 36), .lit (.int .u8 45), .lit (.int .u8 43), .lit (.int .u8 51), .lit (.int .u8 22), .lit (.int .u8 53), .lit (.int .u8 39), .lit (.int .u8 33), .lit (.int .u8 30), .lit (.int .u8 24), .lit (.int .u8 18), .lit (.int .u8 12), .lit (.int .u8 5), .lit (.int .u8 63), .lit (.int .u8 55), .lit (.int .u8 48), .lit (.int .u8 27), .lit (.int .u8 60), .lit (.int .u8 41), .lit (.int .u8 37), .lit (.int .u8 16), .lit (.int .u8 46), .lit (.int .u8 35), .lit (.int .u8 44), .lit (.int .u8 21), .lit (.int .u8 52), .lit (.int .u8 32), .lit (.int .u8 23), .lit (.int .u8 11), .lit (.int .u8 54), .lit (.int .u8 26), .lit (.int .u8 40), .lit (.int .u8 15), .lit (.int .u8 34), .lit (.int .u8 20), .lit (.int .u8 31), .lit (.int .u8 10), .lit (.int .u8 25), .lit (.int .u8 14), .lit (.int .u8 19), .lit (.int .u8 9), .lit (.int .u8 13), .lit (.int .u8 8), .lit (.int .u8 7), .lit (.int .u8 6)]
def laid_internal_strconv_uint64pow10 {H : Type} : DataW H := .agg [.lit (.int .u64 1), .lit (.int .u64 10), .lit (.int .u64 100), .lit (.int .u64 1000), .lit (.int .u64 10000), .lit (.int .u64 100000), .lit (.int .u64 1000000), .lit (.int .u64 10000000), .lit (.int .u64 100000000), .lit (.int .u64 1000000000), .lit (.int .u64 10000000000), .lit (.int .u64 100000000000), .lit (.int .u64 1000000000000), .lit (.int .u64 10000000000000), .lit (.int .u64 100000000000000), .lit (.int .u64 1000000000000000), .lit (.int .u64 10000000000000000), .lit (.int .u64 100000000000000000), .lit (.int .u64 1000000000000000000), .lit (.int .u64 10000000000000000000)]
def laid_strconv_ErrRange {H : Type} : DataW H := .iface "*errors.errorString" (.ptr (.agg [.lit (.string [118, 97, 108, 117, 101, 32, 111, 117, 116, 32, 111, 102, 32, 114, 97, 110, 103, 101])]))
def laid_strconv_ErrSyntax {H : Type} : DataW H := .iface "*errors.errorString" (.ptr (.agg [.lit (.string [105, 110, 118, 97, 108, 105, 100, 32, 115, 121, 110, 116, 97, 120])]))
def laid_crossway_ether_places {H : Type} : DataW H := .agg [.agg [.lit (.int .i64 0), .lit (.int .i64 2)], .agg [.lit (.int .i64 2), .lit (.int .i64 2)], .agg [.lit (.int .i64 4), .lit (.int .i64 1)], .agg [.lit (.int .i64 5), .lit (.int .i64 1)], .agg [.lit (.int .i64 6), .lit (.int .i64 2)], .agg [.lit (.int .i64 8), .lit (.int .i64 6)], .agg [.lit (.int .i64 14), .lit (.int .i64 4)], .agg [.lit (.int .i64 18), .lit (.int .i64 6)], .agg [.lit (.int .i64 24), .lit (.int .i64 4)]]

/-- 'crosswaylaw03.AddrParses': WHATEVER THE INPUT: true; the input reads as it did. -/
def addrParsesSpec : ChangeSpec := { name := "addrParses", fn := fun _ => fun
  | [d] => { results := [.lit (.bool true)], args := [d] }
  | _ => none }
def addrParsesRow : OpenClaim := { program := "ytnhlgonldffgoaadoor", sum := "1ab34d563286492a9b30dd6d4915985b78f44b7120b889ffc91a3dfa4a78eea9", func := "crossway/crosswaylaw03.AddrParses", spec := "addrParses", inPlace := ["internal/bytealg.IndexByteString", "internal/bytealg.IndexString", "internal/abi.NoEscape", "internal/bytealg.MakeNoZero"], named := ["internal/bytealg.MaxLen", "strconv.ErrSyntax", "strconv.ErrRange", "internal/strconv.uint64pow10", "math/bits.deBruijn32tab", "math/bits.deBruijn64tab"], apart := false, laid := [("math/bits.deBruijn32tab", laid_math_bits_deBruijn32tab), ("math/bits.deBruijn64tab", laid_math_bits_deBruijn64tab), ("internal/strconv.uint64pow10", laid_internal_strconv_uint64pow10), ("strconv.ErrRange", laid_strconv_ErrRange), ("strconv.ErrSyntax", laid_strconv_ErrSyntax)] }
def AddrParsesSaid : Prop := addrParsesRow.holds Tryd.pinned (OpenSpec.ofChange addrParsesSpec)

/-- ITS FALSE NEIGHBOUR: 'it returns false'. Refute it at one input. -/
def addrParsesWrong : ChangeSpec := { name := "addrParses", fn := fun _ => fun
  | [d] => { results := [.lit (.bool false)], args := [d] }
  | _ => none }
def AddrParsesWrongFalsely : Prop := addrParsesRow.holds Tryd.pinned (OpenSpec.ofChange addrParsesWrong)

/-- 'crosswaylaw03.AddrPrints': WHATEVER THE INPUT: true; the input reads as it did. -/
def addrPrintsSpec : ChangeSpec := { name := "addrPrints", fn := fun _ => fun
  | [d] => { results := [.lit (.bool true)], args := [d] }
  | _ => none }
def addrPrintsRow : OpenClaim := { program := "ytnhlgonldffgoaadoor", sum := "1ab34d563286492a9b30dd6d4915985b78f44b7120b889ffc91a3dfa4a78eea9", func := "crossway/crosswaylaw03.AddrPrints", spec := "addrPrints", inPlace := ["internal/bytealg.IndexByteString", "internal/bytealg.IndexString", "internal/abi.NoEscape", "internal/bytealg.MakeNoZero"], named := ["internal/bytealg.MaxLen", "strconv.ErrSyntax", "strconv.ErrRange", "internal/strconv.uint64pow10", "math/bits.deBruijn32tab", "math/bits.deBruijn64tab"], apart := false, laid := [("math/bits.deBruijn32tab", laid_math_bits_deBruijn32tab), ("math/bits.deBruijn64tab", laid_math_bits_deBruijn64tab), ("internal/strconv.uint64pow10", laid_internal_strconv_uint64pow10), ("strconv.ErrRange", laid_strconv_ErrRange), ("strconv.ErrSyntax", laid_strconv_ErrSyntax)] }
def AddrPrintsSaid : Prop := addrPrintsRow.holds Tryd.pinned (OpenSpec.ofChange addrPrintsSpec)

/-- ITS FALSE NEIGHBOUR: 'it returns false'. Refute it at one input. -/
def addrPrintsWrong : ChangeSpec := { name := "addrPrints", fn := fun _ => fun
  | [d] => { results := [.lit (.bool false)], args := [d] }
  | _ => none }
def AddrPrintsWrongFalsely : Prop := addrPrintsRow.holds Tryd.pinned (OpenSpec.ofChange addrPrintsWrong)

/-- 'crosswaylaw03.AddrSpelt': WHATEVER THE INPUT: true; the input reads as it did. -/
def addrSpeltSpec : ChangeSpec := { name := "addrSpelt", fn := fun _ => fun
  | [d1, d2, d3, d4] => { results := [.lit (.bool true)], args := [d1, d2, d3, d4] }
  | _ => none }
def addrSpeltRow : OpenClaim := { program := "ytnhlgonldffgoaadoor", sum := "1ab34d563286492a9b30dd6d4915985b78f44b7120b889ffc91a3dfa4a78eea9", func := "crossway/crosswaylaw03.AddrSpelt", spec := "addrSpelt", inPlace := ["internal/bytealg.IndexByteString", "internal/bytealg.IndexString", "internal/abi.NoEscape", "internal/bytealg.MakeNoZero"], named := ["internal/bytealg.MaxLen", "strconv.ErrSyntax", "strconv.ErrRange", "internal/strconv.uint64pow10", "math/bits.deBruijn32tab", "math/bits.deBruijn64tab"], apart := false, laid := [("math/bits.deBruijn32tab", laid_math_bits_deBruijn32tab), ("math/bits.deBruijn64tab", laid_math_bits_deBruijn64tab), ("internal/strconv.uint64pow10", laid_internal_strconv_uint64pow10), ("strconv.ErrRange", laid_strconv_ErrRange), ("strconv.ErrSyntax", laid_strconv_ErrSyntax)] }
def AddrSpeltSaid : Prop := addrSpeltRow.holds Tryd.pinned (OpenSpec.ofChange addrSpeltSpec)

/-- ITS FALSE NEIGHBOUR: 'it returns false'. Refute it at one input. -/
def addrSpeltWrong : ChangeSpec := { name := "addrSpelt", fn := fun _ => fun
  | [d1, d2, d3, d4] => { results := [.lit (.bool false)], args := [d1, d2, d3, d4] }
  | _ => none }
def AddrSpeltWrongFalsely : Prop := addrSpeltRow.holds Tryd.pinned (OpenSpec.ofChange addrSpeltWrong)

/-- 'crosswaylaw05.EtherLays': WHATEVER THE INPUT: true; the input reads as it did. -/
def etherLaysSpec : ChangeSpec := { name := "etherLays", fn := fun _ => fun
  | [d1, d2] => { results := [.lit (.bool true)], args := [d1, d2] }
  | _ => none }
def etherLaysRow : OpenClaim := { program := "ytnhlgonldffgoaadoor", sum := "1ab34d563286492a9b30dd6d4915985b78f44b7120b889ffc91a3dfa4a78eea9", func := "crossway/crosswaylaw05.EtherLays", spec := "etherLays", inPlace := ["internal/abi.NoEscape", "internal/bytealg.MakeNoZero"], named := ["crossway/ether.places"], apart := false, laid := [("crossway/ether.places", laid_crossway_ether_places)] }
def EtherLaysSaid : Prop := etherLaysRow.holds Tryd.pinned (OpenSpec.ofChange etherLaysSpec)

/-- ITS FALSE NEIGHBOUR: 'it returns false'. Refute it at one input. -/
def etherLaysWrong : ChangeSpec := { name := "etherLays", fn := fun _ => fun
  | [d1, d2] => { results := [.lit (.bool false)], args := [d1, d2] }
  | _ => none }
def EtherLaysWrongFalsely : Prop := etherLaysRow.holds Tryd.pinned (OpenSpec.ofChange etherLaysWrong)

/-- 'crosswaylaw05.EtherTakes': WHATEVER THE INPUT: true; the input reads as it did. -/
def etherTakesSpec : ChangeSpec := { name := "etherTakes", fn := fun _ => fun
  | [d] => { results := [.lit (.bool true)], args := [d] }
  | _ => none }
def etherTakesRow : OpenClaim := { program := "ytnhlgonldffgoaadoor", sum := "1ab34d563286492a9b30dd6d4915985b78f44b7120b889ffc91a3dfa4a78eea9", func := "crossway/crosswaylaw05.EtherTakes", spec := "etherTakes", inPlace := ["internal/abi.NoEscape", "internal/bytealg.MakeNoZero"], named := ["crossway/ether.places"], apart := false, laid := [("crossway/ether.places", laid_crossway_ether_places)] }
def EtherTakesSaid : Prop := etherTakesRow.holds Tryd.pinned (OpenSpec.ofChange etherTakesSpec)

/-- ITS FALSE NEIGHBOUR: 'it returns false'. Refute it at one input. -/
def etherTakesWrong : ChangeSpec := { name := "etherTakes", fn := fun _ => fun
  | [d] => { results := [.lit (.bool false)], args := [d] }
  | _ => none }
def EtherTakesWrongFalsely : Prop := etherTakesRow.holds Tryd.pinned (OpenSpec.ofChange etherTakesWrong)

/-- 'crosswaylaw05.EtherBack': WHATEVER THE INPUT: true; the input reads as it did. -/
def etherBackSpec : ChangeSpec := { name := "etherBack", fn := fun _ => fun
  | [d] => { results := [.lit (.bool true)], args := [d] }
  | _ => none }
def etherBackRow : OpenClaim := { program := "ytnhlgonldffgoaadoor", sum := "1ab34d563286492a9b30dd6d4915985b78f44b7120b889ffc91a3dfa4a78eea9", func := "crossway/crosswaylaw05.EtherBack", spec := "etherBack", inPlace := ["internal/abi.NoEscape", "internal/bytealg.MakeNoZero"], named := ["crossway/ether.places"], apart := false, laid := [("crossway/ether.places", laid_crossway_ether_places)] }
def EtherBackSaid : Prop := etherBackRow.holds Tryd.pinned (OpenSpec.ofChange etherBackSpec)

/-- ITS FALSE NEIGHBOUR: 'it returns false'. Refute it at one input. -/
def etherBackWrong : ChangeSpec := { name := "etherBack", fn := fun _ => fun
  | [d] => { results := [.lit (.bool false)], args := [d] }
  | _ => none }
def EtherBackWrongFalsely : Prop := etherBackRow.holds Tryd.pinned (OpenSpec.ofChange etherBackWrong)

/-- 'crosswaylaw05.EtherAgain': WHATEVER THE INPUT: true; the input reads as it did. -/
def etherAgainSpec : ChangeSpec := { name := "etherAgain", fn := fun _ => fun
  | [d] => { results := [.lit (.bool true)], args := [d] }
  | _ => none }
def etherAgainRow : OpenClaim := { program := "ytnhlgonldffgoaadoor", sum := "1ab34d563286492a9b30dd6d4915985b78f44b7120b889ffc91a3dfa4a78eea9", func := "crossway/crosswaylaw05.EtherAgain", spec := "etherAgain", inPlace := ["internal/abi.NoEscape", "internal/bytealg.MakeNoZero"], named := ["crossway/ether.places"], apart := false, laid := [("crossway/ether.places", laid_crossway_ether_places)] }
def EtherAgainSaid : Prop := etherAgainRow.holds Tryd.pinned (OpenSpec.ofChange etherAgainSpec)

/-- ITS FALSE NEIGHBOUR: 'it returns false'. Refute it at one input. -/
def etherAgainWrong : ChangeSpec := { name := "etherAgain", fn := fun _ => fun
  | [d] => { results := [.lit (.bool false)], args := [d] }
  | _ => none }
def EtherAgainWrongFalsely : Prop := etherAgainRow.holds Tryd.pinned (OpenSpec.ofChange etherAgainWrong)

/-- 'crosswaylaw05.EtherAsks': WHATEVER THE INPUT: true; the input reads as it did. -/
def etherAsksSpec : ChangeSpec := { name := "etherAsks", fn := fun _ => fun
  | [d1, d2, d3] => { results := [.lit (.bool true)], args := [d1, d2, d3] }
  | _ => none }
def etherAsksRow : OpenClaim := { program := "ytnhlgonldffgoaadoor", sum := "1ab34d563286492a9b30dd6d4915985b78f44b7120b889ffc91a3dfa4a78eea9", func := "crossway/crosswaylaw05.EtherAsks", spec := "etherAsks", inPlace := ["internal/abi.NoEscape", "internal/bytealg.MakeNoZero"], named := ["crossway/ether.places"], apart := false, laid := [("crossway/ether.places", laid_crossway_ether_places)] }
def EtherAsksSaid : Prop := etherAsksRow.holds Tryd.pinned (OpenSpec.ofChange etherAsksSpec)

/-- ITS FALSE NEIGHBOUR: 'it returns false'. Refute it at one input. -/
def etherAsksWrong : ChangeSpec := { name := "etherAsks", fn := fun _ => fun
  | [d1, d2, d3] => { results := [.lit (.bool false)], args := [d1, d2, d3] }
  | _ => none }
def EtherAsksWrongFalsely : Prop := etherAsksRow.holds Tryd.pinned (OpenSpec.ofChange etherAsksWrong)

/-- 'crosswaylaw05.EtherMacs': WHATEVER THE INPUT: true; the input reads as it did. -/
def etherMacsSpec : ChangeSpec := { name := "etherMacs", fn := fun _ => fun
  | [d1, d2] => { results := [.lit (.bool true)], args := [d1, d2] }
  | _ => none }
def etherMacsRow : OpenClaim := { program := "ytnhlgonldffgoaadoor", sum := "1ab34d563286492a9b30dd6d4915985b78f44b7120b889ffc91a3dfa4a78eea9", func := "crossway/crosswaylaw05.EtherMacs", spec := "etherMacs", inPlace := ["internal/abi.NoEscape", "internal/bytealg.MakeNoZero"], named := ["crossway/ether.places"], apart := false, laid := [("crossway/ether.places", laid_crossway_ether_places)] }
def EtherMacsSaid : Prop := etherMacsRow.holds Tryd.pinned (OpenSpec.ofChange etherMacsSpec)

/-- ITS FALSE NEIGHBOUR: 'it returns false'. Refute it at one input. -/
def etherMacsWrong : ChangeSpec := { name := "etherMacs", fn := fun _ => fun
  | [d1, d2] => { results := [.lit (.bool false)], args := [d1, d2] }
  | _ => none }
def EtherMacsWrongFalsely : Prop := etherMacsRow.holds Tryd.pinned (OpenSpec.ofChange etherMacsWrong)

/-- 'crosswaylaw05.EtherGroups': WHATEVER THE INPUT: true; the input reads as it did. -/
def etherGroupsSpec : ChangeSpec := { name := "etherGroups", fn := fun _ => fun
  | [d] => { results := [.lit (.bool true)], args := [d] }
  | _ => none }
def etherGroupsRow : OpenClaim := { program := "ytnhlgonldffgoaadoor", sum := "1ab34d563286492a9b30dd6d4915985b78f44b7120b889ffc91a3dfa4a78eea9", func := "crossway/crosswaylaw05.EtherGroups", spec := "etherGroups", inPlace := ["internal/abi.NoEscape", "internal/bytealg.MakeNoZero"], named := ["crossway/ether.places"], apart := false, laid := [("crossway/ether.places", laid_crossway_ether_places)] }
def EtherGroupsSaid : Prop := etherGroupsRow.holds Tryd.pinned (OpenSpec.ofChange etherGroupsSpec)

/-- ITS FALSE NEIGHBOUR: 'it returns false'. Refute it at one input. -/
def etherGroupsWrong : ChangeSpec := { name := "etherGroups", fn := fun _ => fun
  | [d] => { results := [.lit (.bool false)], args := [d] }
  | _ => none }
def EtherGroupsWrongFalsely : Prop := etherGroupsRow.holds Tryd.pinned (OpenSpec.ofChange etherGroupsWrong)

/- THE SECOND FORM. 'bulk': how many values and letters a reading holds, each counted each time it is reached (what is shared counts as often as it is met; a slice's spare places count too). A statement '..UptoSaid' is the law's where the arguments, and the package variables that the reading takes, are together of bulk at most 1048576: NARROWER than '..Said'. Prove '..Said' where nothing that the law and all that it calls make is longer than what came in: it says more and counts as full. Else prove '..UptoSaid'. A law counts once. -/
mutual
def uptoBulk {H : Type} : DataW H → Nat
  | .lit (.string bytes) => bytes.length + 1
  | .lit _ => 1
  | .nil => 1
  | .ptr d => uptoBulk d + 1
  | .slice elems spare => uptoBulkAll elems + uptoBulkAll spare + 1
  | .agg parts => uptoBulkAll parts + 1
  | .iface _ d => uptoBulk d + 1
  | .map entries => uptoBulkEntries entries + 1
  | .held _ => 1
def uptoBulkAll {H : Type} : List (DataW H) → Nat
  | [] => 0
  | d :: r => uptoBulk d + uptoBulkAll r
def uptoBulkEntries {H : Type} : List (Lit × DataW H) → Nat
  | [] => 0
  | x :: r => uptoBulkEntry x + uptoBulkEntries r
def uptoBulkEntry {H : Type} : Lit × DataW H → Nat
  | (.string bytes, d) => bytes.length + uptoBulk d + 1
  | (_, d) => uptoBulk d + 1
 end
def uptoSmall : (H : Type) → List (DataW H) → Bool := fun _ ds => decide (uptoBulkAll ds ≤ 1048576)
def OpenSpec.upto (s : _root_.Go.ChangeSpec) : _root_.Go.OpenSpec := { _root_.Go.OpenSpec.ofChange s with cond := some uptoSmall }

/-- 'crosswaylaw03.AddrParses', WHERE WHAT IT READS IS OF BULK AT MOST 1048576: true; the input reads as it did. -/
def addrParsesUptoRow : OpenClaim := { program := "ytnhlgonldffgoaadoor", sum := "1ab34d563286492a9b30dd6d4915985b78f44b7120b889ffc91a3dfa4a78eea9", func := "crossway/crosswaylaw03.AddrParses", spec := "addrParses", inPlace := ["internal/bytealg.IndexByteString", "internal/bytealg.IndexString", "internal/abi.NoEscape", "internal/bytealg.MakeNoZero"], named := ["internal/bytealg.MaxLen", "strconv.ErrSyntax", "strconv.ErrRange", "internal/strconv.uint64pow10", "math/bits.deBruijn32tab", "math/bits.deBruijn64tab"], apart := false, laid := [("math/bits.deBruijn32tab", laid_math_bits_deBruijn32tab), ("math/bits.deBruijn64tab", laid_math_bits_deBruijn64tab), ("internal/strconv.uint64pow10", laid_internal_strconv_uint64pow10), ("strconv.ErrRange", laid_strconv_ErrRange), ("strconv.ErrSyntax", laid_strconv_ErrSyntax)], narrowed := true }
def AddrParsesUptoSaid : Prop := addrParsesUptoRow.holds Tryd.pinned (OpenSpec.upto addrParsesSpec)

/-- 'crosswaylaw03.AddrPrints', WHERE WHAT IT READS IS OF BULK AT MOST 1048576: true; the input reads as it did. -/
def addrPrintsUptoRow : OpenClaim := { program := "ytnhlgonldffgoaadoor", sum := "1ab34d563286492a9b30dd6d4915985b78f44b7120b889ffc91a3dfa4a78eea9", func := "crossway/crosswaylaw03.AddrPrints", spec := "addrPrints", inPlace := ["internal/bytealg.IndexByteString", "internal/bytealg.IndexString", "internal/abi.NoEscape", "internal/bytealg.MakeNoZero"], named := ["internal/bytealg.MaxLen", "strconv.ErrSyntax", "strconv.ErrRange", "internal/strconv.uint64pow10", "math/bits.deBruijn32tab", "math/bits.deBruijn64tab"], apart := false, laid := [("math/bits.deBruijn32tab", laid_math_bits_deBruijn32tab), ("math/bits.deBruijn64tab", laid_math_bits_deBruijn64tab), ("internal/strconv.uint64pow10", laid_internal_strconv_uint64pow10), ("strconv.ErrRange", laid_strconv_ErrRange), ("strconv.ErrSyntax", laid_strconv_ErrSyntax)], narrowed := true }
def AddrPrintsUptoSaid : Prop := addrPrintsUptoRow.holds Tryd.pinned (OpenSpec.upto addrPrintsSpec)

/-- 'crosswaylaw03.AddrSpelt', WHERE WHAT IT READS IS OF BULK AT MOST 1048576: true; the input reads as it did. -/
def addrSpeltUptoRow : OpenClaim := { program := "ytnhlgonldffgoaadoor", sum := "1ab34d563286492a9b30dd6d4915985b78f44b7120b889ffc91a3dfa4a78eea9", func := "crossway/crosswaylaw03.AddrSpelt", spec := "addrSpelt", inPlace := ["internal/bytealg.IndexByteString", "internal/bytealg.IndexString", "internal/abi.NoEscape", "internal/bytealg.MakeNoZero"], named := ["internal/bytealg.MaxLen", "strconv.ErrSyntax", "strconv.ErrRange", "internal/strconv.uint64pow10", "math/bits.deBruijn32tab", "math/bits.deBruijn64tab"], apart := false, laid := [("math/bits.deBruijn32tab", laid_math_bits_deBruijn32tab), ("math/bits.deBruijn64tab", laid_math_bits_deBruijn64tab), ("internal/strconv.uint64pow10", laid_internal_strconv_uint64pow10), ("strconv.ErrRange", laid_strconv_ErrRange), ("strconv.ErrSyntax", laid_strconv_ErrSyntax)], narrowed := true }
def AddrSpeltUptoSaid : Prop := addrSpeltUptoRow.holds Tryd.pinned (OpenSpec.upto addrSpeltSpec)

/-- 'crosswaylaw05.EtherLays', WHERE WHAT IT READS IS OF BULK AT MOST 1048576: true; the input reads as it did. -/
def etherLaysUptoRow : OpenClaim := { program := "ytnhlgonldffgoaadoor", sum := "1ab34d563286492a9b30dd6d4915985b78f44b7120b889ffc91a3dfa4a78eea9", func := "crossway/crosswaylaw05.EtherLays", spec := "etherLays", inPlace := ["internal/abi.NoEscape", "internal/bytealg.MakeNoZero"], named := ["crossway/ether.places"], apart := false, laid := [("crossway/ether.places", laid_crossway_ether_places)], narrowed := true }
def EtherLaysUptoSaid : Prop := etherLaysUptoRow.holds Tryd.pinned (OpenSpec.upto etherLaysSpec)

/-- 'crosswaylaw05.EtherTakes', WHERE WHAT IT READS IS OF BULK AT MOST 1048576: true; the input reads as it did. -/
def etherTakesUptoRow : OpenClaim := { program := "ytnhlgonldffgoaadoor", sum := "1ab34d563286492a9b30dd6d4915985b78f44b7120b889ffc91a3dfa4a78eea9", func := "crossway/crosswaylaw05.EtherTakes", spec := "etherTakes", inPlace := ["internal/abi.NoEscape", "internal/bytealg.MakeNoZero"], named := ["crossway/ether.places"], apart := false, laid := [("crossway/ether.places", laid_crossway_ether_places)], narrowed := true }
def EtherTakesUptoSaid : Prop := etherTakesUptoRow.holds Tryd.pinned (OpenSpec.upto etherTakesSpec)

/-- 'crosswaylaw05.EtherBack', WHERE WHAT IT READS IS OF BULK AT MOST 1048576: true; the input reads as it did. -/
def etherBackUptoRow : OpenClaim := { program := "ytnhlgonldffgoaadoor", sum := "1ab34d563286492a9b30dd6d4915985b78f44b7120b889ffc91a3dfa4a78eea9", func := "crossway/crosswaylaw05.EtherBack", spec := "etherBack", inPlace := ["internal/abi.NoEscape", "internal/bytealg.MakeNoZero"], named := ["crossway/ether.places"], apart := false, laid := [("crossway/ether.places", laid_crossway_ether_places)], narrowed := true }
def EtherBackUptoSaid : Prop := etherBackUptoRow.holds Tryd.pinned (OpenSpec.upto etherBackSpec)

/-- 'crosswaylaw05.EtherAgain', WHERE WHAT IT READS IS OF BULK AT MOST 1048576: true; the input reads as it did. -/
def etherAgainUptoRow : OpenClaim := { program := "ytnhlgonldffgoaadoor", sum := "1ab34d563286492a9b30dd6d4915985b78f44b7120b889ffc91a3dfa4a78eea9", func := "crossway/crosswaylaw05.EtherAgain", spec := "etherAgain", inPlace := ["internal/abi.NoEscape", "internal/bytealg.MakeNoZero"], named := ["crossway/ether.places"], apart := false, laid := [("crossway/ether.places", laid_crossway_ether_places)], narrowed := true }
def EtherAgainUptoSaid : Prop := etherAgainUptoRow.holds Tryd.pinned (OpenSpec.upto etherAgainSpec)

/-- 'crosswaylaw05.EtherAsks', WHERE WHAT IT READS IS OF BULK AT MOST 1048576: true; the input reads as it did. -/
def etherAsksUptoRow : OpenClaim := { program := "ytnhlgonldffgoaadoor", sum := "1ab34d563286492a9b30dd6d4915985b78f44b7120b889ffc91a3dfa4a78eea9", func := "crossway/crosswaylaw05.EtherAsks", spec := "etherAsks", inPlace := ["internal/abi.NoEscape", "internal/bytealg.MakeNoZero"], named := ["crossway/ether.places"], apart := false, laid := [("crossway/ether.places", laid_crossway_ether_places)], narrowed := true }
def EtherAsksUptoSaid : Prop := etherAsksUptoRow.holds Tryd.pinned (OpenSpec.upto etherAsksSpec)

/-- 'crosswaylaw05.EtherMacs', WHERE WHAT IT READS IS OF BULK AT MOST 1048576: true; the input reads as it did. -/
def etherMacsUptoRow : OpenClaim := { program := "ytnhlgonldffgoaadoor", sum := "1ab34d563286492a9b30dd6d4915985b78f44b7120b889ffc91a3dfa4a78eea9", func := "crossway/crosswaylaw05.EtherMacs", spec := "etherMacs", inPlace := ["internal/abi.NoEscape", "internal/bytealg.MakeNoZero"], named := ["crossway/ether.places"], apart := false, laid := [("crossway/ether.places", laid_crossway_ether_places)], narrowed := true }
def EtherMacsUptoSaid : Prop := etherMacsUptoRow.holds Tryd.pinned (OpenSpec.upto etherMacsSpec)

/-- 'crosswaylaw05.EtherGroups', WHERE WHAT IT READS IS OF BULK AT MOST 1048576: true; the input reads as it did. -/
def etherGroupsUptoRow : OpenClaim := { program := "ytnhlgonldffgoaadoor", sum := "1ab34d563286492a9b30dd6d4915985b78f44b7120b889ffc91a3dfa4a78eea9", func := "crossway/crosswaylaw05.EtherGroups", spec := "etherGroups", inPlace := ["internal/abi.NoEscape", "internal/bytealg.MakeNoZero"], named := ["crossway/ether.places"], apart := false, laid := [("crossway/ether.places", laid_crossway_ether_places)], narrowed := true }
def EtherGroupsUptoSaid : Prop := etherGroupsUptoRow.holds Tryd.pinned (OpenSpec.upto etherGroupsSpec)

end Rows
end Go.Proofs.YtnhlgonldffgoaaDoor
