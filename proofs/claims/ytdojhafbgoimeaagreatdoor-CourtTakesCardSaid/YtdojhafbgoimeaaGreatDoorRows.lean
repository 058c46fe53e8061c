/-
  NARROWER THAN 'FOR EVERY INPUT', by the rows' own cells (each row's printed sentence says how): CourtOrders: laid · CourtTurns: laid · CourtPairs: laid · CourtCompromises: laid · CourtInversions: laid · CourtWeak: laid · CourtGroups: laid · CourtMoved: laid · CourtTakes: laid · CourtPareto: laid · CourtLeast: laid · CourtReverse: laid.
  DERIVED. THE GIVEN ROWS OF THIS SEAT. 12 by the template 'for every input the law returns true; each argument reads behind the call as it read before'; 0 by the template 'total and deterministic' (their statements: YtdojhafbgoimeaaGreatDoorTotals.lean).
  GIVEN WITH THE SEED: the statements are not yours to turn. If you find one false, say at which input.
  Laid BY PROGRAM, IN A SANDBOX (cutbox-rows.mjs): the forced cells as the released guide's own fill.sh prints them over the translation ae7f5f3409f73864… (all of the seat's roots in one cut). By AI agents, Wed Nov 11 2026. No macro, syntax, notation, axiom, sorry.
-/
import Derived.Test.YtdojhafbgoimeaaGreatDoorChecked
import GoSem.PinnedTables
import GoSem.Claim
import GoSem.ClaimJoined
import GoSem.ClaimMapViews
import Derived.JoinedTies
import Derived.KernelRfl
namespace Go.Proofs.YtdojhafbgoimeaaGreatDoor
/- THE CELL 'sum', in the pinned program and in every row, IS THE sha256 OF THE DUMP (.gsa) THAT YtdojhafbgoimeaaGreatDoorProg.lean LOADS. Nothing in Lean hashes anything: it is a label: what it is worth is what the hold of that sum in a sandbox is worth. -/
noncomputable def Tryz.pinned : Pinned := { name := "ytdojhafbgoimeaagreatdoor", sum := "ae7f5f3409f738649ffcb03d42ea341d1e4692ef7428ea89a56000529e56907c", checked := Tryz.checked }
namespace Rows
def none {H : Type} : Left H := { results := [], args := [] }

/- WHAT THE LISTED PACKAGE-LEVEL VARIABLES READ AS WHEN THE CALL BEGINS. Each datum BY PROGRAM (the guide's laid-datum.mjs) off the statement by which the dump's own 'gosem.cut.vars' lays the variable. In a bare row this is a premise. The card (YtdojhafbgoimeaaGreatDoorCards.lean) ties it to the program's text. -/
def laid_math_bits_deBruijn32tab {H : Type} : DataW H := .agg [.lit (.int .u8 0), .lit (.int .u8 1), .lit (.int .u8 28), .lit (.int .u8 2), .lit (.int .u8 29), .lit (.int .u8 14), .lit (.int .u8 24), .lit (.int .u8 3), .lit (.int .u8 30), .lit (.int .u8 22), .lit (.int .u8 20), .lit (.int .u8 15), .lit (.int .u8 25), .lit (.int .u8 17), .lit (.int .u8 4), .lit (.int .u8 8), .lit (.int .u8 31), .lit (.int .u8 27), .lit (.int .u8 13), .lit (.int .u8 23), .lit (.int .u8 21), .lit (.int .u8 19), .lit (.int .u8 16), .lit (.int .u8 7), .lit (.int .u8 26), .lit (.int .u8 12), .lit (.int .u8 18), .lit (.int .u8 6), .lit (.int .u8 11), .lit (.int .u8 5), .lit (.int .u8 10), .lit (.int .u8 9)]
def laid_math_bits_deBruijn64tab {H : Type} : DataW H := .agg [.lit (.int .u8 0), .lit (.int .u8 1), .lit (.int .u8 56), .lit (.int .u8 2), .lit (.int .u8 57), .lit (.int .u8 49), .lit (.int .u8 28), .lit (.int .u8 3), .lit (.int .u8 61), .lit (.int .u8 58), .lit (.int .u8 42), .lit (.int .u8 50), .lit (.int .u8 38), .lit (.int .u8 29), .lit (.int .u8 17), .lit (.int .u8 4), .lit (.int .u8 62), .lit (.int .u8 47), .lit (.int .u8 59), .lit (.int .u8 36), .lit (.int .u8 45), .lit (.int .u8 43), .lit (.int .u8 51), .lit (.int .u8 22), .lit (.int .u8 53), .lit (.int .u8 39), .lit (.int .u8 33), .lit (.int .u8 30), .lit (.int .u8 24), .lit (.int .u8 18), .lit (.int .u8 12), .lit (.int .u8 5), .lit (.int .u8 63), .lit (.int .u8 55), .lit (.int .u8 48), .lit (.int .u8 27), .lit (.int .u8 60), .lit (.int .u8 41), .lit (.int .u8 37), .lit (.int .u8 16), .lit (.int .u8 46), .lit (.int .u8 35), .lit (.int .u8 44), .lit (.int .u8 21), .lit (.int .u8 52), .lit (.int .u8 32), .lit (.int .u8 23), .lit (.int .u8 11), .lit (.int .u8 54), .lit (.int .u8 26), .lit (.int .u8 40), .lit (.int .u8 15), .lit (.int .u8 34), .lit (.int .u8 20), .lit (.int .u8 31), .lit (.int .u8 10), .lit (.int .u8 25), .lit (.int .u8 14), .lit (.int .u8 19), .lit (.int .u8 9), .lit (.int .u8 13), .lit (.int .u8 8), .lit (.int .u8 7), .lit (.int .u8 6)]
def laid_internal_strconv_uint64pow10 {H : Type} : DataW H := .agg [.lit (.int .u64 1), .lit (.int .u64 10), .lit (.int .u64 100), .lit (.int .u64 1000), .lit (.int .u64 10000), .lit (.int .u64 100000), .lit (.int .u64 1000000), .lit (.int .u64 10000000), .lit (.int .u64 100000000), .lit (.int .u64 1000000000), .lit (.int .u64 10000000000), .lit (.int .u64 100000000000), .lit (.int .u64 1000000000000), .lit (.int .u64 10000000000000), .lit (.int .u64 100000000000000), .lit (.int .u64 1000000000000000), .lit (.int .u64 10000000000000000), .lit (.int .u64 100000000000000000), .lit (.int .u64 1000000000000000000), .lit (.int .u64 10000000000000000000)]
def laid_unicode_utf8_acceptRanges {H : Type} : DataW H := .agg [.agg [.lit (.int .u8 128), .lit (.int .u8 191)], .agg [.lit (.int .u8 160), .lit (.int .u8 191)], .agg [.lit (.int .u8 128), .lit (.int .u8 159)], .agg [.lit (.int .u8 144), .lit (.int .u8 191)], .agg [.lit (.int .u8 128), .lit (.int .u8 143)], .agg [.lit (.int .u8 0), .lit (.int .u8 0)], .agg [.lit (.int .u8 0), .lit (.int .u8 0)], .agg [.lit (.int .u8 0), .lit (.int .u8 0)], .agg [.lit (.int .u8 0), .lit (.int .u8 0)], .agg [.lit (.int .u8 0), .lit (.int .u8 0)], .agg [.lit (.int .u8 0), .lit (.int .u8 0)], .agg [.lit (.int .u8 0), .lit (.int .u8 0)], .agg [.lit (.int .u8 0), .lit (.int .u8 0)], .agg [.lit (.int .u8 0), .lit (.int .u8 0)], .agg [.lit (.int .u8 0), .lit (.int .u8 0)], .agg [.lit (.int .u8 0), .lit (.int .u8 0)]]
def laid_strconv_ErrRange {H : Type} : DataW H := .iface "*errors.errorString" (.ptr (.agg [.lit (.string [118, 97, 108, 117, 101, 32, 111, 117, 116, 32, 111, 102, 32, 114, 97, 110, 103, 101])]))
def laid_strconv_ErrSyntax {H : Type} : DataW H := .iface "*errors.errorString" (.ptr (.agg [.lit (.string [105, 110, 118, 97, 108, 105, 100, 32, 115, 121, 110, 116, 97, 120])]))
def laid_trestle_court_forms {H : Type} : DataW H := .agg [.agg [.lit (.string []), .lit (.int .i64 0), .lit (.int .i64 0), .lit (.bool false), .lit (.bool false), .lit (.bool false)], .agg [.lit (.string [114, 97, 110, 107]), .lit (.int .i64 0), .lit (.int .i64 0), .lit (.bool false), .lit (.bool true), .lit (.bool true)], .agg [.lit (.string [101, 108, 100, 101, 114]), .lit (.int .i64 0), .lit (.int .i64 0), .lit (.bool false), .lit (.bool false), .lit (.bool false)], .agg [.lit (.string [121, 111, 117, 116, 104]), .lit (.int .i64 0), .lit (.int .i64 0), .lit (.bool false), .lit (.bool false), .lit (.bool false)], .agg [.lit (.string [115, 105, 100, 101]), .lit (.int .i64 1), .lit (.int .i64 2), .lit (.bool true), .lit (.bool false), .lit (.bool false)], .agg [.lit (.string [104, 111, 115, 116]), .lit (.int .i64 0), .lit (.int .i64 0), .lit (.bool true), .lit (.bool false), .lit (.bool false)], .agg [.lit (.string [116, 111, 110, 103, 117, 101]), .lit (.int .i64 0), .lit (.int .i64 0), .lit (.bool true), .lit (.bool true), .lit (.bool false)], .agg [.lit (.string [99, 111, 117, 114, 116]), .lit (.int .i64 0), .lit (.int .i64 0), .lit (.bool true), .lit (.bool true), .lit (.bool false)], .agg [.lit (.string [110, 97, 109, 101]), .lit (.int .i64 0), .lit (.int .i64 0), .lit (.bool false), .lit (.bool false), .lit (.bool false)], .agg [.lit (.string [108, 105, 115, 116]), .lit (.int .i64 0), .lit (.int .i64 0), .lit (.bool false), .lit (.bool false), .lit (.bool false)], .agg [.lit (.string [108, 111, 116]), .lit (.int .i64 0), .lit (.int .i64 63), .lit (.bool false), .lit (.bool false), .lit (.bool false)]]
/-- One of Go's own tables, pinned by name: the form's constant. -/
def laid_unicode_utf8_first : DataW Unit := Go.Pinned.utf8First

/-- 'trestlelaw03.CourtOrders': WHATEVER THE INPUT: true; the input reads as it did. -/
def courtOrdersSpec : ChangeSpec := { name := "courtOrders", fn := fun _ => fun
  | [d1, d2] => { results := [.lit (.bool true)], args := [d1, d2] }
  | _ => none }
def courtOrdersRow : OpenClaim := { program := "ytdojhafbgoimeaagreatdoor", sum := "ae7f5f3409f738649ffcb03d42ea341d1e4692ef7428ea89a56000529e56907c", func := "trestle/trestlelaw03.CourtOrders", spec := "courtOrders", inPlace := ["internal/bytealg.IndexByteString", "internal/bytealg.IndexString", "internal/bytealg.CountString", "internal/abi.NoEscape", "internal/bytealg.MakeNoZero"], unfollowed := true, recurses := true, named := ["unicode/utf8.first", "unicode/utf8.acceptRanges", "trestle/court.forms", "internal/bytealg.MaxLen", "strconv.ErrSyntax", "strconv.ErrRange", "internal/strconv.uint64pow10", "math/bits.deBruijn32tab", "math/bits.deBruijn64tab"], apart := false, laid := [("math/bits.deBruijn32tab", laid_math_bits_deBruijn32tab), ("math/bits.deBruijn64tab", laid_math_bits_deBruijn64tab), ("internal/strconv.uint64pow10", laid_internal_strconv_uint64pow10), ("unicode/utf8.acceptRanges", laid_unicode_utf8_acceptRanges), ("strconv.ErrRange", laid_strconv_ErrRange), ("strconv.ErrSyntax", laid_strconv_ErrSyntax), ("trestle/court.forms", laid_trestle_court_forms), ("unicode/utf8.first", laid_unicode_utf8_first)] }
def CourtOrdersSaid : Prop := courtOrdersRow.holds Tryz.pinned (OpenSpec.ofChange courtOrdersSpec)

/-- ITS FALSE NEIGHBOUR: 'it returns false'. Refute it at one input. -/
def courtOrdersWrong : ChangeSpec := { name := "courtOrders", fn := fun _ => fun
  | [d1, d2] => { results := [.lit (.bool false)], args := [d1, d2] }
  | _ => none }
def CourtOrdersWrongFalsely : Prop := courtOrdersRow.holds Tryz.pinned (OpenSpec.ofChange courtOrdersWrong)

/-- 'trestlelaw03.CourtTurns': WHATEVER THE INPUT: true; the input reads as it did. -/
def courtTurnsSpec : ChangeSpec := { name := "courtTurns", fn := fun _ => fun
  | [d1, d2, d3] => { results := [.lit (.bool true)], args := [d1, d2, d3] }
  | _ => none }
def courtTurnsRow : OpenClaim := { program := "ytdojhafbgoimeaagreatdoor", sum := "ae7f5f3409f738649ffcb03d42ea341d1e4692ef7428ea89a56000529e56907c", func := "trestle/trestlelaw03.CourtTurns", spec := "courtTurns", inPlace := ["internal/bytealg.IndexByteString", "internal/bytealg.IndexString", "internal/bytealg.CountString", "internal/abi.NoEscape", "internal/bytealg.MakeNoZero"], unfollowed := true, recurses := true, named := ["unicode/utf8.first", "unicode/utf8.acceptRanges", "trestle/court.forms", "internal/bytealg.MaxLen", "strconv.ErrSyntax", "strconv.ErrRange", "internal/strconv.uint64pow10", "math/bits.deBruijn32tab", "math/bits.deBruijn64tab"], apart := false, laid := [("math/bits.deBruijn32tab", laid_math_bits_deBruijn32tab), ("math/bits.deBruijn64tab", laid_math_bits_deBruijn64tab), ("internal/strconv.uint64pow10", laid_internal_strconv_uint64pow10), ("unicode/utf8.acceptRanges", laid_unicode_utf8_acceptRanges), ("strconv.ErrRange", laid_strconv_ErrRange), ("strconv.ErrSyntax", laid_strconv_ErrSyntax), ("trestle/court.forms", laid_trestle_court_forms), ("unicode/utf8.first", laid_unicode_utf8_first)] }
def CourtTurnsSaid : Prop := courtTurnsRow.holds Tryz.pinned (OpenSpec.ofChange courtTurnsSpec)

/-- ITS FALSE NEIGHBOUR: 'it returns false'. Refute it at one input. -/
def courtTurnsWrong : ChangeSpec := { name := "courtTurns", fn := fun _ => fun
  | [d1, d2, d3] => { results := [.lit (.bool false)], args := [d1, d2, d3] }
  | _ => none }
def CourtTurnsWrongFalsely : Prop := courtTurnsRow.holds Tryz.pinned (OpenSpec.ofChange courtTurnsWrong)

/-- 'trestlelaw03.CourtPairs': WHATEVER THE INPUT: true; the input reads as it did. -/
def courtPairsSpec : ChangeSpec := { name := "courtPairs", fn := fun _ => fun
  | [d1, d2, d3] => { results := [.lit (.bool true)], args := [d1, d2, d3] }
  | _ => none }
def courtPairsRow : OpenClaim := { program := "ytdojhafbgoimeaagreatdoor", sum := "ae7f5f3409f738649ffcb03d42ea341d1e4692ef7428ea89a56000529e56907c", func := "trestle/trestlelaw03.CourtPairs", spec := "courtPairs", inPlace := ["internal/bytealg.IndexByteString", "internal/bytealg.IndexString", "internal/bytealg.CountString", "internal/abi.NoEscape", "internal/bytealg.MakeNoZero"], unfollowed := true, recurses := true, named := ["unicode/utf8.first", "unicode/utf8.acceptRanges", "trestle/court.forms", "internal/bytealg.MaxLen", "strconv.ErrSyntax", "strconv.ErrRange", "internal/strconv.uint64pow10", "math/bits.deBruijn32tab", "math/bits.deBruijn64tab"], apart := false, laid := [("math/bits.deBruijn32tab", laid_math_bits_deBruijn32tab), ("math/bits.deBruijn64tab", laid_math_bits_deBruijn64tab), ("internal/strconv.uint64pow10", laid_internal_strconv_uint64pow10), ("unicode/utf8.acceptRanges", laid_unicode_utf8_acceptRanges), ("strconv.ErrRange", laid_strconv_ErrRange), ("strconv.ErrSyntax", laid_strconv_ErrSyntax), ("trestle/court.forms", laid_trestle_court_forms), ("unicode/utf8.first", laid_unicode_utf8_first)] }
def CourtPairsSaid : Prop := courtPairsRow.holds Tryz.pinned (OpenSpec.ofChange courtPairsSpec)

/-- ITS FALSE NEIGHBOUR: 'it returns false'. Refute it at one input. -/
def courtPairsWrong : ChangeSpec := { name := "courtPairs", fn := fun _ => fun
  | [d1, d2, d3] => { results := [.lit (.bool false)], args := [d1, d2, d3] }
  | _ => none }
def CourtPairsWrongFalsely : Prop := courtPairsRow.holds Tryz.pinned (OpenSpec.ofChange courtPairsWrong)

/-- 'trestlelaw03.CourtCompromises': WHATEVER THE INPUT: true; the input reads as it did. -/
def courtCompromisesSpec : ChangeSpec := { name := "courtCompromises", fn := fun _ => fun
  | [d1, d2] => { results := [.lit (.bool true)], args := [d1, d2] }
  | _ => none }
def courtCompromisesRow : OpenClaim := { program := "ytdojhafbgoimeaagreatdoor", sum := "ae7f5f3409f738649ffcb03d42ea341d1e4692ef7428ea89a56000529e56907c", func := "trestle/trestlelaw03.CourtCompromises", spec := "courtCompromises", inPlace := ["internal/bytealg.IndexByteString", "internal/bytealg.IndexString", "internal/bytealg.CountString", "internal/abi.NoEscape", "internal/bytealg.MakeNoZero"], unfollowed := true, recurses := true, named := ["unicode/utf8.first", "unicode/utf8.acceptRanges", "trestle/court.forms", "internal/bytealg.MaxLen", "strconv.ErrSyntax", "strconv.ErrRange", "internal/strconv.uint64pow10", "math/bits.deBruijn32tab", "math/bits.deBruijn64tab"], apart := false, laid := [("math/bits.deBruijn32tab", laid_math_bits_deBruijn32tab), ("math/bits.deBruijn64tab", laid_math_bits_deBruijn64tab), ("internal/strconv.uint64pow10", laid_internal_strconv_uint64pow10), ("unicode/utf8.acceptRanges", laid_unicode_utf8_acceptRanges), ("strconv.ErrRange", laid_strconv_ErrRange), ("strconv.ErrSyntax", laid_strconv_ErrSyntax), ("trestle/court.forms", laid_trestle_court_forms), ("unicode/utf8.first", laid_unicode_utf8_first)] }
def CourtCompromisesSaid : Prop := courtCompromisesRow.holds Tryz.pinned (OpenSpec.ofChange courtCompromisesSpec)

/-- ITS FALSE NEIGHBOUR: 'it returns false'. Refute it at one input. -/
def courtCompromisesWrong : ChangeSpec := { name := "courtCompromises", fn := fun _ => fun
  | [d1, d2] => { results := [.lit (.bool false)], args := [d1, d2] }
  | _ => none }
def CourtCompromisesWrongFalsely : Prop := courtCompromisesRow.holds Tryz.pinned (OpenSpec.ofChange courtCompromisesWrong)

/-- 'trestlelaw03.CourtInversions': WHATEVER THE INPUT: true; the input reads as it did. -/
def courtInversionsSpec : ChangeSpec := { name := "courtInversions", fn := fun _ => fun
  | [d1, d2] => { results := [.lit (.bool true)], args := [d1, d2] }
  | _ => none }
def courtInversionsRow : OpenClaim := { program := "ytdojhafbgoimeaagreatdoor", sum := "ae7f5f3409f738649ffcb03d42ea341d1e4692ef7428ea89a56000529e56907c", func := "trestle/trestlelaw03.CourtInversions", spec := "courtInversions", inPlace := ["internal/bytealg.IndexByteString", "internal/bytealg.IndexString", "internal/bytealg.CountString", "internal/abi.NoEscape", "internal/bytealg.MakeNoZero"], unfollowed := true, recurses := true, named := ["unicode/utf8.first", "unicode/utf8.acceptRanges", "trestle/court.forms", "internal/bytealg.MaxLen", "strconv.ErrSyntax", "strconv.ErrRange", "internal/strconv.uint64pow10", "math/bits.deBruijn32tab", "math/bits.deBruijn64tab"], apart := false, laid := [("math/bits.deBruijn32tab", laid_math_bits_deBruijn32tab), ("math/bits.deBruijn64tab", laid_math_bits_deBruijn64tab), ("internal/strconv.uint64pow10", laid_internal_strconv_uint64pow10), ("unicode/utf8.acceptRanges", laid_unicode_utf8_acceptRanges), ("strconv.ErrRange", laid_strconv_ErrRange), ("strconv.ErrSyntax", laid_strconv_ErrSyntax), ("trestle/court.forms", laid_trestle_court_forms), ("unicode/utf8.first", laid_unicode_utf8_first)] }
def CourtInversionsSaid : Prop := courtInversionsRow.holds Tryz.pinned (OpenSpec.ofChange courtInversionsSpec)

/-- ITS FALSE NEIGHBOUR: 'it returns false'. Refute it at one input. -/
def courtInversionsWrong : ChangeSpec := { name := "courtInversions", fn := fun _ => fun
  | [d1, d2] => { results := [.lit (.bool false)], args := [d1, d2] }
  | _ => none }
def CourtInversionsWrongFalsely : Prop := courtInversionsRow.holds Tryz.pinned (OpenSpec.ofChange courtInversionsWrong)

/-- 'trestlelaw03.CourtWeak': WHATEVER THE INPUT: true; the input reads as it did. -/
def courtWeakSpec : ChangeSpec := { name := "courtWeak", fn := fun _ => fun
  | [d1, d2, d3, d4] => { results := [.lit (.bool true)], args := [d1, d2, d3, d4] }
  | _ => none }
def courtWeakRow : OpenClaim := { program := "ytdojhafbgoimeaagreatdoor", sum := "ae7f5f3409f738649ffcb03d42ea341d1e4692ef7428ea89a56000529e56907c", func := "trestle/trestlelaw03.CourtWeak", spec := "courtWeak", inPlace := ["internal/bytealg.IndexByteString", "internal/bytealg.IndexString", "internal/bytealg.CountString", "internal/abi.NoEscape", "internal/bytealg.MakeNoZero"], unfollowed := true, recurses := true, named := ["unicode/utf8.first", "unicode/utf8.acceptRanges", "trestle/court.forms", "internal/bytealg.MaxLen", "strconv.ErrSyntax", "strconv.ErrRange", "internal/strconv.uint64pow10", "math/bits.deBruijn32tab", "math/bits.deBruijn64tab"], apart := false, laid := [("math/bits.deBruijn32tab", laid_math_bits_deBruijn32tab), ("math/bits.deBruijn64tab", laid_math_bits_deBruijn64tab), ("internal/strconv.uint64pow10", laid_internal_strconv_uint64pow10), ("unicode/utf8.acceptRanges", laid_unicode_utf8_acceptRanges), ("strconv.ErrRange", laid_strconv_ErrRange), ("strconv.ErrSyntax", laid_strconv_ErrSyntax), ("trestle/court.forms", laid_trestle_court_forms), ("unicode/utf8.first", laid_unicode_utf8_first)] }
def CourtWeakSaid : Prop := courtWeakRow.holds Tryz.pinned (OpenSpec.ofChange courtWeakSpec)

/-- ITS FALSE NEIGHBOUR: 'it returns false'. Refute it at one input. -/
def courtWeakWrong : ChangeSpec := { name := "courtWeak", fn := fun _ => fun
  | [d1, d2, d3, d4] => { results := [.lit (.bool false)], args := [d1, d2, d3, d4] }
  | _ => none }
def CourtWeakWrongFalsely : Prop := courtWeakRow.holds Tryz.pinned (OpenSpec.ofChange courtWeakWrong)

/-- 'trestlelaw03.CourtGroups': WHATEVER THE INPUT: true; the input reads as it did. -/
def courtGroupsSpec : ChangeSpec := { name := "courtGroups", fn := fun _ => fun
  | [d1, d2] => { results := [.lit (.bool true)], args := [d1, d2] }
  | _ => none }
def courtGroupsRow : OpenClaim := { program := "ytdojhafbgoimeaagreatdoor", sum := "ae7f5f3409f738649ffcb03d42ea341d1e4692ef7428ea89a56000529e56907c", func := "trestle/trestlelaw03.CourtGroups", spec := "courtGroups", inPlace := ["internal/bytealg.IndexByteString", "internal/bytealg.IndexString", "internal/bytealg.CountString", "internal/abi.NoEscape", "internal/bytealg.MakeNoZero"], unfollowed := true, recurses := true, named := ["unicode/utf8.first", "unicode/utf8.acceptRanges", "trestle/court.forms", "internal/bytealg.MaxLen", "strconv.ErrSyntax", "strconv.ErrRange", "internal/strconv.uint64pow10", "math/bits.deBruijn32tab", "math/bits.deBruijn64tab"], apart := false, laid := [("math/bits.deBruijn32tab", laid_math_bits_deBruijn32tab), ("math/bits.deBruijn64tab", laid_math_bits_deBruijn64tab), ("internal/strconv.uint64pow10", laid_internal_strconv_uint64pow10), ("unicode/utf8.acceptRanges", laid_unicode_utf8_acceptRanges), ("strconv.ErrRange", laid_strconv_ErrRange), ("strconv.ErrSyntax", laid_strconv_ErrSyntax), ("trestle/court.forms", laid_trestle_court_forms), ("unicode/utf8.first", laid_unicode_utf8_first)] }
def CourtGroupsSaid : Prop := courtGroupsRow.holds Tryz.pinned (OpenSpec.ofChange courtGroupsSpec)

/-- ITS FALSE NEIGHBOUR: 'it returns false'. Refute it at one input. -/
def courtGroupsWrong : ChangeSpec := { name := "courtGroups", fn := fun _ => fun
  | [d1, d2] => { results := [.lit (.bool false)], args := [d1, d2] }
  | _ => none }
def CourtGroupsWrongFalsely : Prop := courtGroupsRow.holds Tryz.pinned (OpenSpec.ofChange courtGroupsWrong)

/-- 'trestlelaw03.CourtMoved': WHATEVER THE INPUT: true; the input reads as it did. -/
def courtMovedSpec : ChangeSpec := { name := "courtMoved", fn := fun _ => fun
  | [d1, d2, d3] => { results := [.lit (.bool true)], args := [d1, d2, d3] }
  | _ => none }
def courtMovedRow : OpenClaim := { program := "ytdojhafbgoimeaagreatdoor", sum := "ae7f5f3409f738649ffcb03d42ea341d1e4692ef7428ea89a56000529e56907c", func := "trestle/trestlelaw03.CourtMoved", spec := "courtMoved", inPlace := ["internal/bytealg.IndexByteString", "internal/bytealg.IndexString", "internal/bytealg.CountString", "internal/abi.NoEscape", "internal/bytealg.MakeNoZero"], unfollowed := true, recurses := true, named := ["unicode/utf8.first", "unicode/utf8.acceptRanges", "trestle/court.forms", "internal/bytealg.MaxLen", "strconv.ErrSyntax", "strconv.ErrRange", "internal/strconv.uint64pow10", "math/bits.deBruijn32tab", "math/bits.deBruijn64tab"], apart := false, laid := [("math/bits.deBruijn32tab", laid_math_bits_deBruijn32tab), ("math/bits.deBruijn64tab", laid_math_bits_deBruijn64tab), ("internal/strconv.uint64pow10", laid_internal_strconv_uint64pow10), ("unicode/utf8.acceptRanges", laid_unicode_utf8_acceptRanges), ("strconv.ErrRange", laid_strconv_ErrRange), ("strconv.ErrSyntax", laid_strconv_ErrSyntax), ("trestle/court.forms", laid_trestle_court_forms), ("unicode/utf8.first", laid_unicode_utf8_first)] }
def CourtMovedSaid : Prop := courtMovedRow.holds Tryz.pinned (OpenSpec.ofChange courtMovedSpec)

/-- ITS FALSE NEIGHBOUR: 'it returns false'. Refute it at one input. -/
def courtMovedWrong : ChangeSpec := { name := "courtMoved", fn := fun _ => fun
  | [d1, d2, d3] => { results := [.lit (.bool false)], args := [d1, d2, d3] }
  | _ => none }
def CourtMovedWrongFalsely : Prop := courtMovedRow.holds Tryz.pinned (OpenSpec.ofChange courtMovedWrong)

/-- 'trestlelaw03.CourtTakes': WHATEVER THE INPUT: true; the input reads as it did. -/
def courtTakesSpec : ChangeSpec := { name := "courtTakes", fn := fun _ => fun
  | [d1, d2] => { results := [.lit (.bool true)], args := [d1, d2] }
  | _ => none }
def courtTakesRow : OpenClaim := { program := "ytdojhafbgoimeaagreatdoor", sum := "ae7f5f3409f738649ffcb03d42ea341d1e4692ef7428ea89a56000529e56907c", func := "trestle/trestlelaw03.CourtTakes", spec := "courtTakes", inPlace := ["internal/bytealg.IndexByteString", "internal/bytealg.IndexString", "internal/bytealg.CountString", "internal/abi.NoEscape", "internal/bytealg.MakeNoZero"], unfollowed := true, recurses := true, named := ["unicode/utf8.first", "unicode/utf8.acceptRanges", "trestle/court.forms", "internal/bytealg.MaxLen", "strconv.ErrSyntax", "strconv.ErrRange", "internal/strconv.uint64pow10", "math/bits.deBruijn32tab", "math/bits.deBruijn64tab"], apart := false, laid := [("math/bits.deBruijn32tab", laid_math_bits_deBruijn32tab), ("math/bits.deBruijn64tab", laid_math_bits_deBruijn64tab), ("internal/strconv.uint64pow10", laid_internal_strconv_uint64pow10), ("unicode/utf8.acceptRanges", laid_unicode_utf8_acceptRanges), ("strconv.ErrRange", laid_strconv_ErrRange), ("strconv.ErrSyntax", laid_strconv_ErrSyntax), ("trestle/court.forms", laid_trestle_court_forms), ("unicode/utf8.first", laid_unicode_utf8_first)] }
def CourtTakesSaid : Prop := courtTakesRow.holds Tryz.pinned (OpenSpec.ofChange courtTakesSpec)

/-- ITS FALSE NEIGHBOUR: 'it returns false'. Refute it at one input. -/
def courtTakesWrong : ChangeSpec := { name := "courtTakes", fn := fun _ => fun
  | [d1, d2] => { results := [.lit (.bool false)], args := [d1, d2] }
  | _ => none }
def CourtTakesWrongFalsely : Prop := courtTakesRow.holds Tryz.pinned (OpenSpec.ofChange courtTakesWrong)

/-- 'trestlelaw03.CourtPareto': WHATEVER THE INPUT: true; the input reads as it did. -/
def courtParetoSpec : ChangeSpec := { name := "courtPareto", fn := fun _ => fun
  | [d1, d2] => { results := [.lit (.bool true)], args := [d1, d2] }
  | _ => none }
def courtParetoRow : OpenClaim := { program := "ytdojhafbgoimeaagreatdoor", sum := "ae7f5f3409f738649ffcb03d42ea341d1e4692ef7428ea89a56000529e56907c", func := "trestle/trestlelaw03.CourtPareto", spec := "courtPareto", inPlace := ["internal/bytealg.IndexByteString", "internal/bytealg.IndexString", "internal/bytealg.CountString", "internal/abi.NoEscape", "internal/bytealg.MakeNoZero"], unfollowed := true, recurses := true, named := ["unicode/utf8.first", "unicode/utf8.acceptRanges", "trestle/court.forms", "internal/bytealg.MaxLen", "strconv.ErrSyntax", "strconv.ErrRange", "internal/strconv.uint64pow10", "math/bits.deBruijn32tab", "math/bits.deBruijn64tab"], apart := false, laid := [("math/bits.deBruijn32tab", laid_math_bits_deBruijn32tab), ("math/bits.deBruijn64tab", laid_math_bits_deBruijn64tab), ("internal/strconv.uint64pow10", laid_internal_strconv_uint64pow10), ("unicode/utf8.acceptRanges", laid_unicode_utf8_acceptRanges), ("strconv.ErrRange", laid_strconv_ErrRange), ("strconv.ErrSyntax", laid_strconv_ErrSyntax), ("trestle/court.forms", laid_trestle_court_forms), ("unicode/utf8.first", laid_unicode_utf8_first)] }
def CourtParetoSaid : Prop := courtParetoRow.holds Tryz.pinned (OpenSpec.ofChange courtParetoSpec)

/-- ITS FALSE NEIGHBOUR: 'it returns false'. Refute it at one input. -/
def courtParetoWrong : ChangeSpec := { name := "courtPareto", fn := fun _ => fun
  | [d1, d2] => { results := [.lit (.bool false)], args := [d1, d2] }
  | _ => none }
def CourtParetoWrongFalsely : Prop := courtParetoRow.holds Tryz.pinned (OpenSpec.ofChange courtParetoWrong)

/-- 'trestlelaw03.CourtLeast': WHATEVER THE INPUT: true; the input reads as it did. -/
def courtLeastSpec : ChangeSpec := { name := "courtLeast", fn := fun _ => fun
  | [d1, d2, d3] => { results := [.lit (.bool true)], args := [d1, d2, d3] }
  | _ => none }
def courtLeastRow : OpenClaim := { program := "ytdojhafbgoimeaagreatdoor", sum := "ae7f5f3409f738649ffcb03d42ea341d1e4692ef7428ea89a56000529e56907c", func := "trestle/trestlelaw03.CourtLeast", spec := "courtLeast", inPlace := ["internal/bytealg.IndexByteString", "internal/bytealg.IndexString", "internal/bytealg.CountString", "internal/abi.NoEscape", "internal/bytealg.MakeNoZero"], unfollowed := true, recurses := true, named := ["unicode/utf8.first", "unicode/utf8.acceptRanges", "trestle/court.forms", "internal/bytealg.MaxLen", "strconv.ErrSyntax", "strconv.ErrRange", "internal/strconv.uint64pow10", "math/bits.deBruijn32tab", "math/bits.deBruijn64tab"], apart := false, laid := [("math/bits.deBruijn32tab", laid_math_bits_deBruijn32tab), ("math/bits.deBruijn64tab", laid_math_bits_deBruijn64tab), ("internal/strconv.uint64pow10", laid_internal_strconv_uint64pow10), ("unicode/utf8.acceptRanges", laid_unicode_utf8_acceptRanges), ("strconv.ErrRange", laid_strconv_ErrRange), ("strconv.ErrSyntax", laid_strconv_ErrSyntax), ("trestle/court.forms", laid_trestle_court_forms), ("unicode/utf8.first", laid_unicode_utf8_first)] }
def CourtLeastSaid : Prop := courtLeastRow.holds Tryz.pinned (OpenSpec.ofChange courtLeastSpec)

/-- ITS FALSE NEIGHBOUR: 'it returns false'. Refute it at one input. -/
def courtLeastWrong : ChangeSpec := { name := "courtLeast", fn := fun _ => fun
  | [d1, d2, d3] => { results := [.lit (.bool false)], args := [d1, d2, d3] }
  | _ => none }
def CourtLeastWrongFalsely : Prop := courtLeastRow.holds Tryz.pinned (OpenSpec.ofChange courtLeastWrong)

/-- 'trestlelaw03.CourtReverse': WHATEVER THE INPUT: true; the input reads as it did. -/
def courtReverseSpec : ChangeSpec := { name := "courtReverse", fn := fun _ => fun
  | [d1, d2, d3] => { results := [.lit (.bool true)], args := [d1, d2, d3] }
  | _ => none }
def courtReverseRow : OpenClaim := { program := "ytdojhafbgoimeaagreatdoor", sum := "ae7f5f3409f738649ffcb03d42ea341d1e4692ef7428ea89a56000529e56907c", func := "trestle/trestlelaw03.CourtReverse", spec := "courtReverse", inPlace := ["internal/bytealg.IndexByteString", "internal/bytealg.IndexString", "internal/bytealg.CountString", "internal/abi.NoEscape", "internal/bytealg.MakeNoZero"], unfollowed := true, recurses := true, named := ["unicode/utf8.first", "unicode/utf8.acceptRanges", "trestle/court.forms", "internal/bytealg.MaxLen", "strconv.ErrSyntax", "strconv.ErrRange", "internal/strconv.uint64pow10", "math/bits.deBruijn32tab", "math/bits.deBruijn64tab"], apart := false, laid := [("math/bits.deBruijn32tab", laid_math_bits_deBruijn32tab), ("math/bits.deBruijn64tab", laid_math_bits_deBruijn64tab), ("internal/strconv.uint64pow10", laid_internal_strconv_uint64pow10), ("unicode/utf8.acceptRanges", laid_unicode_utf8_acceptRanges), ("strconv.ErrRange", laid_strconv_ErrRange), ("strconv.ErrSyntax", laid_strconv_ErrSyntax), ("trestle/court.forms", laid_trestle_court_forms), ("unicode/utf8.first", laid_unicode_utf8_first)] }
def CourtReverseSaid : Prop := courtReverseRow.holds Tryz.pinned (OpenSpec.ofChange courtReverseSpec)

/-- ITS FALSE NEIGHBOUR: 'it returns false'. Refute it at one input. -/
def courtReverseWrong : ChangeSpec := { name := "courtReverse", fn := fun _ => fun
  | [d1, d2, d3] => { results := [.lit (.bool false)], args := [d1, d2, d3] }
  | _ => none }
def CourtReverseWrongFalsely : Prop := courtReverseRow.holds Tryz.pinned (OpenSpec.ofChange courtReverseWrong)

/- THE SECOND FORM. 'bulk': how many values and letters a reading holds, each counted each time it is reached (what is shared counts as often as it is met; a slice's spare places count too). A statement '..UptoSaid' is the law's where the arguments, and the package variables that the reading takes, are together of bulk at most 1048576: NARROWER than '..Said'. Prove '..Said' where nothing that the law and all that it calls make is longer than what came in: it says more and counts as full. Else prove '..UptoSaid'. A law counts once. -/
mutual
def uptoBulk {H : Type} : DataW H → Nat
  | .lit (.string bytes) => bytes.length + 1
  | .lit _ => 1
  | .nil => 1
  | .ptr d => uptoBulk d + 1
  | .slice elems spare => uptoBulkAll elems + uptoBulkAll spare + 1
  | .agg parts => uptoBulkAll parts + 1
  | .iface _ d => uptoBulk d + 1
  | .map entries => uptoBulkEntries entries + 1
  | .held _ => 1
def uptoBulkAll {H : Type} : List (DataW H) → Nat
  | [] => 0
  | d :: r => uptoBulk d + uptoBulkAll r
def uptoBulkEntries {H : Type} : List (Lit × DataW H) → Nat
  | [] => 0
  | x :: r => uptoBulkEntry x + uptoBulkEntries r
def uptoBulkEntry {H : Type} : Lit × DataW H → Nat
  | (.string bytes, d) => bytes.length + uptoBulk d + 1
  | (_, d) => uptoBulk d + 1
 end
def uptoSmall : (H : Type) → List (DataW H) → Bool := fun _ ds => decide (uptoBulkAll ds ≤ 1048576)
def OpenSpec.upto (s : _root_.Go.ChangeSpec) : _root_.Go.OpenSpec := { _root_.Go.OpenSpec.ofChange s with cond := some uptoSmall }

/-- 'trestlelaw03.CourtOrders', WHERE WHAT IT READS IS OF BULK AT MOST 1048576: true; the input reads as it did. -/
def courtOrdersUptoRow : OpenClaim := { program := "ytdojhafbgoimeaagreatdoor", sum := "ae7f5f3409f738649ffcb03d42ea341d1e4692ef7428ea89a56000529e56907c", func := "trestle/trestlelaw03.CourtOrders", spec := "courtOrders", inPlace := ["internal/bytealg.IndexByteString", "internal/bytealg.IndexString", "internal/bytealg.CountString", "internal/abi.NoEscape", "internal/bytealg.MakeNoZero"], unfollowed := true, recurses := true, named := ["unicode/utf8.first", "unicode/utf8.acceptRanges", "trestle/court.forms", "internal/bytealg.MaxLen", "strconv.ErrSyntax", "strconv.ErrRange", "internal/strconv.uint64pow10", "math/bits.deBruijn32tab", "math/bits.deBruijn64tab"], apart := false, laid := [("math/bits.deBruijn32tab", laid_math_bits_deBruijn32tab), ("math/bits.deBruijn64tab", laid_math_bits_deBruijn64tab), ("internal/strconv.uint64pow10", laid_internal_strconv_uint64pow10), ("unicode/utf8.acceptRanges", laid_unicode_utf8_acceptRanges), ("strconv.ErrRange", laid_strconv_ErrRange), ("strconv.ErrSyntax", laid_strconv_ErrSyntax), ("trestle/court.forms", laid_trestle_court_forms), ("unicode/utf8.first", laid_unicode_utf8_first)], narrowed := true }
def CourtOrdersUptoSaid : Prop := courtOrdersUptoRow.holds Tryz.pinned (OpenSpec.upto courtOrdersSpec)

/-- 'trestlelaw03.CourtTurns', WHERE WHAT IT READS IS OF BULK AT MOST 1048576: true; the input reads as it did. -/
def courtTurnsUptoRow : OpenClaim := { program := "ytdojhafbgoimeaagreatdoor", sum := "ae7f5f3409f738649ffcb03d42ea341d1e4692ef7428ea89a56000529e56907c", func := "trestle/trestlelaw03.CourtTurns", spec := "courtTurns", inPlace := ["internal/bytealg.IndexByteString", "internal/bytealg.IndexString", "internal/bytealg.CountString", "internal/abi.NoEscape", "internal/bytealg.MakeNoZero"], unfollowed := true, recurses := true, named := ["unicode/utf8.first", "unicode/utf8.acceptRanges", "trestle/court.forms", "internal/bytealg.MaxLen", "strconv.ErrSyntax", "strconv.ErrRange", "internal/strconv.uint64pow10", "math/bits.deBruijn32tab", "math/bits.deBruijn64tab"], apart := false, laid := [("math/bits.deBruijn32tab", laid_math_bits_deBruijn32tab), ("math/bits.deBruijn64tab", laid_math_bits_deBruijn64tab), ("internal/strconv.uint64pow10", laid_internal_strconv_uint64pow10), ("unicode/utf8.acceptRanges", laid_unicode_utf8_acceptRanges), ("strconv.ErrRange", laid_strconv_ErrRange), ("strconv.ErrSyntax", laid_strconv_ErrSyntax), ("trestle/court.forms", laid_trestle_court_forms), ("unicode/utf8.first", laid_unicode_utf8_first)], narrowed := true }
def CourtTurnsUptoSaid : Prop := courtTurnsUptoRow.holds Tryz.pinned (OpenSpec.upto courtTurnsSpec)

/-- 'trestlelaw03.CourtPairs', WHERE WHAT IT READS IS OF BULK AT MOST 1048576: true; the input reads as it did. -/
def courtPairsUptoRow : OpenClaim := { program := "ytdojhafbgoimeaagreatdoor", sum := "ae7f5f3409f738649ffcb03d42ea341d1e4692ef7428ea89a56000529e56907c", func := "trestle/trestlelaw03.CourtPairs", spec := "courtPairs", inPlace := ["internal/bytealg.IndexByteString", "internal/bytealg.IndexString", "internal/bytealg.CountString", "internal/abi.NoEscape", "internal/bytealg.MakeNoZero"], unfollowed := true, recurses := true, named := ["unicode/utf8.first", "unicode/utf8.acceptRanges", "trestle/court.forms", "internal/bytealg.MaxLen", "strconv.ErrSyntax", "strconv.ErrRange", "internal/strconv.uint64pow10", "math/bits.deBruijn32tab", "math/bits.deBruijn64tab"], apart := false, laid := [("math/bits.deBruijn32tab", laid_math_bits_deBruijn32tab), ("math/bits.deBruijn64tab", laid_math_bits_deBruijn64tab), ("internal/strconv.uint64pow10", laid_internal_strconv_uint64pow10), ("unicode/utf8.acceptRanges", laid_unicode_utf8_acceptRanges), ("strconv.ErrRange", laid_strconv_ErrRange), ("strconv.ErrSyntax", laid_strconv_ErrSyntax), ("trestle/court.forms", laid_trestle_court_forms), ("unicode/utf8.first", laid_unicode_utf8_first)], narrowed := true }
def CourtPairsUptoSaid : Prop := courtPairsUptoRow.holds Tryz.pinned (OpenSpec.upto courtPairsSpec)

/-- 'trestlelaw03.CourtCompromises', WHERE WHAT IT READS IS OF BULK AT MOST 1048576: true; the input reads as it did. -/
def courtCompromisesUptoRow : OpenClaim := { program := "ytdojhafbgoimeaagreatdoor", sum := "ae7f5f3409f738649ffcb03d42ea341d1e4692ef7428ea89a56000529e56907c", func := "trestle/trestlelaw03.CourtCompromises", spec := "courtCompromises", inPlace := ["internal/bytealg.IndexByteString", "internal/bytealg.IndexString", "internal/bytealg.CountString", "internal/abi.NoEscape", "internal/bytealg.MakeNoZero"], unfollowed := true, recurses := true, named := ["unicode/utf8.first", "unicode/utf8.acceptRanges", "trestle/court.forms", "internal/bytealg.MaxLen", "strconv.ErrSyntax", "strconv.ErrRange", "internal/strconv.uint64pow10", "math/bits.deBruijn32tab", "math/bits.deBruijn64tab"], apart := false, laid := [("math/bits.deBruijn32tab", laid_math_bits_deBruijn32tab), ("math/bits.deBruijn64tab", laid_math_bits_deBruijn64tab), ("internal/strconv.uint64pow10", laid_internal_strconv_uint64pow10), ("unicode/utf8.acceptRanges", laid_unicode_utf8_acceptRanges), ("strconv.ErrRange", laid_strconv_ErrRange), ("strconv.ErrSyntax", laid_strconv_ErrSyntax), ("trestle/court.forms", laid_trestle_court_forms), ("unicode/utf8.first", laid_unicode_utf8_first)], narrowed := true }
def CourtCompromisesUptoSaid : Prop := courtCompromisesUptoRow.holds Tryz.pinned (OpenSpec.upto courtCompromisesSpec)

/-- 'trestlelaw03.CourtInversions', WHERE WHAT IT READS IS OF BULK AT MOST 1048576: true; the input reads as it did. -/
def courtInversionsUptoRow : OpenClaim := { program := "ytdojhafbgoimeaagreatdoor", sum := "ae7f5f3409f738649ffcb03d42ea341d1e4692ef7428ea89a56000529e56907c", func := "trestle/trestlelaw03.CourtInversions", spec := "courtInversions", inPlace := ["internal/bytealg.IndexByteString", "internal/bytealg.IndexString", "internal/bytealg.CountString", "internal/abi.NoEscape", "internal/bytealg.MakeNoZero"], unfollowed := true, recurses := true, named := ["unicode/utf8.first", "unicode/utf8.acceptRanges", "trestle/court.forms", "internal/bytealg.MaxLen", "strconv.ErrSyntax", "strconv.ErrRange", "internal/strconv.uint64pow10", "math/bits.deBruijn32tab", "math/bits.deBruijn64tab"], apart := false, laid := [("math/bits.deBruijn32tab", laid_math_bits_deBruijn32tab), ("math/bits.deBruijn64tab", laid_math_bits_deBruijn64tab), ("internal/strconv.uint64pow10", laid_internal_strconv_uint64pow10), ("unicode/utf8.acceptRanges", laid_unicode_utf8_acceptRanges), ("strconv.ErrRange", laid_strconv_ErrRange), ("strconv.ErrSyntax", laid_strconv_ErrSyntax), ("trestle/court.forms", laid_trestle_court_forms), ("unicode/utf8.first", laid_unicode_utf8_first)], narrowed := true }
def CourtInversionsUptoSaid : Prop := courtInversionsUptoRow.holds Tryz.pinned (OpenSpec.upto courtInversionsSpec)

/-- 'trestlelaw03.CourtWeak', WHERE WHAT IT READS IS OF BULK AT MOST 1048576: true; the input reads as it did. -/
def courtWeakUptoRow : OpenClaim := { program := "ytdojhafbgoimeaagreatdoor", sum := "ae7f5f3409f738649ffcb03d42ea341d1e4692ef7428ea89a56000529e56907c", func := "trestle/trestlelaw03.CourtWeak", spec := "courtWeak", inPlace := ["internal/bytealg.IndexByteString", "internal/bytealg.IndexString", "internal/bytealg.CountString", "internal/abi.NoEscape", "internal/bytealg.MakeNoZero"], unfollowed := true, recurses := true, named := ["unicode/utf8.first", "unicode/utf8.acceptRanges", "trestle/court.forms", "internal/bytealg.MaxLen", "strconv.ErrSyntax", "strconv.ErrRange", "internal/strconv.uint64pow10", "math/bits.deBruijn32tab", "math/bits.deBruijn64tab"], apart := false, laid := [("math/bits.deBruijn32tab", laid_math_bits_deBruijn32tab), ("math/bits.deBruijn64tab", laid_math_bits_deBruijn64tab), ("internal/strconv.uint64pow10", laid_internal_strconv_uint64pow10), ("unicode/utf8.acceptRanges", laid_unicode_utf8_acceptRanges), ("strconv.ErrRange", laid_strconv_ErrRange), ("strconv.ErrSyntax", laid_strconv_ErrSyntax), ("trestle/court.forms", laid_trestle_court_forms), ("unicode/utf8.first", laid_unicode_utf8_first)], narrowed := true }
def CourtWeakUptoSaid : Prop := courtWeakUptoRow.holds Tryz.pinned (OpenSpec.upto courtWeakSpec)

/-- 'trestlelaw03.CourtGroups', WHERE WHAT IT READS IS OF BULK AT MOST 1048576: true; the input reads as it did. -/
def courtGroupsUptoRow : OpenClaim := { program := "ytdojhafbgoimeaagreatdoor", sum := "ae7f5f3409f738649ffcb03d42ea341d1e4692ef7428ea89a56000529e56907c", func := "trestle/trestlelaw03.CourtGroups", spec := "courtGroups", inPlace := ["internal/bytealg.IndexByteString", "internal/bytealg.IndexString", "internal/bytealg.CountString", "internal/abi.NoEscape", "internal/bytealg.MakeNoZero"], unfollowed := true, recurses := true, named := ["unicode/utf8.first", "unicode/utf8.acceptRanges", "trestle/court.forms", "internal/bytealg.MaxLen", "strconv.ErrSyntax", "strconv.ErrRange", "internal/strconv.uint64pow10", "math/bits.deBruijn32tab", "math/bits.deBruijn64tab"], apart := false, laid := [("math/bits.deBruijn32tab", laid_math_bits_deBruijn32tab), ("math/bits.deBruijn64tab", laid_math_bits_deBruijn64tab), ("internal/strconv.uint64pow10", laid_internal_strconv_uint64pow10), ("unicode/utf8.acceptRanges", laid_unicode_utf8_acceptRanges), ("strconv.ErrRange", laid_strconv_ErrRange), ("strconv.ErrSyntax", laid_strconv_ErrSyntax), ("trestle/court.forms", laid_trestle_court_forms), ("unicode/utf8.first", laid_unicode_utf8_first)], narrowed := true }
def CourtGroupsUptoSaid : Prop := courtGroupsUptoRow.holds Tryz.pinned (OpenSpec.upto courtGroupsSpec)

/-- 'trestlelaw03.CourtMoved', WHERE WHAT IT READS IS OF BULK AT MOST 1048576: true; the input reads as it did. -/
def courtMovedUptoRow : OpenClaim := { program := "ytdojhafbgoimeaagreatdoor", sum := "ae7f5f3409f738649ffcb03d42ea341d1e4692ef7428ea89a56000529e56907c", func := "trestle/trestlelaw03.CourtMoved", spec := "courtMoved", inPlace := ["internal/bytealg.IndexByteString", "internal/bytealg.IndexString", "internal/bytealg.CountString", "internal/abi.NoEscape", "internal/bytealg.MakeNoZero"], unfollowed := true, recurses := true, named := ["unicode/utf8.first", "unicode/utf8.acceptRanges", "trestle/court.forms", "internal/bytealg.MaxLen", "strconv.ErrSyntax", "strconv.ErrRange", "internal/strconv.uint64pow10", "math/bits.deBruijn32tab", "math/bits.deBruijn64tab"], apart := false, laid := [("math/bits.deBruijn32tab", laid_math_bits_deBruijn32tab), ("math/bits.deBruijn64tab", laid_math_bits_deBruijn64tab), ("internal/strconv.uint64pow10", laid_internal_strconv_uint64pow10), ("unicode/utf8.acceptRanges", laid_unicode_utf8_acceptRanges), ("strconv.ErrRange", laid_strconv_ErrRange), ("strconv.ErrSyntax", laid_strconv_ErrSyntax), ("trestle/court.forms", laid_trestle_court_forms), ("unicode/utf8.first", laid_unicode_utf8_first)], narrowed := true }
def CourtMovedUptoSaid : Prop := courtMovedUptoRow.holds Tryz.pinned (OpenSpec.upto courtMovedSpec)

/-- 'trestlelaw03.CourtTakes', WHERE WHAT IT READS IS OF BULK AT MOST 1048576: true; the input reads as it did. -/
def courtTakesUptoRow : OpenClaim := { program := "ytdojhafbgoimeaagreatdoor", sum := "ae7f5f3409f738649ffcb03d42ea341d1e4692ef7428ea89a56000529e56907c", func := "trestle/trestlelaw03.CourtTakes", spec := "courtTakes", inPlace := ["internal/bytealg.IndexByteString", "internal/bytealg.IndexString", "internal/bytealg.CountString", "internal/abi.NoEscape", "internal/bytealg.MakeNoZero"], unfollowed := true, recurses := true, named := ["unicode/utf8.first", "unicode/utf8.acceptRanges", "trestle/court.forms", "internal/bytealg.MaxLen", "strconv.ErrSyntax", "strconv.ErrRange", "internal/strconv.uint64pow10", "math/bits.deBruijn32tab", "math/bits.deBruijn64tab"], apart := false, laid := [("math/bits.deBruijn32tab", laid_math_bits_deBruijn32tab), ("math/bits.deBruijn64tab", laid_math_bits_deBruijn64tab), ("internal/strconv.uint64pow10", laid_internal_strconv_uint64pow10), ("unicode/utf8.acceptRanges", laid_unicode_utf8_acceptRanges), ("strconv.ErrRange", laid_strconv_ErrRange), ("strconv.ErrSyntax", laid_strconv_ErrSyntax), ("trestle/court.forms", laid_trestle_court_forms), ("unicode/utf8.first", laid_unicode_utf8_first)], narrowed := true }
def CourtTakesUptoSaid : Prop := courtTakesUptoRow.holds Tryz.pinned (OpenSpec.upto courtTakesSpec)

/-- 'trestlelaw03.CourtPareto', WHERE WHAT IT READS IS OF BULK AT MOST 1048576: true; the input reads as it did. -/
def courtParetoUptoRow : OpenClaim := { program := "ytdojhafbgoimeaagreatdoor", sum := "ae7f5f3409f738649ffcb03d42ea341d1e4692ef7428ea89a56000529e56907c", func := "trestle/trestlelaw03.CourtPareto", spec := "courtPareto", inPlace := ["internal/bytealg.IndexByteString", "internal/bytealg.IndexString", "internal/bytealg.CountString", "internal/abi.NoEscape", "internal/bytealg.MakeNoZero"], unfollowed := true, recurses := true, named := ["unicode/utf8.first", "unicode/utf8.acceptRanges", "trestle/court.forms", "internal/bytealg.MaxLen", "strconv.ErrSyntax", "strconv.ErrRange", "internal/strconv.uint64pow10", "math/bits.deBruijn32tab", "math/bits.deBruijn64tab"], apart := false, laid := [("math/bits.deBruijn32tab", laid_math_bits_deBruijn32tab), ("math/bits.deBruijn64tab", laid_math_bits_deBruijn64tab), ("internal/strconv.uint64pow10", laid_internal_strconv_uint64pow10), ("unicode/utf8.acceptRanges", laid_unicode_utf8_acceptRanges), ("strconv.ErrRange", laid_strconv_ErrRange), ("strconv.ErrSyntax", laid_strconv_ErrSyntax), ("trestle/court.forms", laid_trestle_court_forms), ("unicode/utf8.first", laid_unicode_utf8_first)], narrowed := true }
def CourtParetoUptoSaid : Prop := courtParetoUptoRow.holds Tryz.pinned (OpenSpec.upto courtParetoSpec)

/-- 'trestlelaw03.CourtLeast', WHERE WHAT IT READS IS OF BULK AT MOST 1048576: true; the input reads as it did. -/
def courtLeastUptoRow : OpenClaim := { program := "ytdojhafbgoimeaagreatdoor", sum := "ae7f5f3409f738649ffcb03d42ea341d1e4692ef7428ea89a56000529e56907c", func := "trestle/trestlelaw03.CourtLeast", spec := "courtLeast", inPlace := ["internal/bytealg.IndexByteString", "internal/bytealg.IndexString", "internal/bytealg.CountString", "internal/abi.NoEscape", "internal/bytealg.MakeNoZero"], unfollowed := true, recurses := true, named := ["unicode/utf8.first", "unicode/utf8.acceptRanges", "trestle/court.forms", "internal/bytealg.MaxLen", "strconv.ErrSyntax", "strconv.ErrRange", "internal/strconv.uint64pow10", "math/bits.deBruijn32tab", "math/bits.deBruijn64tab"], apart := false, laid := [("math/bits.deBruijn32tab", laid_math_bits_deBruijn32tab), ("math/bits.deBruijn64tab", laid_math_bits_deBruijn64tab), ("internal/strconv.uint64pow10", laid_internal_strconv_uint64pow10), ("unicode/utf8.acceptRanges", laid_unicode_utf8_acceptRanges), ("strconv.ErrRange", laid_strconv_ErrRange), ("strconv.ErrSyntax", laid_strconv_ErrSyntax), ("trestle/court.forms", laid_trestle_court_forms), ("unicode/utf8.first", laid_unicode_utf8_first)], narrowed := true }
def CourtLeastUptoSaid : Prop := courtLeastUptoRow.holds Tryz.pinned (OpenSpec.upto courtLeastSpec)

/-- 'trestlelaw03.CourtReverse', WHERE WHAT IT READS IS OF BULK AT MOST 1048576: true; the input reads as it did. -/
def courtReverseUptoRow : OpenClaim := { program := "ytdojhafbgoimeaagreatdoor", sum := "ae7f5f3409f738649ffcb03d42ea341d1e4692ef7428ea89a56000529e56907c", func := "trestle/trestlelaw03.CourtReverse", spec := "courtReverse", inPlace := ["internal/bytealg.IndexByteString", "internal/bytealg.IndexString", "internal/bytealg.CountString", "internal/abi.NoEscape", "internal/bytealg.MakeNoZero"], unfollowed := true, recurses := true, named := ["unicode/utf8.first", "unicode/utf8.acceptRanges", "trestle/court.forms", "internal/bytealg.MaxLen", "strconv.ErrSyntax", "strconv.ErrRange", "internal/strconv.uint64pow10", "math/bits.deBruijn32tab", "math/bits.deBruijn64tab"], apart := false, laid := [("math/bits.deBruijn32tab", laid_math_bits_deBruijn32tab), ("math/bits.deBruijn64tab", laid_math_bits_deBruijn64tab), ("internal/strconv.uint64pow10", laid_internal_strconv_uint64pow10), ("unicode/utf8.acceptRanges", laid_unicode_utf8_acceptRanges), ("strconv.ErrRange", laid_strconv_ErrRange), ("strconv.ErrSyntax", laid_strconv_ErrSyntax), ("trestle/court.forms", laid_trestle_court_forms), ("unicode/utf8.first", laid_unicode_utf8_first)], narrowed := true }
def CourtReverseUptoSaid : Prop := courtReverseUptoRow.holds Tryz.pinned (OpenSpec.upto courtReverseSpec)

end Rows
end Go.Proofs.YtdojhafbgoimeaaGreatDoor
