/-
  NARROWER THAN 'FOR EVERY INPUT', by the rows' own cells (each row's printed sentence says how): FnExactBandText: laid · FnExactReadBand: laid · FnExactSiteText: laid · FnExactReadSite: laid · FnExactSectorText: laid · FnExactReadSector: laid · FnExactValidBands: laid · FnExactBandNamed: laid · FnChannels: laid.
  DERIVED. THE GIVEN ROWS OF THIS SEAT. 9 by the template 'for every input the law returns true; each argument reads behind the call as it read before'; 0 by the template 'total and deterministic' (their statements: YtbmhhhhodlfcbaaDoorTotals.lean).
  GIVEN WITH THE SEED: the statements are not yours to turn. If you find one false, say at which input.
  Laid BY PROGRAM, IN A SANDBOX (cutbox-rows.mjs): the forced cells as the released guide's own fill.sh prints them over the translation ad9f1032cbd7122e… (all of the seat's roots in one cut). By AI agents, Wed Nov 11 2026. No macro, syntax, notation, axiom, sorry.
-/
import Derived.Test.YtbmhhhhodlfcbaaDoorChecked
import GoSem.PinnedTables
import GoSem.Claim
import GoSem.ClaimJoined
import GoSem.ClaimMapViews
import Derived.JoinedTies
import Derived.KernelRfl
namespace Go.Proofs.YtbmhhhhodlfcbaaDoor
/- THE CELL 'sum', in the pinned program and in every row, IS THE sha256 OF THE DUMP (.gsa) THAT YtbmhhhhodlfcbaaDoorProg.lean LOADS. Nothing in Lean hashes anything: it is a label: what it is worth is what the hold of that sum in a sandbox is worth. -/
noncomputable def Tryd.pinned : Pinned := { name := "ytbmhhhhodlfcbaadoor", sum := "ad9f1032cbd7122e1353c65272a07ecd1e35ab6cea83072a33b5953d09a86098", checked := Tryd.checked }
namespace Rows
def none {H : Type} : Left H := { results := [], args := [] }

/- WHAT THE LISTED PACKAGE-LEVEL VARIABLES READ AS WHEN THE CALL BEGINS. Each datum BY PROGRAM (the guide's laid-datum.mjs) off the statement by which the dump's own 'gosem.cut.vars' lays the variable. In a bare row this is a premise. The card (YtbmhhhhodlfcbaaDoorCards.lean) ties it to the program's text. -/
def laid_math_bits_deBruijn32tab {H : Type} : DataW H := .agg [.lit (.int .u8 0), .lit (.int .u8 1), .lit (.int .u8 28), .lit (.int .u8 2), .lit (.int .u8 29), .lit (.int .u8 14), .lit (.int .u8 24), .lit (.int .u8 3), .lit (.int .u8 30), .lit (.int .u8 22), .lit (.int .u8 20), .lit (.int .u8 15), .lit (.int .u8 25), .lit (.int .u8 17), .lit (.int .u8 4), .lit (.int .u8 8), .lit (.int .u8 31), .lit (.int .u8 27), .lit (.int .u8 13), .lit (.int .u8 23), .lit (.int .u8 21), .lit (.int .u8 19), .lit (.int .u8 16), .lit (.int .u8 7), .lit (.int .u8 26), .lit (.int .u8 12), .lit (.int .u8 18), .lit (.int .u8 6), .lit (.int .u8 11), .lit (.int .u8 5), .lit (.int .u8 10), .lit (.int .u8 9)]
def laid_math_bits_deBruijn64tab {H : Type} : DataW H := .agg [.lit (.int .u8 0), .lit (.int .u8 1), .lit (.int .u8 56), .lit (.int .u8 2), .lit (.int .u8 57), .lit (.int .u8 49), .lit (.int .u8 28), .lit (.int .u8 3), .lit (.int .u8 61), .lit (.int .u8 58), .lit (.int .u8 42), .lit (.int .u8 50), .lit (.int .u8 38), .lit (.int .u8 29), .lit (.int .u8 17), .lit (.int .u8 4), .lit (.int .u8 62), .lit (.int .u8 47), .lit (.int .u8 59), .lit (.int .u8 36), .lit (.int .u8 45), .lit (.int .u8 43), .lit (.int .u8 51), .lit (.int .u8 22), .lit (.int .u8 53), .lit (.int .u8 39), .lit (.int .u8 33), .lit (.int .u8 30), .lit (.int .u8 24), .lit (.int .u8 18), .lit (.int .u8 12), .lit (.int .u8 5), .lit (.int .u8 63), .lit (.int .u8 55), .lit (.int .u8 48), .lit (.int .u8 27), .lit (.int .u8 60), .lit (.int .u8 41), .lit (.int .u8 37), .lit (.int .u8 16), .lit (.int .u8 46), .lit (.int .u8 35), .lit (.int .u8 44), .lit (.int .u8 21), .lit (.int .u8 52), .lit (.int .u8 32), .lit (.int .u8 23), .lit (.int .u8 11), .lit (.int .u8 54), .lit (.int .u8 26), .lit (.int .u8 40), .lit (.int .u8 15), .lit (.int .u8 34), .lit (.int .u8 20), .lit (.int .u8 31), .lit (.int .u8 10), .lit (.int .u8 25), .lit (.int .u8 14), .lit (.int .u8 19), .lit (.int .u8 9), .lit (.int .u8 13), .lit (.int .u8 8), .lit (.int .u8 7), .lit (.int .u8 6)]
def laid_internal_strconv_uint64pow10 {H : Type} : DataW H := .agg [.lit (.int .u64 1), .lit (.int .u64 10), .lit (.int .u64 100), .lit (.int .u64 1000), .lit (.int .u64 10000), .lit (.int .u64 100000), .lit (.int .u64 1000000), .lit (.int .u64 10000000), .lit (.int .u64 100000000), .lit (.int .u64 1000000000), .lit (.int .u64 10000000000), .lit (.int .u64 100000000000), .lit (.int .u64 1000000000000), .lit (.int .u64 10000000000000), .lit (.int .u64 100000000000000), .lit (.int .u64 1000000000000000), .lit (.int .u64 10000000000000000), .lit (.int .u64 100000000000000000), .lit (.int .u64 1000000000000000000), .lit (.int .u64 10000000000000000000)]
def laid_loop_example_g00925_impl_quantitySpans {H : Type} : DataW H := .agg [.agg [.lit (.int .i64 1), .lit (.int .i64 100000000)], .agg [.lit (.int .i64 1), .lit (.int .i64 283000)], .agg [.lit (.int .i64 (-300000)), .lit (.int .i64 300000)], .agg [.lit (.int .i64 (-300000)), .lit (.int .i64 300000)], .agg [.lit (.int .i64 0), .lit (.int .i64 300000)], .agg [.lit (.int .i64 1), .lit (.int .i64 100000)], .agg [.lit (.int .i64 0), .lit (.int .i64 7)], .agg [.lit (.int .i64 0), .lit (.int .i64 90000)], .agg [.lit (.int .i64 0), .lit (.int .i64 200)], .agg [.lit (.int .i64 0), .lit (.int .i64 1000)], .agg [.lit (.int .i64 1), .lit (.int .i64 10000)], .agg [.lit (.int .i64 1), .lit (.int .i64 20)], .agg [.lit (.int .i64 0), .lit (.int .i64 1000000)], .agg [.lit (.int .i64 25), .lit (.int .i64 400)], .agg [.lit (.int .i64 0), .lit (.int .i64 100000)]]
def laid_unicode_utf8_acceptRanges {H : Type} : DataW H := .agg [.agg [.lit (.int .u8 128), .lit (.int .u8 191)], .agg [.lit (.int .u8 160), .lit (.int .u8 191)], .agg [.lit (.int .u8 128), .lit (.int .u8 159)], .agg [.lit (.int .u8 144), .lit (.int .u8 191)], .agg [.lit (.int .u8 128), .lit (.int .u8 143)], .agg [.lit (.int .u8 0), .lit (.int .u8 0)], .agg [.lit (.int .u8 0), .lit (.int .u8 0)], .agg [.lit (.int .u8 0), .lit (.int .u8 0)], .agg [.lit (.int .u8 0), .lit (.int .u8 0)], .agg [.lit (.int .u8 0), .lit (.int .u8 0)], .agg [.lit (.int .u8 0), .lit (.int .u8 0)], .agg [.lit (.int .u8 0), .lit (.int .u8 0)], .agg [.lit (.int .u8 0), .lit (.int .u8 0)], .agg [.lit (.int .u8 0), .lit (.int .u8 0)], .agg [.lit (.int .u8 0), .lit (.int .u8 0)], .agg [.lit (.int .u8 0), .lit (.int .u8 0)]]
def laid_strconv_ErrRange {H : Type} : DataW H := .iface "*errors.errorString" (.ptr (.agg [.lit (.string [118, 97, 108, 117, 101, 32, 111, 117, 116, 32, 111, 102, 32, 114, 97, 110, 103, 101])]))
def laid_strconv_ErrSyntax {H : Type} : DataW H := .iface "*errors.errorString" (.ptr (.agg [.lit (.string [105, 110, 118, 97, 108, 105, 100, 32, 115, 121, 110, 116, 97, 120])]))
/-- One of Go's own tables, pinned by name: the form's constant. -/
def laid_unicode_utf8_first : DataW Unit := Go.Pinned.utf8First

/-- 'laws.FnExactBandText': WHATEVER THE INPUT: true; the input reads as it did. -/
def fnExactBandTextSpec : ChangeSpec := { name := "fnExactBandText", vars := ["loop.example/g00925/impl.quantitySpans"], fn := fun _ => fun
  | [d, g1] => { results := [.lit (.bool true)], args := [d], vars := [g1] }
  | _ => none }
def fnExactBandTextRow : OpenClaim := { program := "ytbmhhhhodlfcbaadoor", sum := "ad9f1032cbd7122e1353c65272a07ecd1e35ab6cea83072a33b5953d09a86098", func := "loop.example/g00925/laws.FnExactBandText", spec := "fnExactBandText", inPlace := ["internal/abi.NoEscape", "internal/bytealg.MakeNoZero"], named := ["loop.example/g00925/impl.quantitySpans", "internal/strconv.uint64pow10", "math/bits.deBruijn32tab", "math/bits.deBruijn64tab"], apart := false, laid := [("math/bits.deBruijn32tab", laid_math_bits_deBruijn32tab), ("math/bits.deBruijn64tab", laid_math_bits_deBruijn64tab), ("internal/strconv.uint64pow10", laid_internal_strconv_uint64pow10), ("loop.example/g00925/impl.quantitySpans", laid_loop_example_g00925_impl_quantitySpans)] }
def FnExactBandTextSaid : Prop := fnExactBandTextRow.holds Tryd.pinned (OpenSpec.ofChange fnExactBandTextSpec)

/-- ITS FALSE NEIGHBOUR: 'it returns false'. Refute it at one input. -/
def fnExactBandTextWrong : ChangeSpec := { name := "fnExactBandText", vars := ["loop.example/g00925/impl.quantitySpans"], fn := fun _ => fun
  | [d, g1] => { results := [.lit (.bool false)], args := [d], vars := [g1] }
  | _ => none }
def FnExactBandTextWrongFalsely : Prop := fnExactBandTextRow.holds Tryd.pinned (OpenSpec.ofChange fnExactBandTextWrong)

/-- 'laws.FnExactReadBand': WHATEVER THE INPUT: true; the input reads as it did. -/
def fnExactReadBandSpec : ChangeSpec := { name := "fnExactReadBand", vars := ["loop.example/g00925/impl.quantitySpans"], fn := fun _ => fun
  | [d, g1] => { results := [.lit (.bool true)], args := [d], vars := [g1] }
  | _ => none }
def fnExactReadBandRow : OpenClaim := { program := "ytbmhhhhodlfcbaadoor", sum := "ad9f1032cbd7122e1353c65272a07ecd1e35ab6cea83072a33b5953d09a86098", func := "loop.example/g00925/laws.FnExactReadBand", spec := "fnExactReadBand", inPlace := ["internal/bytealg.CountString", "internal/bytealg.IndexByteString", "internal/bytealg.IndexString", "internal/abi.NoEscape", "internal/bytealg.MakeNoZero"], named := ["unicode/utf8.first", "unicode/utf8.acceptRanges", "internal/bytealg.MaxLen", "strconv.ErrSyntax", "strconv.ErrRange", "internal/strconv.uint64pow10", "math/bits.deBruijn32tab", "math/bits.deBruijn64tab", "loop.example/g00925/impl.quantitySpans"], apart := false, laid := [("math/bits.deBruijn32tab", laid_math_bits_deBruijn32tab), ("math/bits.deBruijn64tab", laid_math_bits_deBruijn64tab), ("internal/strconv.uint64pow10", laid_internal_strconv_uint64pow10), ("unicode/utf8.acceptRanges", laid_unicode_utf8_acceptRanges), ("strconv.ErrRange", laid_strconv_ErrRange), ("strconv.ErrSyntax", laid_strconv_ErrSyntax), ("loop.example/g00925/impl.quantitySpans", laid_loop_example_g00925_impl_quantitySpans), ("unicode/utf8.first", laid_unicode_utf8_first)] }
def FnExactReadBandSaid : Prop := fnExactReadBandRow.holds Tryd.pinned (OpenSpec.ofChange fnExactReadBandSpec)

/-- ITS FALSE NEIGHBOUR: 'it returns false'. Refute it at one input. -/
def fnExactReadBandWrong : ChangeSpec := { name := "fnExactReadBand", vars := ["loop.example/g00925/impl.quantitySpans"], fn := fun _ => fun
  | [d, g1] => { results := [.lit (.bool false)], args := [d], vars := [g1] }
  | _ => none }
def FnExactReadBandWrongFalsely : Prop := fnExactReadBandRow.holds Tryd.pinned (OpenSpec.ofChange fnExactReadBandWrong)

/-- 'laws.FnExactSiteText': WHATEVER THE INPUT: true; the input reads as it did. -/
def fnExactSiteTextSpec : ChangeSpec := { name := "fnExactSiteText", fn := fun _ => fun
  | [d] => { results := [.lit (.bool true)], args := [d] }
  | _ => none }
def fnExactSiteTextRow : OpenClaim := { program := "ytbmhhhhodlfcbaadoor", sum := "ad9f1032cbd7122e1353c65272a07ecd1e35ab6cea83072a33b5953d09a86098", func := "loop.example/g00925/laws.FnExactSiteText", spec := "fnExactSiteText", named := ["internal/strconv.uint64pow10", "math/bits.deBruijn32tab", "math/bits.deBruijn64tab"], apart := false, laid := [("math/bits.deBruijn32tab", laid_math_bits_deBruijn32tab), ("math/bits.deBruijn64tab", laid_math_bits_deBruijn64tab), ("internal/strconv.uint64pow10", laid_internal_strconv_uint64pow10)] }
def FnExactSiteTextSaid : Prop := fnExactSiteTextRow.holds Tryd.pinned (OpenSpec.ofChange fnExactSiteTextSpec)

/-- ITS FALSE NEIGHBOUR: 'it returns false'. Refute it at one input. -/
def fnExactSiteTextWrong : ChangeSpec := { name := "fnExactSiteText", fn := fun _ => fun
  | [d] => { results := [.lit (.bool false)], args := [d] }
  | _ => none }
def FnExactSiteTextWrongFalsely : Prop := fnExactSiteTextRow.holds Tryd.pinned (OpenSpec.ofChange fnExactSiteTextWrong)

/-- 'laws.FnExactReadSite': WHATEVER THE INPUT: true; the input reads as it did. -/
def fnExactReadSiteSpec : ChangeSpec := { name := "fnExactReadSite", fn := fun _ => fun
  | [d] => { results := [.lit (.bool true)], args := [d] }
  | _ => none }
def fnExactReadSiteRow : OpenClaim := { program := "ytbmhhhhodlfcbaadoor", sum := "ad9f1032cbd7122e1353c65272a07ecd1e35ab6cea83072a33b5953d09a86098", func := "loop.example/g00925/laws.FnExactReadSite", spec := "fnExactReadSite", inPlace := ["internal/bytealg.CountString", "internal/bytealg.IndexByteString", "internal/bytealg.IndexString"], named := ["unicode/utf8.first", "unicode/utf8.acceptRanges", "internal/bytealg.MaxLen", "strconv.ErrSyntax", "strconv.ErrRange", "internal/strconv.uint64pow10", "math/bits.deBruijn32tab", "math/bits.deBruijn64tab"], apart := false, laid := [("math/bits.deBruijn32tab", laid_math_bits_deBruijn32tab), ("math/bits.deBruijn64tab", laid_math_bits_deBruijn64tab), ("internal/strconv.uint64pow10", laid_internal_strconv_uint64pow10), ("unicode/utf8.acceptRanges", laid_unicode_utf8_acceptRanges), ("strconv.ErrRange", laid_strconv_ErrRange), ("strconv.ErrSyntax", laid_strconv_ErrSyntax), ("unicode/utf8.first", laid_unicode_utf8_first)] }
def FnExactReadSiteSaid : Prop := fnExactReadSiteRow.holds Tryd.pinned (OpenSpec.ofChange fnExactReadSiteSpec)

/-- ITS FALSE NEIGHBOUR: 'it returns false'. Refute it at one input. -/
def fnExactReadSiteWrong : ChangeSpec := { name := "fnExactReadSite", fn := fun _ => fun
  | [d] => { results := [.lit (.bool false)], args := [d] }
  | _ => none }
def FnExactReadSiteWrongFalsely : Prop := fnExactReadSiteRow.holds Tryd.pinned (OpenSpec.ofChange fnExactReadSiteWrong)

/-- 'laws.FnExactSectorText': WHATEVER THE INPUT: true; the input reads as it did. -/
def fnExactSectorTextSpec : ChangeSpec := { name := "fnExactSectorText", fn := fun _ => fun
  | [d] => { results := [.lit (.bool true)], args := [d] }
  | _ => none }
def fnExactSectorTextRow : OpenClaim := { program := "ytbmhhhhodlfcbaadoor", sum := "ad9f1032cbd7122e1353c65272a07ecd1e35ab6cea83072a33b5953d09a86098", func := "loop.example/g00925/laws.FnExactSectorText", spec := "fnExactSectorText", inPlace := ["internal/abi.NoEscape", "internal/bytealg.MakeNoZero"], named := ["internal/strconv.uint64pow10", "math/bits.deBruijn32tab", "math/bits.deBruijn64tab"], apart := false, laid := [("math/bits.deBruijn32tab", laid_math_bits_deBruijn32tab), ("math/bits.deBruijn64tab", laid_math_bits_deBruijn64tab), ("internal/strconv.uint64pow10", laid_internal_strconv_uint64pow10)] }
def FnExactSectorTextSaid : Prop := fnExactSectorTextRow.holds Tryd.pinned (OpenSpec.ofChange fnExactSectorTextSpec)

/-- ITS FALSE NEIGHBOUR: 'it returns false'. Refute it at one input. -/
def fnExactSectorTextWrong : ChangeSpec := { name := "fnExactSectorText", fn := fun _ => fun
  | [d] => { results := [.lit (.bool false)], args := [d] }
  | _ => none }
def FnExactSectorTextWrongFalsely : Prop := fnExactSectorTextRow.holds Tryd.pinned (OpenSpec.ofChange fnExactSectorTextWrong)

/-- 'laws.FnExactReadSector': WHATEVER THE INPUT: true; the input reads as it did. -/
def fnExactReadSectorSpec : ChangeSpec := { name := "fnExactReadSector", fn := fun _ => fun
  | [d] => { results := [.lit (.bool true)], args := [d] }
  | _ => none }
def fnExactReadSectorRow : OpenClaim := { program := "ytbmhhhhodlfcbaadoor", sum := "ad9f1032cbd7122e1353c65272a07ecd1e35ab6cea83072a33b5953d09a86098", func := "loop.example/g00925/laws.FnExactReadSector", spec := "fnExactReadSector", inPlace := ["internal/bytealg.CountString", "internal/bytealg.IndexByteString", "internal/bytealg.IndexString", "internal/abi.NoEscape", "internal/bytealg.MakeNoZero"], named := ["unicode/utf8.first", "unicode/utf8.acceptRanges", "internal/bytealg.MaxLen", "strconv.ErrSyntax", "strconv.ErrRange", "internal/strconv.uint64pow10", "math/bits.deBruijn32tab", "math/bits.deBruijn64tab"], apart := false, laid := [("math/bits.deBruijn32tab", laid_math_bits_deBruijn32tab), ("math/bits.deBruijn64tab", laid_math_bits_deBruijn64tab), ("internal/strconv.uint64pow10", laid_internal_strconv_uint64pow10), ("unicode/utf8.acceptRanges", laid_unicode_utf8_acceptRanges), ("strconv.ErrRange", laid_strconv_ErrRange), ("strconv.ErrSyntax", laid_strconv_ErrSyntax), ("unicode/utf8.first", laid_unicode_utf8_first)] }
def FnExactReadSectorSaid : Prop := fnExactReadSectorRow.holds Tryd.pinned (OpenSpec.ofChange fnExactReadSectorSpec)

/-- ITS FALSE NEIGHBOUR: 'it returns false'. Refute it at one input. -/
def fnExactReadSectorWrong : ChangeSpec := { name := "fnExactReadSector", fn := fun _ => fun
  | [d] => { results := [.lit (.bool false)], args := [d] }
  | _ => none }
def FnExactReadSectorWrongFalsely : Prop := fnExactReadSectorRow.holds Tryd.pinned (OpenSpec.ofChange fnExactReadSectorWrong)

/-- 'laws.FnExactValidBands': WHATEVER THE INPUT: true; the input reads as it did. -/
def fnExactValidBandsSpec : ChangeSpec := { name := "fnExactValidBands", vars := ["loop.example/g00925/impl.quantitySpans"], fn := fun _ => fun
  | [d, g1] => { results := [.lit (.bool true)], args := [d], vars := [g1] }
  | _ => none }
def fnExactValidBandsRow : OpenClaim := { program := "ytbmhhhhodlfcbaadoor", sum := "ad9f1032cbd7122e1353c65272a07ecd1e35ab6cea83072a33b5953d09a86098", func := "loop.example/g00925/laws.FnExactValidBands", spec := "fnExactValidBands", unfollowed := true, recurses := true, named := ["loop.example/g00925/impl.quantitySpans"], apart := false, laid := [("loop.example/g00925/impl.quantitySpans", laid_loop_example_g00925_impl_quantitySpans)] }
def FnExactValidBandsSaid : Prop := fnExactValidBandsRow.holds Tryd.pinned (OpenSpec.ofChange fnExactValidBandsSpec)

/-- ITS FALSE NEIGHBOUR: 'it returns false'. Refute it at one input. -/
def fnExactValidBandsWrong : ChangeSpec := { name := "fnExactValidBands", vars := ["loop.example/g00925/impl.quantitySpans"], fn := fun _ => fun
  | [d, g1] => { results := [.lit (.bool false)], args := [d], vars := [g1] }
  | _ => none }
def FnExactValidBandsWrongFalsely : Prop := fnExactValidBandsRow.holds Tryd.pinned (OpenSpec.ofChange fnExactValidBandsWrong)

/-- 'laws.FnExactBandNamed': WHATEVER THE INPUT: true; the input reads as it did. -/
def fnExactBandNamedSpec : ChangeSpec := { name := "fnExactBandNamed", vars := ["loop.example/g00925/impl.quantitySpans"], fn := fun _ => fun
  | [d1, d2, g1] => { results := [.lit (.bool true)], args := [d1, d2], vars := [g1] }
  | _ => none }
def fnExactBandNamedRow : OpenClaim := { program := "ytbmhhhhodlfcbaadoor", sum := "ad9f1032cbd7122e1353c65272a07ecd1e35ab6cea83072a33b5953d09a86098", func := "loop.example/g00925/laws.FnExactBandNamed", spec := "fnExactBandNamed", inPlace := ["internal/bytealg.abigen_runtime_cmpstring"], unfollowed := true, recurses := true, named := ["loop.example/g00925/impl.quantitySpans"], apart := false, laid := [("loop.example/g00925/impl.quantitySpans", laid_loop_example_g00925_impl_quantitySpans)] }
def FnExactBandNamedSaid : Prop := fnExactBandNamedRow.holds Tryd.pinned (OpenSpec.ofChange fnExactBandNamedSpec)

/-- ITS FALSE NEIGHBOUR: 'it returns false'. Refute it at one input. -/
def fnExactBandNamedWrong : ChangeSpec := { name := "fnExactBandNamed", vars := ["loop.example/g00925/impl.quantitySpans"], fn := fun _ => fun
  | [d1, d2, g1] => { results := [.lit (.bool false)], args := [d1, d2], vars := [g1] }
  | _ => none }
def FnExactBandNamedWrongFalsely : Prop := fnExactBandNamedRow.holds Tryd.pinned (OpenSpec.ofChange fnExactBandNamedWrong)

/-- 'laws.FnChannels': WHATEVER THE INPUT: true; the input reads as it did. -/
def fnChannelsSpec : ChangeSpec := { name := "fnChannels", vars := ["loop.example/g00925/impl.quantitySpans"], fn := fun _ => fun
  | [d, g1] => { results := [.lit (.bool true)], args := [d], vars := [g1] }
  | _ => none }
def fnChannelsRow : OpenClaim := { program := "ytbmhhhhodlfcbaadoor", sum := "ad9f1032cbd7122e1353c65272a07ecd1e35ab6cea83072a33b5953d09a86098", func := "loop.example/g00925/laws.FnChannels", spec := "fnChannels", unfollowed := true, recurses := true, named := ["loop.example/g00925/impl.quantitySpans"], apart := false, laid := [("loop.example/g00925/impl.quantitySpans", laid_loop_example_g00925_impl_quantitySpans)] }
def FnChannelsSaid : Prop := fnChannelsRow.holds Tryd.pinned (OpenSpec.ofChange fnChannelsSpec)

/-- ITS FALSE NEIGHBOUR: 'it returns false'. Refute it at one input. -/
def fnChannelsWrong : ChangeSpec := { name := "fnChannels", vars := ["loop.example/g00925/impl.quantitySpans"], fn := fun _ => fun
  | [d, g1] => { results := [.lit (.bool false)], args := [d], vars := [g1] }
  | _ => none }
def FnChannelsWrongFalsely : Prop := fnChannelsRow.holds Tryd.pinned (OpenSpec.ofChange fnChannelsWrong)

/- THE SECOND FORM. 'bulk': how many values and letters a reading holds, each counted each time it is reached (what is shared counts as often as it is met; a slice's spare places count too). A statement '..UptoSaid' is the law's where the arguments, and the package variables that the reading takes, are together of bulk at most 1048576: NARROWER than '..Said'. Prove '..Said' where nothing that the law and all that it calls make is longer than what came in: it says more and counts as full. Else prove '..UptoSaid'. A law counts once. -/
mutual
def uptoBulk {H : Type} : DataW H → Nat
  | .lit (.string bytes) => bytes.length + 1
  | .lit _ => 1
  | .nil => 1
  | .ptr d => uptoBulk d + 1
  | .slice elems spare => uptoBulkAll elems + uptoBulkAll spare + 1
  | .agg parts => uptoBulkAll parts + 1
  | .iface _ d => uptoBulk d + 1
  | .map entries => uptoBulkEntries entries + 1
  | .held _ => 1
def uptoBulkAll {H : Type} : List (DataW H) → Nat
  | [] => 0
  | d :: r => uptoBulk d + uptoBulkAll r
def uptoBulkEntries {H : Type} : List (Lit × DataW H) → Nat
  | [] => 0
  | x :: r => uptoBulkEntry x + uptoBulkEntries r
def uptoBulkEntry {H : Type} : Lit × DataW H → Nat
  | (.string bytes, d) => bytes.length + uptoBulk d + 1
  | (_, d) => uptoBulk d + 1
 end
def uptoSmall : (H : Type) → List (DataW H) → Bool := fun _ ds => decide (uptoBulkAll ds ≤ 1048576)
def OpenSpec.upto (s : _root_.Go.ChangeSpec) : _root_.Go.OpenSpec := { _root_.Go.OpenSpec.ofChange s with cond := some uptoSmall }

/-- 'laws.FnExactBandText', WHERE WHAT IT READS IS OF BULK AT MOST 1048576: true; the input reads as it did. -/
def fnExactBandTextUptoRow : OpenClaim := { program := "ytbmhhhhodlfcbaadoor", sum := "ad9f1032cbd7122e1353c65272a07ecd1e35ab6cea83072a33b5953d09a86098", func := "loop.example/g00925/laws.FnExactBandText", spec := "fnExactBandText", inPlace := ["internal/abi.NoEscape", "internal/bytealg.MakeNoZero"], named := ["loop.example/g00925/impl.quantitySpans", "internal/strconv.uint64pow10", "math/bits.deBruijn32tab", "math/bits.deBruijn64tab"], apart := false, laid := [("math/bits.deBruijn32tab", laid_math_bits_deBruijn32tab), ("math/bits.deBruijn64tab", laid_math_bits_deBruijn64tab), ("internal/strconv.uint64pow10", laid_internal_strconv_uint64pow10), ("loop.example/g00925/impl.quantitySpans", laid_loop_example_g00925_impl_quantitySpans)], narrowed := true }
def FnExactBandTextUptoSaid : Prop := fnExactBandTextUptoRow.holds Tryd.pinned (OpenSpec.upto fnExactBandTextSpec)

/-- 'laws.FnExactReadBand', WHERE WHAT IT READS IS OF BULK AT MOST 1048576: true; the input reads as it did. -/
def fnExactReadBandUptoRow : OpenClaim := { program := "ytbmhhhhodlfcbaadoor", sum := "ad9f1032cbd7122e1353c65272a07ecd1e35ab6cea83072a33b5953d09a86098", func := "loop.example/g00925/laws.FnExactReadBand", spec := "fnExactReadBand", inPlace := ["internal/bytealg.CountString", "internal/bytealg.IndexByteString", "internal/bytealg.IndexString", "internal/abi.NoEscape", "internal/bytealg.MakeNoZero"], named := ["unicode/utf8.first", "unicode/utf8.acceptRanges", "internal/bytealg.MaxLen", "strconv.ErrSyntax", "strconv.ErrRange", "internal/strconv.uint64pow10", "math/bits.deBruijn32tab", "math/bits.deBruijn64tab", "loop.example/g00925/impl.quantitySpans"], apart := false, laid := [("math/bits.deBruijn32tab", laid_math_bits_deBruijn32tab), ("math/bits.deBruijn64tab", laid_math_bits_deBruijn64tab), ("internal/strconv.uint64pow10", laid_internal_strconv_uint64pow10), ("unicode/utf8.acceptRanges", laid_unicode_utf8_acceptRanges), ("strconv.ErrRange", laid_strconv_ErrRange), ("strconv.ErrSyntax", laid_strconv_ErrSyntax), ("loop.example/g00925/impl.quantitySpans", laid_loop_example_g00925_impl_quantitySpans), ("unicode/utf8.first", laid_unicode_utf8_first)], narrowed := true }
def FnExactReadBandUptoSaid : Prop := fnExactReadBandUptoRow.holds Tryd.pinned (OpenSpec.upto fnExactReadBandSpec)

/-- 'laws.FnExactSiteText', WHERE WHAT IT READS IS OF BULK AT MOST 1048576: true; the input reads as it did. -/
def fnExactSiteTextUptoRow : OpenClaim := { program := "ytbmhhhhodlfcbaadoor", sum := "ad9f1032cbd7122e1353c65272a07ecd1e35ab6cea83072a33b5953d09a86098", func := "loop.example/g00925/laws.FnExactSiteText", spec := "fnExactSiteText", named := ["internal/strconv.uint64pow10", "math/bits.deBruijn32tab", "math/bits.deBruijn64tab"], apart := false, laid := [("math/bits.deBruijn32tab", laid_math_bits_deBruijn32tab), ("math/bits.deBruijn64tab", laid_math_bits_deBruijn64tab), ("internal/strconv.uint64pow10", laid_internal_strconv_uint64pow10)], narrowed := true }
def FnExactSiteTextUptoSaid : Prop := fnExactSiteTextUptoRow.holds Tryd.pinned (OpenSpec.upto fnExactSiteTextSpec)

/-- 'laws.FnExactReadSite', WHERE WHAT IT READS IS OF BULK AT MOST 1048576: true; the input reads as it did. -/
def fnExactReadSiteUptoRow : OpenClaim := { program := "ytbmhhhhodlfcbaadoor", sum := "ad9f1032cbd7122e1353c65272a07ecd1e35ab6cea83072a33b5953d09a86098", func := "loop.example/g00925/laws.FnExactReadSite", spec := "fnExactReadSite", inPlace := ["internal/bytealg.CountString", "internal/bytealg.IndexByteString", "internal/bytealg.IndexString"], named := ["unicode/utf8.first", "unicode/utf8.acceptRanges", "internal/bytealg.MaxLen", "strconv.ErrSyntax", "strconv.ErrRange", "internal/strconv.uint64pow10", "math/bits.deBruijn32tab", "math/bits.deBruijn64tab"], apart := false, laid := [("math/bits.deBruijn32tab", laid_math_bits_deBruijn32tab), ("math/bits.deBruijn64tab", laid_math_bits_deBruijn64tab), ("internal/strconv.uint64pow10", laid_internal_strconv_uint64pow10), ("unicode/utf8.acceptRanges", laid_unicode_utf8_acceptRanges), ("strconv.ErrRange", laid_strconv_ErrRange), ("strconv.ErrSyntax", laid_strconv_ErrSyntax), ("unicode/utf8.first", laid_unicode_utf8_first)], narrowed := true }
def FnExactReadSiteUptoSaid : Prop := fnExactReadSiteUptoRow.holds Tryd.pinned (OpenSpec.upto fnExactReadSiteSpec)

/-- 'laws.FnExactSectorText', WHERE WHAT IT READS IS OF BULK AT MOST 1048576: true; the input reads as it did. -/
def fnExactSectorTextUptoRow : OpenClaim := { program := "ytbmhhhhodlfcbaadoor", sum := "ad9f1032cbd7122e1353c65272a07ecd1e35ab6cea83072a33b5953d09a86098", func := "loop.example/g00925/laws.FnExactSectorText", spec := "fnExactSectorText", inPlace := ["internal/abi.NoEscape", "internal/bytealg.MakeNoZero"], named := ["internal/strconv.uint64pow10", "math/bits.deBruijn32tab", "math/bits.deBruijn64tab"], apart := false, laid := [("math/bits.deBruijn32tab", laid_math_bits_deBruijn32tab), ("math/bits.deBruijn64tab", laid_math_bits_deBruijn64tab), ("internal/strconv.uint64pow10", laid_internal_strconv_uint64pow10)], narrowed := true }
def FnExactSectorTextUptoSaid : Prop := fnExactSectorTextUptoRow.holds Tryd.pinned (OpenSpec.upto fnExactSectorTextSpec)

/-- 'laws.FnExactReadSector', WHERE WHAT IT READS IS OF BULK AT MOST 1048576: true; the input reads as it did. -/
def fnExactReadSectorUptoRow : OpenClaim := { program := "ytbmhhhhodlfcbaadoor", sum := "ad9f1032cbd7122e1353c65272a07ecd1e35ab6cea83072a33b5953d09a86098", func := "loop.example/g00925/laws.FnExactReadSector", spec := "fnExactReadSector", inPlace := ["internal/bytealg.CountString", "internal/bytealg.IndexByteString", "internal/bytealg.IndexString", "internal/abi.NoEscape", "internal/bytealg.MakeNoZero"], named := ["unicode/utf8.first", "unicode/utf8.acceptRanges", "internal/bytealg.MaxLen", "strconv.ErrSyntax", "strconv.ErrRange", "internal/strconv.uint64pow10", "math/bits.deBruijn32tab", "math/bits.deBruijn64tab"], apart := false, laid := [("math/bits.deBruijn32tab", laid_math_bits_deBruijn32tab), ("math/bits.deBruijn64tab", laid_math_bits_deBruijn64tab), ("internal/strconv.uint64pow10", laid_internal_strconv_uint64pow10), ("unicode/utf8.acceptRanges", laid_unicode_utf8_acceptRanges), ("strconv.ErrRange", laid_strconv_ErrRange), ("strconv.ErrSyntax", laid_strconv_ErrSyntax), ("unicode/utf8.first", laid_unicode_utf8_first)], narrowed := true }
def FnExactReadSectorUptoSaid : Prop := fnExactReadSectorUptoRow.holds Tryd.pinned (OpenSpec.upto fnExactReadSectorSpec)

/-- 'laws.FnExactValidBands', WHERE WHAT IT READS IS OF BULK AT MOST 1048576: true; the input reads as it did. -/
def fnExactValidBandsUptoRow : OpenClaim := { program := "ytbmhhhhodlfcbaadoor", sum := "ad9f1032cbd7122e1353c65272a07ecd1e35ab6cea83072a33b5953d09a86098", func := "loop.example/g00925/laws.FnExactValidBands", spec := "fnExactValidBands", unfollowed := true, recurses := true, named := ["loop.example/g00925/impl.quantitySpans"], apart := false, laid := [("loop.example/g00925/impl.quantitySpans", laid_loop_example_g00925_impl_quantitySpans)], narrowed := true }
def FnExactValidBandsUptoSaid : Prop := fnExactValidBandsUptoRow.holds Tryd.pinned (OpenSpec.upto fnExactValidBandsSpec)

/-- 'laws.FnExactBandNamed', WHERE WHAT IT READS IS OF BULK AT MOST 1048576: true; the input reads as it did. -/
def fnExactBandNamedUptoRow : OpenClaim := { program := "ytbmhhhhodlfcbaadoor", sum := "ad9f1032cbd7122e1353c65272a07ecd1e35ab6cea83072a33b5953d09a86098", func := "loop.example/g00925/laws.FnExactBandNamed", spec := "fnExactBandNamed", inPlace := ["internal/bytealg.abigen_runtime_cmpstring"], unfollowed := true, recurses := true, named := ["loop.example/g00925/impl.quantitySpans"], apart := false, laid := [("loop.example/g00925/impl.quantitySpans", laid_loop_example_g00925_impl_quantitySpans)], narrowed := true }
def FnExactBandNamedUptoSaid : Prop := fnExactBandNamedUptoRow.holds Tryd.pinned (OpenSpec.upto fnExactBandNamedSpec)

/-- 'laws.FnChannels', WHERE WHAT IT READS IS OF BULK AT MOST 1048576: true; the input reads as it did. -/
def fnChannelsUptoRow : OpenClaim := { program := "ytbmhhhhodlfcbaadoor", sum := "ad9f1032cbd7122e1353c65272a07ecd1e35ab6cea83072a33b5953d09a86098", func := "loop.example/g00925/laws.FnChannels", spec := "fnChannels", unfollowed := true, recurses := true, named := ["loop.example/g00925/impl.quantitySpans"], apart := false, laid := [("loop.example/g00925/impl.quantitySpans", laid_loop_example_g00925_impl_quantitySpans)], narrowed := true }
def FnChannelsUptoSaid : Prop := fnChannelsUptoRow.holds Tryd.pinned (OpenSpec.upto fnChannelsSpec)

end Rows
end Go.Proofs.YtbmhhhhodlfcbaaDoor
