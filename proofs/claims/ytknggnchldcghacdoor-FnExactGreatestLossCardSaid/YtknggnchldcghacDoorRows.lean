/-
  NARROWER THAN 'FOR EVERY INPUT', by the rows' own cells (each row's printed sentence says how): FnExactNoiseFloor: laid · FnExactEirpOf: laid · FnExactSnrOf: laid · FnExactSinrOf: laid · FnExactBestMode: laid · FnExactRateAt: laid · FnExactLeastLevel: laid · FnExactArrivingLevel: laid · FnExactGreatestLoss: laid · FnExactRadioText: laid · FnExactReadRadio: laid.
  DERIVED. THE GIVEN ROWS OF THIS SEAT. 11 by the template 'for every input the law returns true; each argument reads behind the call as it read before'; 0 by the template 'total and deterministic' (their statements: YtknggnchldcghacDoorTotals.lean).
  GIVEN WITH THE SEED: the statements are not yours to turn. If you find one false, say at which input.
  Laid BY PROGRAM, IN A SANDBOX (cutbox-rows.mjs): the forced cells as the released guide's own fill.sh prints them over the translation 4b885754e28d8c0e… (all of the seat's roots in one cut). By AI agents, Wed Nov 11 2026. No macro, syntax, notation, axiom, sorry.
-/
import Derived.Test.YtknggnchldcghacDoorChecked
import GoSem.PinnedTables
import GoSem.Claim
import GoSem.ClaimJoined
import GoSem.ClaimMapViews
import Derived.JoinedTies
import Derived.KernelRfl
namespace Go.Proofs.YtknggnchldcghacDoor
/- THE CELL 'sum', in the pinned program and in every row, IS THE sha256 OF THE DUMP (.gsa) THAT YtknggnchldcghacDoorProg.lean LOADS. Nothing in Lean hashes anything: it is a label: what it is worth is what the hold of that sum in a sandbox is worth. -/
noncomputable def Tryd.pinned : Pinned := { name := "ytknggnchldcghacdoor", sum := "4b885754e28d8c0e40aa4f4da874f7b82eb547530f15a1a90d8d945229280cf4", checked := Tryd.checked }
namespace Rows
def none {H : Type} : Left H := { results := [], args := [] }

/- WHAT THE LISTED PACKAGE-LEVEL VARIABLES READ AS WHEN THE CALL BEGINS. Each datum BY PROGRAM (the guide's laid-datum.mjs) off the statement by which the dump's own 'gosem.cut.vars' lays the variable. In a bare row this is a premise. The card (YtknggnchldcghacDoorCards.lean) ties it to the program's text. -/
def laid_errors_errorType {H : Type} : DataW H := .iface "internal/reflectlite.rtype" (.agg [.ptr (.lit (.string [101, 114, 114, 111, 114]))])
def laid_math_bits_deBruijn32tab {H : Type} : DataW H := .agg [.lit (.int .u8 0), .lit (.int .u8 1), .lit (.int .u8 28), .lit (.int .u8 2), .lit (.int .u8 29), .lit (.int .u8 14), .lit (.int .u8 24), .lit (.int .u8 3), .lit (.int .u8 30), .lit (.int .u8 22), .lit (.int .u8 20), .lit (.int .u8 15), .lit (.int .u8 25), .lit (.int .u8 17), .lit (.int .u8 4), .lit (.int .u8 8), .lit (.int .u8 31), .lit (.int .u8 27), .lit (.int .u8 13), .lit (.int .u8 23), .lit (.int .u8 21), .lit (.int .u8 19), .lit (.int .u8 16), .lit (.int .u8 7), .lit (.int .u8 26), .lit (.int .u8 12), .lit (.int .u8 18), .lit (.int .u8 6), .lit (.int .u8 11), .lit (.int .u8 5), .lit (.int .u8 10), .lit (.int .u8 9)]
def laid_math_bits_deBruijn64tab {H : Type} : DataW H := .agg [.lit (.int .u8 0), .lit (.int .u8 1), .lit (.int .u8 56), .lit (.int .u8 2), .lit (.int .u8 57), .lit (.int .u8 49), .lit (.int .u8 28), .lit (.int .u8 3), .lit (.int .u8 61), .lit (.int .u8 58), .lit (.int .u8 42), .lit (.int .u8 50), .lit (.int .u8 38), .lit (.int .u8 29), .lit (.int .u8 17), .lit (.int .u8 4), .lit (.int .u8 62), .lit (.int .u8 47), .lit (.int .u8 59), .lit (.int .u8 36), .lit (.int .u8 45), .lit (.int .u8 43), .lit (.int .u8 51), .lit (.int .u8 22), .lit (.int .u8 53), .lit (.int .u8 39), .lit (.int .u8 33), .lit (.int .u8 30), .lit (.int .u8 24), .lit (.int .u8 18), .lit (.int .u8 12), .lit (.int .u8 5), .lit (.int .u8 63), .lit (.int .u8 55), .lit (.int .u8 48), .lit (.int .u8 27), .lit (.int .u8 60), .lit (.int .u8 41), .lit (.int .u8 37), .lit (.int .u8 16), .lit (.int .u8 46), .lit (.int .u8 35), .lit (.int .u8 44), .lit (.int .u8 21), .lit (.int .u8 52), .lit (.int .u8 32), .lit (.int .u8 23), .lit (.int .u8 11), .lit (.int .u8 54), .lit (.int .u8 26), .lit (.int .u8 40), .lit (.int .u8 15), .lit (.int .u8 34), .lit (.int .u8 20), .lit (.int .u8 31), .lit (.int .u8 10), .lit (.int .u8 25), .lit (.int .u8 14), .lit (.int .u8 19), .lit (.int .u8 9), .lit (.int .u8 13), .lit (.int .u8 8), .lit (.int .u8 7), .lit (.int .u8 6)]
def laid_internal_strconv_uint64pow10 {H : Type} : DataW H := .agg [.lit (.int .u64 1), .lit (.int .u64 10), .lit (.int .u64 100), .lit (.int .u64 1000), .lit (.int .u64 10000), .lit (.int .u64 100000), .lit (.int .u64 1000000), .lit (.int .u64 10000000), .lit (.int .u64 100000000), .lit (.int .u64 1000000000), .lit (.int .u64 10000000000), .lit (.int .u64 100000000000), .lit (.int .u64 1000000000000), .lit (.int .u64 10000000000000), .lit (.int .u64 100000000000000), .lit (.int .u64 1000000000000000), .lit (.int .u64 10000000000000000), .lit (.int .u64 100000000000000000), .lit (.int .u64 1000000000000000000), .lit (.int .u64 10000000000000000000)]
def laid_unicode_utf8_acceptRanges {H : Type} : DataW H := .agg [.agg [.lit (.int .u8 128), .lit (.int .u8 191)], .agg [.lit (.int .u8 160), .lit (.int .u8 191)], .agg [.lit (.int .u8 128), .lit (.int .u8 159)], .agg [.lit (.int .u8 144), .lit (.int .u8 191)], .agg [.lit (.int .u8 128), .lit (.int .u8 143)], .agg [.lit (.int .u8 0), .lit (.int .u8 0)], .agg [.lit (.int .u8 0), .lit (.int .u8 0)], .agg [.lit (.int .u8 0), .lit (.int .u8 0)], .agg [.lit (.int .u8 0), .lit (.int .u8 0)], .agg [.lit (.int .u8 0), .lit (.int .u8 0)], .agg [.lit (.int .u8 0), .lit (.int .u8 0)], .agg [.lit (.int .u8 0), .lit (.int .u8 0)], .agg [.lit (.int .u8 0), .lit (.int .u8 0)], .agg [.lit (.int .u8 0), .lit (.int .u8 0)], .agg [.lit (.int .u8 0), .lit (.int .u8 0)], .agg [.lit (.int .u8 0), .lit (.int .u8 0)]]
def laid_strconv_ErrRange {H : Type} : DataW H := .iface "*errors.errorString" (.ptr (.agg [.lit (.string [118, 97, 108, 117, 101, 32, 111, 117, 116, 32, 111, 102, 32, 114, 97, 110, 103, 101])]))
def laid_strconv_ErrSyntax {H : Type} : DataW H := .iface "*errors.errorString" (.ptr (.agg [.lit (.string [105, 110, 118, 97, 108, 105, 100, 32, 115, 121, 110, 116, 97, 120])]))
/-- One of Go's own tables, pinned by name: the form's constant. -/
def laid_unicode_utf8_first : DataW Unit := Go.Pinned.utf8First

/-- 'laws.FnExactNoiseFloor': WHATEVER THE INPUT: true; the input reads as it did. -/
def fnExactNoiseFloorSpec : ChangeSpec := { name := "fnExactNoiseFloor", fn := fun _ => fun
  | [d] => { results := [.lit (.bool true)], args := [d] }
  | _ => none }
def fnExactNoiseFloorRow : OpenClaim := { program := "ytknggnchldcghacdoor", sum := "4b885754e28d8c0e40aa4f4da874f7b82eb547530f15a1a90d8d945229280cf4", func := "loop.example/g00925/laws.FnExactNoiseFloor", spec := "fnExactNoiseFloor", inPlace := ["internal/reflectlite.ValueOf", "(internal/reflectlite.Value).Type", "(internal/reflectlite.Value).IsNil", "internal/reflectlite.TypeOf", "(internal/reflectlite.Value).Elem", "(internal/reflectlite.Value).Set"], unfollowed := true, recurses := true, named := ["errors.errorType", "math/bits.divideError", "math/bits.overflowError"], apart := false, laid := [("errors.errorType", laid_errors_errorType)] }
def FnExactNoiseFloorSaid : Prop := fnExactNoiseFloorRow.holds Tryd.pinned (OpenSpec.ofChange fnExactNoiseFloorSpec)

/-- ITS FALSE NEIGHBOUR: 'it returns false'. Refute it at one input. -/
def fnExactNoiseFloorWrong : ChangeSpec := { name := "fnExactNoiseFloor", fn := fun _ => fun
  | [d] => { results := [.lit (.bool false)], args := [d] }
  | _ => none }
def FnExactNoiseFloorWrongFalsely : Prop := fnExactNoiseFloorRow.holds Tryd.pinned (OpenSpec.ofChange fnExactNoiseFloorWrong)

/-- 'laws.FnExactEirpOf': WHATEVER THE INPUT: true; the input reads as it did. -/
def fnExactEirpOfSpec : ChangeSpec := { name := "fnExactEirpOf", fn := fun _ => fun
  | [d1, d2] => { results := [.lit (.bool true)], args := [d1, d2] }
  | _ => none }
def fnExactEirpOfRow : OpenClaim := { program := "ytknggnchldcghacdoor", sum := "4b885754e28d8c0e40aa4f4da874f7b82eb547530f15a1a90d8d945229280cf4", func := "loop.example/g00925/laws.FnExactEirpOf", spec := "fnExactEirpOf", inPlace := ["internal/reflectlite.ValueOf", "(internal/reflectlite.Value).Type", "(internal/reflectlite.Value).IsNil", "internal/reflectlite.TypeOf", "(internal/reflectlite.Value).Elem", "(internal/reflectlite.Value).Set"], unfollowed := true, recurses := true, named := ["errors.errorType"], apart := false, laid := [("errors.errorType", laid_errors_errorType)] }
def FnExactEirpOfSaid : Prop := fnExactEirpOfRow.holds Tryd.pinned (OpenSpec.ofChange fnExactEirpOfSpec)

/-- ITS FALSE NEIGHBOUR: 'it returns false'. Refute it at one input. -/
def fnExactEirpOfWrong : ChangeSpec := { name := "fnExactEirpOf", fn := fun _ => fun
  | [d1, d2] => { results := [.lit (.bool false)], args := [d1, d2] }
  | _ => none }
def FnExactEirpOfWrongFalsely : Prop := fnExactEirpOfRow.holds Tryd.pinned (OpenSpec.ofChange fnExactEirpOfWrong)

/-- 'laws.FnExactSnrOf': WHATEVER THE INPUT: true; the input reads as it did. -/
def fnExactSnrOfSpec : ChangeSpec := { name := "fnExactSnrOf", fn := fun _ => fun
  | [d1, d2] => { results := [.lit (.bool true)], args := [d1, d2] }
  | _ => none }
def fnExactSnrOfRow : OpenClaim := { program := "ytknggnchldcghacdoor", sum := "4b885754e28d8c0e40aa4f4da874f7b82eb547530f15a1a90d8d945229280cf4", func := "loop.example/g00925/laws.FnExactSnrOf", spec := "fnExactSnrOf", inPlace := ["internal/reflectlite.ValueOf", "(internal/reflectlite.Value).Type", "(internal/reflectlite.Value).IsNil", "internal/reflectlite.TypeOf", "(internal/reflectlite.Value).Elem", "(internal/reflectlite.Value).Set"], unfollowed := true, recurses := true, named := ["errors.errorType", "math/bits.divideError", "math/bits.overflowError"], apart := false, laid := [("errors.errorType", laid_errors_errorType)] }
def FnExactSnrOfSaid : Prop := fnExactSnrOfRow.holds Tryd.pinned (OpenSpec.ofChange fnExactSnrOfSpec)

/-- ITS FALSE NEIGHBOUR: 'it returns false'. Refute it at one input. -/
def fnExactSnrOfWrong : ChangeSpec := { name := "fnExactSnrOf", fn := fun _ => fun
  | [d1, d2] => { results := [.lit (.bool false)], args := [d1, d2] }
  | _ => none }
def FnExactSnrOfWrongFalsely : Prop := fnExactSnrOfRow.holds Tryd.pinned (OpenSpec.ofChange fnExactSnrOfWrong)

/-- 'laws.FnExactSinrOf': WHATEVER THE INPUT: true; the input reads as it did. -/
def fnExactSinrOfSpec : ChangeSpec := { name := "fnExactSinrOf", fn := fun _ => fun
  | [d1, d2, d3] => { results := [.lit (.bool true)], args := [d1, d2, d3] }
  | _ => none }
def fnExactSinrOfRow : OpenClaim := { program := "ytknggnchldcghacdoor", sum := "4b885754e28d8c0e40aa4f4da874f7b82eb547530f15a1a90d8d945229280cf4", func := "loop.example/g00925/laws.FnExactSinrOf", spec := "fnExactSinrOf", inPlace := ["internal/reflectlite.ValueOf", "(internal/reflectlite.Value).Type", "(internal/reflectlite.Value).IsNil", "internal/reflectlite.TypeOf", "(internal/reflectlite.Value).Elem", "(internal/reflectlite.Value).Set"], unfollowed := true, recurses := true, named := ["errors.errorType", "math/bits.divideError", "math/bits.overflowError"], apart := false, laid := [("errors.errorType", laid_errors_errorType)] }
def FnExactSinrOfSaid : Prop := fnExactSinrOfRow.holds Tryd.pinned (OpenSpec.ofChange fnExactSinrOfSpec)

/-- ITS FALSE NEIGHBOUR: 'it returns false'. Refute it at one input. -/
def fnExactSinrOfWrong : ChangeSpec := { name := "fnExactSinrOf", fn := fun _ => fun
  | [d1, d2, d3] => { results := [.lit (.bool false)], args := [d1, d2, d3] }
  | _ => none }
def FnExactSinrOfWrongFalsely : Prop := fnExactSinrOfRow.holds Tryd.pinned (OpenSpec.ofChange fnExactSinrOfWrong)

/-- 'laws.FnExactBestMode': WHATEVER THE INPUT: true; the input reads as it did. -/
def fnExactBestModeSpec : ChangeSpec := { name := "fnExactBestMode", fn := fun _ => fun
  | [d1, d2] => { results := [.lit (.bool true)], args := [d1, d2] }
  | _ => none }
def fnExactBestModeRow : OpenClaim := { program := "ytknggnchldcghacdoor", sum := "4b885754e28d8c0e40aa4f4da874f7b82eb547530f15a1a90d8d945229280cf4", func := "loop.example/g00925/laws.FnExactBestMode", spec := "fnExactBestMode", inPlace := ["internal/reflectlite.ValueOf", "(internal/reflectlite.Value).Type", "(internal/reflectlite.Value).IsNil", "internal/reflectlite.TypeOf", "(internal/reflectlite.Value).Elem", "(internal/reflectlite.Value).Set"], unfollowed := true, recurses := true, named := ["errors.errorType"], apart := false, laid := [("errors.errorType", laid_errors_errorType)] }
def FnExactBestModeSaid : Prop := fnExactBestModeRow.holds Tryd.pinned (OpenSpec.ofChange fnExactBestModeSpec)

/-- ITS FALSE NEIGHBOUR: 'it returns false'. Refute it at one input. -/
def fnExactBestModeWrong : ChangeSpec := { name := "fnExactBestMode", fn := fun _ => fun
  | [d1, d2] => { results := [.lit (.bool false)], args := [d1, d2] }
  | _ => none }
def FnExactBestModeWrongFalsely : Prop := fnExactBestModeRow.holds Tryd.pinned (OpenSpec.ofChange fnExactBestModeWrong)

/-- 'laws.FnExactRateAt': WHATEVER THE INPUT: true; the input reads as it did. -/
def fnExactRateAtSpec : ChangeSpec := { name := "fnExactRateAt", fn := fun _ => fun
  | [d1, d2] => { results := [.lit (.bool true)], args := [d1, d2] }
  | _ => none }
def fnExactRateAtRow : OpenClaim := { program := "ytknggnchldcghacdoor", sum := "4b885754e28d8c0e40aa4f4da874f7b82eb547530f15a1a90d8d945229280cf4", func := "loop.example/g00925/laws.FnExactRateAt", spec := "fnExactRateAt", inPlace := ["internal/reflectlite.ValueOf", "(internal/reflectlite.Value).Type", "(internal/reflectlite.Value).IsNil", "internal/reflectlite.TypeOf", "(internal/reflectlite.Value).Elem", "(internal/reflectlite.Value).Set"], unfollowed := true, recurses := true, named := ["errors.errorType", "math/bits.divideError", "math/bits.overflowError"], apart := false, laid := [("errors.errorType", laid_errors_errorType)] }
def FnExactRateAtSaid : Prop := fnExactRateAtRow.holds Tryd.pinned (OpenSpec.ofChange fnExactRateAtSpec)

/-- ITS FALSE NEIGHBOUR: 'it returns false'. Refute it at one input. -/
def fnExactRateAtWrong : ChangeSpec := { name := "fnExactRateAt", fn := fun _ => fun
  | [d1, d2] => { results := [.lit (.bool false)], args := [d1, d2] }
  | _ => none }
def FnExactRateAtWrongFalsely : Prop := fnExactRateAtRow.holds Tryd.pinned (OpenSpec.ofChange fnExactRateAtWrong)

/-- 'laws.FnExactLeastLevel': WHATEVER THE INPUT: true; the input reads as it did. -/
def fnExactLeastLevelSpec : ChangeSpec := { name := "fnExactLeastLevel", fn := fun _ => fun
  | [d1, d2] => { results := [.lit (.bool true)], args := [d1, d2] }
  | _ => none }
def fnExactLeastLevelRow : OpenClaim := { program := "ytknggnchldcghacdoor", sum := "4b885754e28d8c0e40aa4f4da874f7b82eb547530f15a1a90d8d945229280cf4", func := "loop.example/g00925/laws.FnExactLeastLevel", spec := "fnExactLeastLevel", inPlace := ["internal/reflectlite.ValueOf", "(internal/reflectlite.Value).Type", "(internal/reflectlite.Value).IsNil", "internal/reflectlite.TypeOf", "(internal/reflectlite.Value).Elem", "(internal/reflectlite.Value).Set"], unfollowed := true, recurses := true, named := ["errors.errorType", "math/bits.divideError", "math/bits.overflowError"], apart := false, laid := [("errors.errorType", laid_errors_errorType)] }
def FnExactLeastLevelSaid : Prop := fnExactLeastLevelRow.holds Tryd.pinned (OpenSpec.ofChange fnExactLeastLevelSpec)

/-- ITS FALSE NEIGHBOUR: 'it returns false'. Refute it at one input. -/
def fnExactLeastLevelWrong : ChangeSpec := { name := "fnExactLeastLevel", fn := fun _ => fun
  | [d1, d2] => { results := [.lit (.bool false)], args := [d1, d2] }
  | _ => none }
def FnExactLeastLevelWrongFalsely : Prop := fnExactLeastLevelRow.holds Tryd.pinned (OpenSpec.ofChange fnExactLeastLevelWrong)

/-- 'laws.FnExactArrivingLevel': WHATEVER THE INPUT: true; the input reads as it did. -/
def fnExactArrivingLevelSpec : ChangeSpec := { name := "fnExactArrivingLevel", fn := fun _ => fun
  | [d1, d2, d3, d4] => { results := [.lit (.bool true)], args := [d1, d2, d3, d4] }
  | _ => none }
def fnExactArrivingLevelRow : OpenClaim := { program := "ytknggnchldcghacdoor", sum := "4b885754e28d8c0e40aa4f4da874f7b82eb547530f15a1a90d8d945229280cf4", func := "loop.example/g00925/laws.FnExactArrivingLevel", spec := "fnExactArrivingLevel", inPlace := ["internal/reflectlite.ValueOf", "(internal/reflectlite.Value).Type", "(internal/reflectlite.Value).IsNil", "internal/reflectlite.TypeOf", "(internal/reflectlite.Value).Elem", "(internal/reflectlite.Value).Set"], unfollowed := true, recurses := true, named := ["errors.errorType"], apart := false, laid := [("errors.errorType", laid_errors_errorType)] }
def FnExactArrivingLevelSaid : Prop := fnExactArrivingLevelRow.holds Tryd.pinned (OpenSpec.ofChange fnExactArrivingLevelSpec)

/-- ITS FALSE NEIGHBOUR: 'it returns false'. Refute it at one input. -/
def fnExactArrivingLevelWrong : ChangeSpec := { name := "fnExactArrivingLevel", fn := fun _ => fun
  | [d1, d2, d3, d4] => { results := [.lit (.bool false)], args := [d1, d2, d3, d4] }
  | _ => none }
def FnExactArrivingLevelWrongFalsely : Prop := fnExactArrivingLevelRow.holds Tryd.pinned (OpenSpec.ofChange fnExactArrivingLevelWrong)

/-- 'laws.FnExactGreatestLoss': WHATEVER THE INPUT: true; the input reads as it did. -/
def fnExactGreatestLossSpec : ChangeSpec := { name := "fnExactGreatestLoss", fn := fun _ => fun
  | [d1, d2, d3, d4, d5] => { results := [.lit (.bool true)], args := [d1, d2, d3, d4, d5] }
  | _ => none }
def fnExactGreatestLossRow : OpenClaim := { program := "ytknggnchldcghacdoor", sum := "4b885754e28d8c0e40aa4f4da874f7b82eb547530f15a1a90d8d945229280cf4", func := "loop.example/g00925/laws.FnExactGreatestLoss", spec := "fnExactGreatestLoss", inPlace := ["internal/reflectlite.ValueOf", "(internal/reflectlite.Value).Type", "(internal/reflectlite.Value).IsNil", "internal/reflectlite.TypeOf", "(internal/reflectlite.Value).Elem", "(internal/reflectlite.Value).Set"], unfollowed := true, recurses := true, named := ["errors.errorType", "math/bits.divideError", "math/bits.overflowError"], apart := false, laid := [("errors.errorType", laid_errors_errorType)] }
def FnExactGreatestLossSaid : Prop := fnExactGreatestLossRow.holds Tryd.pinned (OpenSpec.ofChange fnExactGreatestLossSpec)

/-- ITS FALSE NEIGHBOUR: 'it returns false'. Refute it at one input. -/
def fnExactGreatestLossWrong : ChangeSpec := { name := "fnExactGreatestLoss", fn := fun _ => fun
  | [d1, d2, d3, d4, d5] => { results := [.lit (.bool false)], args := [d1, d2, d3, d4, d5] }
  | _ => none }
def FnExactGreatestLossWrongFalsely : Prop := fnExactGreatestLossRow.holds Tryd.pinned (OpenSpec.ofChange fnExactGreatestLossWrong)

/-- 'laws.FnExactRadioText': WHATEVER THE INPUT: true; the input reads as it did. -/
def fnExactRadioTextSpec : ChangeSpec := { name := "fnExactRadioText", fn := fun _ => fun
  | [d] => { results := [.lit (.bool true)], args := [d] }
  | _ => none }
def fnExactRadioTextRow : OpenClaim := { program := "ytknggnchldcghacdoor", sum := "4b885754e28d8c0e40aa4f4da874f7b82eb547530f15a1a90d8d945229280cf4", func := "loop.example/g00925/laws.FnExactRadioText", spec := "fnExactRadioText", inPlace := ["internal/abi.NoEscape"], named := ["internal/strconv.uint64pow10", "math/bits.deBruijn32tab", "math/bits.deBruijn64tab"], apart := false, laid := [("math/bits.deBruijn32tab", laid_math_bits_deBruijn32tab), ("math/bits.deBruijn64tab", laid_math_bits_deBruijn64tab), ("internal/strconv.uint64pow10", laid_internal_strconv_uint64pow10)] }
def FnExactRadioTextSaid : Prop := fnExactRadioTextRow.holds Tryd.pinned (OpenSpec.ofChange fnExactRadioTextSpec)

/-- ITS FALSE NEIGHBOUR: 'it returns false'. Refute it at one input. -/
def fnExactRadioTextWrong : ChangeSpec := { name := "fnExactRadioText", fn := fun _ => fun
  | [d] => { results := [.lit (.bool false)], args := [d] }
  | _ => none }
def FnExactRadioTextWrongFalsely : Prop := fnExactRadioTextRow.holds Tryd.pinned (OpenSpec.ofChange fnExactRadioTextWrong)

/-- 'laws.FnExactReadRadio': WHATEVER THE INPUT: true; the input reads as it did. -/
def fnExactReadRadioSpec : ChangeSpec := { name := "fnExactReadRadio", fn := fun _ => fun
  | [d] => { results := [.lit (.bool true)], args := [d] }
  | _ => none }
def fnExactReadRadioRow : OpenClaim := { program := "ytknggnchldcghacdoor", sum := "4b885754e28d8c0e40aa4f4da874f7b82eb547530f15a1a90d8d945229280cf4", func := "loop.example/g00925/laws.FnExactReadRadio", spec := "fnExactReadRadio", inPlace := ["internal/bytealg.CountString", "internal/bytealg.IndexByteString", "internal/bytealg.IndexString", "internal/abi.NoEscape"], unfollowed := true, recurses := true, named := ["unicode/utf8.first", "unicode/utf8.acceptRanges", "internal/bytealg.MaxLen", "strconv.ErrSyntax", "strconv.ErrRange", "internal/strconv.uint64pow10", "math/bits.deBruijn32tab", "math/bits.deBruijn64tab"], apart := false, laid := [("math/bits.deBruijn32tab", laid_math_bits_deBruijn32tab), ("math/bits.deBruijn64tab", laid_math_bits_deBruijn64tab), ("internal/strconv.uint64pow10", laid_internal_strconv_uint64pow10), ("unicode/utf8.acceptRanges", laid_unicode_utf8_acceptRanges), ("strconv.ErrRange", laid_strconv_ErrRange), ("strconv.ErrSyntax", laid_strconv_ErrSyntax), ("unicode/utf8.first", laid_unicode_utf8_first)] }
def FnExactReadRadioSaid : Prop := fnExactReadRadioRow.holds Tryd.pinned (OpenSpec.ofChange fnExactReadRadioSpec)

/-- ITS FALSE NEIGHBOUR: 'it returns false'. Refute it at one input. -/
def fnExactReadRadioWrong : ChangeSpec := { name := "fnExactReadRadio", fn := fun _ => fun
  | [d] => { results := [.lit (.bool false)], args := [d] }
  | _ => none }
def FnExactReadRadioWrongFalsely : Prop := fnExactReadRadioRow.holds Tryd.pinned (OpenSpec.ofChange fnExactReadRadioWrong)

/- THE SECOND FORM. 'bulk': how many values and letters a reading holds, each counted each time it is reached (what is shared counts as often as it is met; a slice's spare places count too). A statement '..UptoSaid' is the law's where the arguments, and the package variables that the reading takes, are together of bulk at most 1048576: NARROWER than '..Said'. Prove '..Said' where nothing that the law and all that it calls make is longer than what came in: it says more and counts as full. Else prove '..UptoSaid'. A law counts once. -/
mutual
def uptoBulk {H : Type} : DataW H → Nat
  | .lit (.string bytes) => bytes.length + 1
  | .lit _ => 1
  | .nil => 1
  | .ptr d => uptoBulk d + 1
  | .slice elems spare => uptoBulkAll elems + uptoBulkAll spare + 1
  | .agg parts => uptoBulkAll parts + 1
  | .iface _ d => uptoBulk d + 1
  | .map entries => uptoBulkEntries entries + 1
  | .held _ => 1
def uptoBulkAll {H : Type} : List (DataW H) → Nat
  | [] => 0
  | d :: r => uptoBulk d + uptoBulkAll r
def uptoBulkEntries {H : Type} : List (Lit × DataW H) → Nat
  | [] => 0
  | x :: r => uptoBulkEntry x + uptoBulkEntries r
def uptoBulkEntry {H : Type} : Lit × DataW H → Nat
  | (.string bytes, d) => bytes.length + uptoBulk d + 1
  | (_, d) => uptoBulk d + 1
 end
def uptoSmall : (H : Type) → List (DataW H) → Bool := fun _ ds => decide (uptoBulkAll ds ≤ 1048576)
def OpenSpec.upto (s : _root_.Go.ChangeSpec) : _root_.Go.OpenSpec := { _root_.Go.OpenSpec.ofChange s with cond := some uptoSmall }

/-- 'laws.FnExactNoiseFloor', WHERE WHAT IT READS IS OF BULK AT MOST 1048576: true; the input reads as it did. -/
def fnExactNoiseFloorUptoRow : OpenClaim := { program := "ytknggnchldcghacdoor", sum := "4b885754e28d8c0e40aa4f4da874f7b82eb547530f15a1a90d8d945229280cf4", func := "loop.example/g00925/laws.FnExactNoiseFloor", spec := "fnExactNoiseFloor", inPlace := ["internal/reflectlite.ValueOf", "(internal/reflectlite.Value).Type", "(internal/reflectlite.Value).IsNil", "internal/reflectlite.TypeOf", "(internal/reflectlite.Value).Elem", "(internal/reflectlite.Value).Set"], unfollowed := true, recurses := true, named := ["errors.errorType", "math/bits.divideError", "math/bits.overflowError"], apart := false, laid := [("errors.errorType", laid_errors_errorType)], narrowed := true }
def FnExactNoiseFloorUptoSaid : Prop := fnExactNoiseFloorUptoRow.holds Tryd.pinned (OpenSpec.upto fnExactNoiseFloorSpec)

/-- 'laws.FnExactEirpOf', WHERE WHAT IT READS IS OF BULK AT MOST 1048576: true; the input reads as it did. -/
def fnExactEirpOfUptoRow : OpenClaim := { program := "ytknggnchldcghacdoor", sum := "4b885754e28d8c0e40aa4f4da874f7b82eb547530f15a1a90d8d945229280cf4", func := "loop.example/g00925/laws.FnExactEirpOf", spec := "fnExactEirpOf", inPlace := ["internal/reflectlite.ValueOf", "(internal/reflectlite.Value).Type", "(internal/reflectlite.Value).IsNil", "internal/reflectlite.TypeOf", "(internal/reflectlite.Value).Elem", "(internal/reflectlite.Value).Set"], unfollowed := true, recurses := true, named := ["errors.errorType"], apart := false, laid := [("errors.errorType", laid_errors_errorType)], narrowed := true }
def FnExactEirpOfUptoSaid : Prop := fnExactEirpOfUptoRow.holds Tryd.pinned (OpenSpec.upto fnExactEirpOfSpec)

/-- 'laws.FnExactSnrOf', WHERE WHAT IT READS IS OF BULK AT MOST 1048576: true; the input reads as it did. -/
def fnExactSnrOfUptoRow : OpenClaim := { program := "ytknggnchldcghacdoor", sum := "4b885754e28d8c0e40aa4f4da874f7b82eb547530f15a1a90d8d945229280cf4", func := "loop.example/g00925/laws.FnExactSnrOf", spec := "fnExactSnrOf", inPlace := ["internal/reflectlite.ValueOf", "(internal/reflectlite.Value).Type", "(internal/reflectlite.Value).IsNil", "internal/reflectlite.TypeOf", "(internal/reflectlite.Value).Elem", "(internal/reflectlite.Value).Set"], unfollowed := true, recurses := true, named := ["errors.errorType", "math/bits.divideError", "math/bits.overflowError"], apart := false, laid := [("errors.errorType", laid_errors_errorType)], narrowed := true }
def FnExactSnrOfUptoSaid : Prop := fnExactSnrOfUptoRow.holds Tryd.pinned (OpenSpec.upto fnExactSnrOfSpec)

/-- 'laws.FnExactSinrOf', WHERE WHAT IT READS IS OF BULK AT MOST 1048576: true; the input reads as it did. -/
def fnExactSinrOfUptoRow : OpenClaim := { program := "ytknggnchldcghacdoor", sum := "4b885754e28d8c0e40aa4f4da874f7b82eb547530f15a1a90d8d945229280cf4", func := "loop.example/g00925/laws.FnExactSinrOf", spec := "fnExactSinrOf", inPlace := ["internal/reflectlite.ValueOf", "(internal/reflectlite.Value).Type", "(internal/reflectlite.Value).IsNil", "internal/reflectlite.TypeOf", "(internal/reflectlite.Value).Elem", "(internal/reflectlite.Value).Set"], unfollowed := true, recurses := true, named := ["errors.errorType", "math/bits.divideError", "math/bits.overflowError"], apart := false, laid := [("errors.errorType", laid_errors_errorType)], narrowed := true }
def FnExactSinrOfUptoSaid : Prop := fnExactSinrOfUptoRow.holds Tryd.pinned (OpenSpec.upto fnExactSinrOfSpec)

/-- 'laws.FnExactBestMode', WHERE WHAT IT READS IS OF BULK AT MOST 1048576: true; the input reads as it did. -/
def fnExactBestModeUptoRow : OpenClaim := { program := "ytknggnchldcghacdoor", sum := "4b885754e28d8c0e40aa4f4da874f7b82eb547530f15a1a90d8d945229280cf4", func := "loop.example/g00925/laws.FnExactBestMode", spec := "fnExactBestMode", inPlace := ["internal/reflectlite.ValueOf", "(internal/reflectlite.Value).Type", "(internal/reflectlite.Value).IsNil", "internal/reflectlite.TypeOf", "(internal/reflectlite.Value).Elem", "(internal/reflectlite.Value).Set"], unfollowed := true, recurses := true, named := ["errors.errorType"], apart := false, laid := [("errors.errorType", laid_errors_errorType)], narrowed := true }
def FnExactBestModeUptoSaid : Prop := fnExactBestModeUptoRow.holds Tryd.pinned (OpenSpec.upto fnExactBestModeSpec)

/-- 'laws.FnExactRateAt', WHERE WHAT IT READS IS OF BULK AT MOST 1048576: true; the input reads as it did. -/
def fnExactRateAtUptoRow : OpenClaim := { program := "ytknggnchldcghacdoor", sum := "4b885754e28d8c0e40aa4f4da874f7b82eb547530f15a1a90d8d945229280cf4", func := "loop.example/g00925/laws.FnExactRateAt", spec := "fnExactRateAt", inPlace := ["internal/reflectlite.ValueOf", "(internal/reflectlite.Value).Type", "(internal/reflectlite.Value).IsNil", "internal/reflectlite.TypeOf", "(internal/reflectlite.Value).Elem", "(internal/reflectlite.Value).Set"], unfollowed := true, recurses := true, named := ["errors.errorType", "math/bits.divideError", "math/bits.overflowError"], apart := false, laid := [("errors.errorType", laid_errors_errorType)], narrowed := true }
def FnExactRateAtUptoSaid : Prop := fnExactRateAtUptoRow.holds Tryd.pinned (OpenSpec.upto fnExactRateAtSpec)

/-- 'laws.FnExactLeastLevel', WHERE WHAT IT READS IS OF BULK AT MOST 1048576: true; the input reads as it did. -/
def fnExactLeastLevelUptoRow : OpenClaim := { program := "ytknggnchldcghacdoor", sum := "4b885754e28d8c0e40aa4f4da874f7b82eb547530f15a1a90d8d945229280cf4", func := "loop.example/g00925/laws.FnExactLeastLevel", spec := "fnExactLeastLevel", inPlace := ["internal/reflectlite.ValueOf", "(internal/reflectlite.Value).Type", "(internal/reflectlite.Value).IsNil", "internal/reflectlite.TypeOf", "(internal/reflectlite.Value).Elem", "(internal/reflectlite.Value).Set"], unfollowed := true, recurses := true, named := ["errors.errorType", "math/bits.divideError", "math/bits.overflowError"], apart := false, laid := [("errors.errorType", laid_errors_errorType)], narrowed := true }
def FnExactLeastLevelUptoSaid : Prop := fnExactLeastLevelUptoRow.holds Tryd.pinned (OpenSpec.upto fnExactLeastLevelSpec)

/-- 'laws.FnExactArrivingLevel', WHERE WHAT IT READS IS OF BULK AT MOST 1048576: true; the input reads as it did. -/
def fnExactArrivingLevelUptoRow : OpenClaim := { program := "ytknggnchldcghacdoor", sum := "4b885754e28d8c0e40aa4f4da874f7b82eb547530f15a1a90d8d945229280cf4", func := "loop.example/g00925/laws.FnExactArrivingLevel", spec := "fnExactArrivingLevel", inPlace := ["internal/reflectlite.ValueOf", "(internal/reflectlite.Value).Type", "(internal/reflectlite.Value).IsNil", "internal/reflectlite.TypeOf", "(internal/reflectlite.Value).Elem", "(internal/reflectlite.Value).Set"], unfollowed := true, recurses := true, named := ["errors.errorType"], apart := false, laid := [("errors.errorType", laid_errors_errorType)], narrowed := true }
def FnExactArrivingLevelUptoSaid : Prop := fnExactArrivingLevelUptoRow.holds Tryd.pinned (OpenSpec.upto fnExactArrivingLevelSpec)

/-- 'laws.FnExactGreatestLoss', WHERE WHAT IT READS IS OF BULK AT MOST 1048576: true; the input reads as it did. -/
def fnExactGreatestLossUptoRow : OpenClaim := { program := "ytknggnchldcghacdoor", sum := "4b885754e28d8c0e40aa4f4da874f7b82eb547530f15a1a90d8d945229280cf4", func := "loop.example/g00925/laws.FnExactGreatestLoss", spec := "fnExactGreatestLoss", inPlace := ["internal/reflectlite.ValueOf", "(internal/reflectlite.Value).Type", "(internal/reflectlite.Value).IsNil", "internal/reflectlite.TypeOf", "(internal/reflectlite.Value).Elem", "(internal/reflectlite.Value).Set"], unfollowed := true, recurses := true, named := ["errors.errorType", "math/bits.divideError", "math/bits.overflowError"], apart := false, laid := [("errors.errorType", laid_errors_errorType)], narrowed := true }
def FnExactGreatestLossUptoSaid : Prop := fnExactGreatestLossUptoRow.holds Tryd.pinned (OpenSpec.upto fnExactGreatestLossSpec)

/-- 'laws.FnExactRadioText', WHERE WHAT IT READS IS OF BULK AT MOST 1048576: true; the input reads as it did. -/
def fnExactRadioTextUptoRow : OpenClaim := { program := "ytknggnchldcghacdoor", sum := "4b885754e28d8c0e40aa4f4da874f7b82eb547530f15a1a90d8d945229280cf4", func := "loop.example/g00925/laws.FnExactRadioText", spec := "fnExactRadioText", inPlace := ["internal/abi.NoEscape"], named := ["internal/strconv.uint64pow10", "math/bits.deBruijn32tab", "math/bits.deBruijn64tab"], apart := false, laid := [("math/bits.deBruijn32tab", laid_math_bits_deBruijn32tab), ("math/bits.deBruijn64tab", laid_math_bits_deBruijn64tab), ("internal/strconv.uint64pow10", laid_internal_strconv_uint64pow10)], narrowed := true }
def FnExactRadioTextUptoSaid : Prop := fnExactRadioTextUptoRow.holds Tryd.pinned (OpenSpec.upto fnExactRadioTextSpec)

/-- 'laws.FnExactReadRadio', WHERE WHAT IT READS IS OF BULK AT MOST 1048576: true; the input reads as it did. -/
def fnExactReadRadioUptoRow : OpenClaim := { program := "ytknggnchldcghacdoor", sum := "4b885754e28d8c0e40aa4f4da874f7b82eb547530f15a1a90d8d945229280cf4", func := "loop.example/g00925/laws.FnExactReadRadio", spec := "fnExactReadRadio", inPlace := ["internal/bytealg.CountString", "internal/bytealg.IndexByteString", "internal/bytealg.IndexString", "internal/abi.NoEscape"], unfollowed := true, recurses := true, named := ["unicode/utf8.first", "unicode/utf8.acceptRanges", "internal/bytealg.MaxLen", "strconv.ErrSyntax", "strconv.ErrRange", "internal/strconv.uint64pow10", "math/bits.deBruijn32tab", "math/bits.deBruijn64tab"], apart := false, laid := [("math/bits.deBruijn32tab", laid_math_bits_deBruijn32tab), ("math/bits.deBruijn64tab", laid_math_bits_deBruijn64tab), ("internal/strconv.uint64pow10", laid_internal_strconv_uint64pow10), ("unicode/utf8.acceptRanges", laid_unicode_utf8_acceptRanges), ("strconv.ErrRange", laid_strconv_ErrRange), ("strconv.ErrSyntax", laid_strconv_ErrSyntax), ("unicode/utf8.first", laid_unicode_utf8_first)], narrowed := true }
def FnExactReadRadioUptoSaid : Prop := fnExactReadRadioUptoRow.holds Tryd.pinned (OpenSpec.upto fnExactReadRadioSpec)

end Rows
end Go.Proofs.YtknggnchldcghacDoor
