/-
  NARROWER THAN 'FOR EVERY INPUT', by the rows' own cells (each row's printed sentence says how): FnExactClutterName: laid · FnExactClutterHeight: laid · FnExactClutterLoss: laid · FnExactRainSpecific: laid · FnExactRainLoss: laid · FnExactGasSpecific: laid · FnExactGasLoss: laid · FnExactVegetationLoss: laid · FnExactLossesOf: laid.
  DERIVED. THE GIVEN ROWS OF THIS SEAT. 9 by the template 'for every input the law returns true; each argument reads behind the call as it read before'; 0 by the template 'total and deterministic' (their statements: YtigbbhohgeemdaaDoorTotals.lean).
  GIVEN WITH THE SEED: the statements are not yours to turn. If you find one false, say at which input.
  Laid BY PROGRAM, IN A SANDBOX (cutbox-rows.mjs): the forced cells as the released guide's own fill.sh prints them over the translation ffc909d20257cc98… (all of the seat's roots in one cut). By AI agents, Wed Nov 11 2026. No macro, syntax, notation, axiom, sorry.
-/
import Derived.Test.YtigbbhohgeemdaaDoorChecked
import GoSem.Claim
import GoSem.ClaimJoined
import GoSem.ClaimMapViews
import Derived.JoinedTies
import Derived.KernelRfl
namespace Go.Proofs.YtigbbhohgeemdaaDoor
/- THE CELL 'sum', in the pinned program and in every row, IS THE sha256 OF THE DUMP (.gsa) THAT YtigbbhohgeemdaaDoorProg.lean LOADS. Nothing in Lean hashes anything: it is a label: what it is worth is what the hold of that sum in a sandbox is worth. -/
noncomputable def Tryd.pinned : Pinned := { name := "ytigbbhohgeemdaadoor", sum := "ffc909d20257cc982b3ea5b296c9b0c9bc766deb4b7ec7b61e5cf9840df1d32d", checked := Tryd.checked }
namespace Rows
def none {H : Type} : Left H := { results := [], args := [] }

/- WHAT THE LISTED PACKAGE-LEVEL VARIABLES READ AS WHEN THE CALL BEGINS. Each datum BY PROGRAM (the guide's laid-datum.mjs) off the statement by which the dump's own 'gosem.cut.vars' lays the variable. In a bare row this is a premise. The card (YtigbbhohgeemdaaDoorCards.lean) ties it to the program's text. -/
def laid_loop_example_g00925_impl_quantitySpans {H : Type} : DataW H := .agg [.agg [.lit (.int .i64 1), .lit (.int .i64 100000000)], .agg [.lit (.int .i64 1), .lit (.int .i64 283000)], .agg [.lit (.int .i64 (-300000)), .lit (.int .i64 300000)], .agg [.lit (.int .i64 (-300000)), .lit (.int .i64 300000)], .agg [.lit (.int .i64 0), .lit (.int .i64 300000)], .agg [.lit (.int .i64 1), .lit (.int .i64 100000)], .agg [.lit (.int .i64 0), .lit (.int .i64 7)], .agg [.lit (.int .i64 0), .lit (.int .i64 90000)], .agg [.lit (.int .i64 0), .lit (.int .i64 200)], .agg [.lit (.int .i64 0), .lit (.int .i64 1000)], .agg [.lit (.int .i64 1), .lit (.int .i64 10000)], .agg [.lit (.int .i64 1), .lit (.int .i64 20)], .agg [.lit (.int .i64 0), .lit (.int .i64 1000000)], .agg [.lit (.int .i64 25), .lit (.int .i64 400)], .agg [.lit (.int .i64 0), .lit (.int .i64 100000)]]
def laid_loop_example_g00925_impl_surroundings {H : Type} : DataW H := .agg [.agg [.lit (.string [111, 112, 101, 110]), .lit (.int .i64 0), .lit (.int .i64 0)], .agg [.lit (.string [102, 105, 101, 108, 100]), .lit (.int .i64 20), .lit (.int .i64 1000)], .agg [.lit (.string [119, 97, 116, 101, 114]), .lit (.int .i64 10), .lit (.int .i64 500)], .agg [.lit (.string [116, 114, 101, 101, 115]), .lit (.int .i64 120), .lit (.int .i64 12000)], .agg [.lit (.string [118, 105, 108, 108, 97, 103, 101]), .lit (.int .i64 70), .lit (.int .i64 8000)], .agg [.lit (.string [115, 117, 98, 117, 114, 98]), .lit (.int .i64 90), .lit (.int .i64 10000)], .agg [.lit (.string [116, 111, 119, 110]), .lit (.int .i64 160), .lit (.int .i64 16000)], .agg [.lit (.string [99, 105, 116, 121]), .lit (.int .i64 240), .lit (.int .i64 20000)]]

/-- 'laws.FnExactClutterName': WHATEVER THE INPUT: true; the input reads as it did. -/
def fnExactClutterNameSpec : ChangeSpec := { name := "fnExactClutterName", vars := ["loop.example/g00925/impl.surroundings", "loop.example/g00925/impl.quantitySpans"], fn := fun _ => fun
  | [d, g1, g2] => { results := [.lit (.bool true)], args := [d], vars := [g1, g2] }
  | _ => none }
def fnExactClutterNameRow : OpenClaim := { program := "ytigbbhohgeemdaadoor", sum := "ffc909d20257cc982b3ea5b296c9b0c9bc766deb4b7ec7b61e5cf9840df1d32d", func := "loop.example/g00925/laws.FnExactClutterName", spec := "fnExactClutterName", named := ["loop.example/g00925/impl.surroundings", "loop.example/g00925/impl.quantitySpans"], apart := false, laid := [("loop.example/g00925/impl.quantitySpans", laid_loop_example_g00925_impl_quantitySpans), ("loop.example/g00925/impl.surroundings", laid_loop_example_g00925_impl_surroundings)] }
def FnExactClutterNameSaid : Prop := fnExactClutterNameRow.holds Tryd.pinned (OpenSpec.ofChange fnExactClutterNameSpec)

/-- ITS FALSE NEIGHBOUR: 'it returns false'. Refute it at one input. -/
def fnExactClutterNameWrong : ChangeSpec := { name := "fnExactClutterName", vars := ["loop.example/g00925/impl.surroundings", "loop.example/g00925/impl.quantitySpans"], fn := fun _ => fun
  | [d, g1, g2] => { results := [.lit (.bool false)], args := [d], vars := [g1, g2] }
  | _ => none }
def FnExactClutterNameWrongFalsely : Prop := fnExactClutterNameRow.holds Tryd.pinned (OpenSpec.ofChange fnExactClutterNameWrong)

/-- 'laws.FnExactClutterHeight': WHATEVER THE INPUT: true; the input reads as it did. -/
def fnExactClutterHeightSpec : ChangeSpec := { name := "fnExactClutterHeight", vars := ["loop.example/g00925/impl.surroundings", "loop.example/g00925/impl.quantitySpans"], fn := fun _ => fun
  | [d, g1, g2] => { results := [.lit (.bool true)], args := [d], vars := [g1, g2] }
  | _ => none }
def fnExactClutterHeightRow : OpenClaim := { program := "ytigbbhohgeemdaadoor", sum := "ffc909d20257cc982b3ea5b296c9b0c9bc766deb4b7ec7b61e5cf9840df1d32d", func := "loop.example/g00925/laws.FnExactClutterHeight", spec := "fnExactClutterHeight", named := ["loop.example/g00925/impl.surroundings", "loop.example/g00925/impl.quantitySpans"], apart := false, laid := [("loop.example/g00925/impl.quantitySpans", laid_loop_example_g00925_impl_quantitySpans), ("loop.example/g00925/impl.surroundings", laid_loop_example_g00925_impl_surroundings)] }
def FnExactClutterHeightSaid : Prop := fnExactClutterHeightRow.holds Tryd.pinned (OpenSpec.ofChange fnExactClutterHeightSpec)

/-- ITS FALSE NEIGHBOUR: 'it returns false'. Refute it at one input. -/
def fnExactClutterHeightWrong : ChangeSpec := { name := "fnExactClutterHeight", vars := ["loop.example/g00925/impl.surroundings", "loop.example/g00925/impl.quantitySpans"], fn := fun _ => fun
  | [d, g1, g2] => { results := [.lit (.bool false)], args := [d], vars := [g1, g2] }
  | _ => none }
def FnExactClutterHeightWrongFalsely : Prop := fnExactClutterHeightRow.holds Tryd.pinned (OpenSpec.ofChange fnExactClutterHeightWrong)

/-- 'laws.FnExactClutterLoss': WHATEVER THE INPUT: true; the input reads as it did. -/
def fnExactClutterLossSpec : ChangeSpec := { name := "fnExactClutterLoss", vars := ["loop.example/g00925/impl.quantitySpans", "loop.example/g00925/impl.surroundings"], fn := fun _ => fun
  | [d1, d2, d3, g1, g2] => { results := [.lit (.bool true)], args := [d1, d2, d3], vars := [g1, g2] }
  | _ => none }
def fnExactClutterLossRow : OpenClaim := { program := "ytigbbhohgeemdaadoor", sum := "ffc909d20257cc982b3ea5b296c9b0c9bc766deb4b7ec7b61e5cf9840df1d32d", func := "loop.example/g00925/laws.FnExactClutterLoss", spec := "fnExactClutterLoss", named := ["loop.example/g00925/impl.quantitySpans", "loop.example/g00925/impl.surroundings"], apart := false, laid := [("loop.example/g00925/impl.quantitySpans", laid_loop_example_g00925_impl_quantitySpans), ("loop.example/g00925/impl.surroundings", laid_loop_example_g00925_impl_surroundings)] }
def FnExactClutterLossSaid : Prop := fnExactClutterLossRow.holds Tryd.pinned (OpenSpec.ofChange fnExactClutterLossSpec)

/-- ITS FALSE NEIGHBOUR: 'it returns false'. Refute it at one input. -/
def fnExactClutterLossWrong : ChangeSpec := { name := "fnExactClutterLoss", vars := ["loop.example/g00925/impl.quantitySpans", "loop.example/g00925/impl.surroundings"], fn := fun _ => fun
  | [d1, d2, d3, g1, g2] => { results := [.lit (.bool false)], args := [d1, d2, d3], vars := [g1, g2] }
  | _ => none }
def FnExactClutterLossWrongFalsely : Prop := fnExactClutterLossRow.holds Tryd.pinned (OpenSpec.ofChange fnExactClutterLossWrong)

/-- 'laws.FnExactRainSpecific': WHATEVER THE INPUT: true; the input reads as it did. -/
def fnExactRainSpecificSpec : ChangeSpec := { name := "fnExactRainSpecific", vars := ["loop.example/g00925/impl.quantitySpans"], fn := fun _ => fun
  | [d1, d2, g1] => { results := [.lit (.bool true)], args := [d1, d2], vars := [g1] }
  | _ => none }
def fnExactRainSpecificRow : OpenClaim := { program := "ytigbbhohgeemdaadoor", sum := "ffc909d20257cc982b3ea5b296c9b0c9bc766deb4b7ec7b61e5cf9840df1d32d", func := "loop.example/g00925/laws.FnExactRainSpecific", spec := "fnExactRainSpecific", named := ["loop.example/g00925/impl.quantitySpans", "math/bits.divideError", "math/bits.overflowError"], apart := false, laid := [("loop.example/g00925/impl.quantitySpans", laid_loop_example_g00925_impl_quantitySpans)] }
def FnExactRainSpecificSaid : Prop := fnExactRainSpecificRow.holds Tryd.pinned (OpenSpec.ofChange fnExactRainSpecificSpec)

/-- ITS FALSE NEIGHBOUR: 'it returns false'. Refute it at one input. -/
def fnExactRainSpecificWrong : ChangeSpec := { name := "fnExactRainSpecific", vars := ["loop.example/g00925/impl.quantitySpans"], fn := fun _ => fun
  | [d1, d2, g1] => { results := [.lit (.bool false)], args := [d1, d2], vars := [g1] }
  | _ => none }
def FnExactRainSpecificWrongFalsely : Prop := fnExactRainSpecificRow.holds Tryd.pinned (OpenSpec.ofChange fnExactRainSpecificWrong)

/-- 'laws.FnExactRainLoss': WHATEVER THE INPUT: true; the input reads as it did. -/
def fnExactRainLossSpec : ChangeSpec := { name := "fnExactRainLoss", vars := ["loop.example/g00925/impl.quantitySpans"], fn := fun _ => fun
  | [d1, d2, d3, g1] => { results := [.lit (.bool true)], args := [d1, d2, d3], vars := [g1] }
  | _ => none }
def fnExactRainLossRow : OpenClaim := { program := "ytigbbhohgeemdaadoor", sum := "ffc909d20257cc982b3ea5b296c9b0c9bc766deb4b7ec7b61e5cf9840df1d32d", func := "loop.example/g00925/laws.FnExactRainLoss", spec := "fnExactRainLoss", named := ["loop.example/g00925/impl.quantitySpans", "math/bits.divideError", "math/bits.overflowError"], apart := false, laid := [("loop.example/g00925/impl.quantitySpans", laid_loop_example_g00925_impl_quantitySpans)] }
def FnExactRainLossSaid : Prop := fnExactRainLossRow.holds Tryd.pinned (OpenSpec.ofChange fnExactRainLossSpec)

/-- ITS FALSE NEIGHBOUR: 'it returns false'. Refute it at one input. -/
def fnExactRainLossWrong : ChangeSpec := { name := "fnExactRainLoss", vars := ["loop.example/g00925/impl.quantitySpans"], fn := fun _ => fun
  | [d1, d2, d3, g1] => { results := [.lit (.bool false)], args := [d1, d2, d3], vars := [g1] }
  | _ => none }
def FnExactRainLossWrongFalsely : Prop := fnExactRainLossRow.holds Tryd.pinned (OpenSpec.ofChange fnExactRainLossWrong)

/-- 'laws.FnExactGasSpecific': WHATEVER THE INPUT: true; the input reads as it did. -/
def fnExactGasSpecificSpec : ChangeSpec := { name := "fnExactGasSpecific", vars := ["loop.example/g00925/impl.quantitySpans"], fn := fun _ => fun
  | [d, g1] => { results := [.lit (.bool true)], args := [d], vars := [g1] }
  | _ => none }
def fnExactGasSpecificRow : OpenClaim := { program := "ytigbbhohgeemdaadoor", sum := "ffc909d20257cc982b3ea5b296c9b0c9bc766deb4b7ec7b61e5cf9840df1d32d", func := "loop.example/g00925/laws.FnExactGasSpecific", spec := "fnExactGasSpecific", named := ["loop.example/g00925/impl.quantitySpans"], apart := false, laid := [("loop.example/g00925/impl.quantitySpans", laid_loop_example_g00925_impl_quantitySpans)] }
def FnExactGasSpecificSaid : Prop := fnExactGasSpecificRow.holds Tryd.pinned (OpenSpec.ofChange fnExactGasSpecificSpec)

/-- ITS FALSE NEIGHBOUR: 'it returns false'. Refute it at one input. -/
def fnExactGasSpecificWrong : ChangeSpec := { name := "fnExactGasSpecific", vars := ["loop.example/g00925/impl.quantitySpans"], fn := fun _ => fun
  | [d, g1] => { results := [.lit (.bool false)], args := [d], vars := [g1] }
  | _ => none }
def FnExactGasSpecificWrongFalsely : Prop := fnExactGasSpecificRow.holds Tryd.pinned (OpenSpec.ofChange fnExactGasSpecificWrong)

/-- 'laws.FnExactGasLoss': WHATEVER THE INPUT: true; the input reads as it did. -/
def fnExactGasLossSpec : ChangeSpec := { name := "fnExactGasLoss", vars := ["loop.example/g00925/impl.quantitySpans"], fn := fun _ => fun
  | [d1, d2, g1] => { results := [.lit (.bool true)], args := [d1, d2], vars := [g1] }
  | _ => none }
def fnExactGasLossRow : OpenClaim := { program := "ytigbbhohgeemdaadoor", sum := "ffc909d20257cc982b3ea5b296c9b0c9bc766deb4b7ec7b61e5cf9840df1d32d", func := "loop.example/g00925/laws.FnExactGasLoss", spec := "fnExactGasLoss", named := ["loop.example/g00925/impl.quantitySpans"], apart := false, laid := [("loop.example/g00925/impl.quantitySpans", laid_loop_example_g00925_impl_quantitySpans)] }
def FnExactGasLossSaid : Prop := fnExactGasLossRow.holds Tryd.pinned (OpenSpec.ofChange fnExactGasLossSpec)

/-- ITS FALSE NEIGHBOUR: 'it returns false'. Refute it at one input. -/
def fnExactGasLossWrong : ChangeSpec := { name := "fnExactGasLoss", vars := ["loop.example/g00925/impl.quantitySpans"], fn := fun _ => fun
  | [d1, d2, g1] => { results := [.lit (.bool false)], args := [d1, d2], vars := [g1] }
  | _ => none }
def FnExactGasLossWrongFalsely : Prop := fnExactGasLossRow.holds Tryd.pinned (OpenSpec.ofChange fnExactGasLossWrong)

/-- 'laws.FnExactVegetationLoss': WHATEVER THE INPUT: true; the input reads as it did. -/
def fnExactVegetationLossSpec : ChangeSpec := { name := "fnExactVegetationLoss", vars := ["loop.example/g00925/impl.quantitySpans"], fn := fun _ => fun
  | [d1, d2, g1] => { results := [.lit (.bool true)], args := [d1, d2], vars := [g1] }
  | _ => none }
def fnExactVegetationLossRow : OpenClaim := { program := "ytigbbhohgeemdaadoor", sum := "ffc909d20257cc982b3ea5b296c9b0c9bc766deb4b7ec7b61e5cf9840df1d32d", func := "loop.example/g00925/laws.FnExactVegetationLoss", spec := "fnExactVegetationLoss", named := ["loop.example/g00925/impl.quantitySpans"], apart := false, laid := [("loop.example/g00925/impl.quantitySpans", laid_loop_example_g00925_impl_quantitySpans)] }
def FnExactVegetationLossSaid : Prop := fnExactVegetationLossRow.holds Tryd.pinned (OpenSpec.ofChange fnExactVegetationLossSpec)

/-- ITS FALSE NEIGHBOUR: 'it returns false'. Refute it at one input. -/
def fnExactVegetationLossWrong : ChangeSpec := { name := "fnExactVegetationLoss", vars := ["loop.example/g00925/impl.quantitySpans"], fn := fun _ => fun
  | [d1, d2, g1] => { results := [.lit (.bool false)], args := [d1, d2], vars := [g1] }
  | _ => none }
def FnExactVegetationLossWrongFalsely : Prop := fnExactVegetationLossRow.holds Tryd.pinned (OpenSpec.ofChange fnExactVegetationLossWrong)

/-- 'laws.FnExactLossesOf': WHATEVER THE INPUT: true; the input reads as it did. -/
def fnExactLossesOfSpec : ChangeSpec := { name := "fnExactLossesOf", vars := ["loop.example/g00925/impl.quantitySpans", "loop.example/g00925/impl.surroundings"], fn := fun _ => fun
  | [d1, d2, d3, d4, d5, g1, g2] => { results := [.lit (.bool true)], args := [d1, d2, d3, d4, d5], vars := [g1, g2] }
  | _ => none }
def fnExactLossesOfRow : OpenClaim := { program := "ytigbbhohgeemdaadoor", sum := "ffc909d20257cc982b3ea5b296c9b0c9bc766deb4b7ec7b61e5cf9840df1d32d", func := "loop.example/g00925/laws.FnExactLossesOf", spec := "fnExactLossesOf", unfollowed := true, recurses := true, named := ["loop.example/g00925/impl.quantitySpans", "math/bits.divideError", "math/bits.overflowError", "loop.example/g00925/impl.surroundings"], apart := false, laid := [("loop.example/g00925/impl.quantitySpans", laid_loop_example_g00925_impl_quantitySpans), ("loop.example/g00925/impl.surroundings", laid_loop_example_g00925_impl_surroundings)] }
def FnExactLossesOfSaid : Prop := fnExactLossesOfRow.holds Tryd.pinned (OpenSpec.ofChange fnExactLossesOfSpec)

/-- ITS FALSE NEIGHBOUR: 'it returns false'. Refute it at one input. -/
def fnExactLossesOfWrong : ChangeSpec := { name := "fnExactLossesOf", vars := ["loop.example/g00925/impl.quantitySpans", "loop.example/g00925/impl.surroundings"], fn := fun _ => fun
  | [d1, d2, d3, d4, d5, g1, g2] => { results := [.lit (.bool false)], args := [d1, d2, d3, d4, d5], vars := [g1, g2] }
  | _ => none }
def FnExactLossesOfWrongFalsely : Prop := fnExactLossesOfRow.holds Tryd.pinned (OpenSpec.ofChange fnExactLossesOfWrong)

/- THE SECOND FORM. 'bulk': how many values and letters a reading holds, each counted each time it is reached (what is shared counts as often as it is met; a slice's spare places count too). A statement '..UptoSaid' is the law's where the arguments, and the package variables that the reading takes, are together of bulk at most 1048576: NARROWER than '..Said'. Prove '..Said' where nothing that the law and all that it calls make is longer than what came in: it says more and counts as full. Else prove '..UptoSaid'. A law counts once. -/
mutual
def uptoBulk {H : Type} : DataW H → Nat
  | .lit (.string bytes) => bytes.length + 1
  | .lit _ => 1
  | .nil => 1
  | .ptr d => uptoBulk d + 1
  | .slice elems spare => uptoBulkAll elems + uptoBulkAll spare + 1
  | .agg parts => uptoBulkAll parts + 1
  | .iface _ d => uptoBulk d + 1
  | .map entries => uptoBulkEntries entries + 1
  | .held _ => 1
def uptoBulkAll {H : Type} : List (DataW H) → Nat
  | [] => 0
  | d :: r => uptoBulk d + uptoBulkAll r
def uptoBulkEntries {H : Type} : List (Lit × DataW H) → Nat
  | [] => 0
  | x :: r => uptoBulkEntry x + uptoBulkEntries r
def uptoBulkEntry {H : Type} : Lit × DataW H → Nat
  | (.string bytes, d) => bytes.length + uptoBulk d + 1
  | (_, d) => uptoBulk d + 1
 end
def uptoSmall : (H : Type) → List (DataW H) → Bool := fun _ ds => decide (uptoBulkAll ds ≤ 1048576)
def OpenSpec.upto (s : _root_.Go.ChangeSpec) : _root_.Go.OpenSpec := { _root_.Go.OpenSpec.ofChange s with cond := some uptoSmall }

/-- 'laws.FnExactClutterName', WHERE WHAT IT READS IS OF BULK AT MOST 1048576: true; the input reads as it did. -/
def fnExactClutterNameUptoRow : OpenClaim := { program := "ytigbbhohgeemdaadoor", sum := "ffc909d20257cc982b3ea5b296c9b0c9bc766deb4b7ec7b61e5cf9840df1d32d", func := "loop.example/g00925/laws.FnExactClutterName", spec := "fnExactClutterName", named := ["loop.example/g00925/impl.surroundings", "loop.example/g00925/impl.quantitySpans"], apart := false, laid := [("loop.example/g00925/impl.quantitySpans", laid_loop_example_g00925_impl_quantitySpans), ("loop.example/g00925/impl.surroundings", laid_loop_example_g00925_impl_surroundings)], narrowed := true }
def FnExactClutterNameUptoSaid : Prop := fnExactClutterNameUptoRow.holds Tryd.pinned (OpenSpec.upto fnExactClutterNameSpec)

/-- 'laws.FnExactClutterHeight', WHERE WHAT IT READS IS OF BULK AT MOST 1048576: true; the input reads as it did. -/
def fnExactClutterHeightUptoRow : OpenClaim := { program := "ytigbbhohgeemdaadoor", sum := "ffc909d20257cc982b3ea5b296c9b0c9bc766deb4b7ec7b61e5cf9840df1d32d", func := "loop.example/g00925/laws.FnExactClutterHeight", spec := "fnExactClutterHeight", named := ["loop.example/g00925/impl.surroundings", "loop.example/g00925/impl.quantitySpans"], apart := false, laid := [("loop.example/g00925/impl.quantitySpans", laid_loop_example_g00925_impl_quantitySpans), ("loop.example/g00925/impl.surroundings", laid_loop_example_g00925_impl_surroundings)], narrowed := true }
def FnExactClutterHeightUptoSaid : Prop := fnExactClutterHeightUptoRow.holds Tryd.pinned (OpenSpec.upto fnExactClutterHeightSpec)

/-- 'laws.FnExactClutterLoss', WHERE WHAT IT READS IS OF BULK AT MOST 1048576: true; the input reads as it did. -/
def fnExactClutterLossUptoRow : OpenClaim := { program := "ytigbbhohgeemdaadoor", sum := "ffc909d20257cc982b3ea5b296c9b0c9bc766deb4b7ec7b61e5cf9840df1d32d", func := "loop.example/g00925/laws.FnExactClutterLoss", spec := "fnExactClutterLoss", named := ["loop.example/g00925/impl.quantitySpans", "loop.example/g00925/impl.surroundings"], apart := false, laid := [("loop.example/g00925/impl.quantitySpans", laid_loop_example_g00925_impl_quantitySpans), ("loop.example/g00925/impl.surroundings", laid_loop_example_g00925_impl_surroundings)], narrowed := true }
def FnExactClutterLossUptoSaid : Prop := fnExactClutterLossUptoRow.holds Tryd.pinned (OpenSpec.upto fnExactClutterLossSpec)

/-- 'laws.FnExactRainSpecific', WHERE WHAT IT READS IS OF BULK AT MOST 1048576: true; the input reads as it did. -/
def fnExactRainSpecificUptoRow : OpenClaim := { program := "ytigbbhohgeemdaadoor", sum := "ffc909d20257cc982b3ea5b296c9b0c9bc766deb4b7ec7b61e5cf9840df1d32d", func := "loop.example/g00925/laws.FnExactRainSpecific", spec := "fnExactRainSpecific", named := ["loop.example/g00925/impl.quantitySpans", "math/bits.divideError", "math/bits.overflowError"], apart := false, laid := [("loop.example/g00925/impl.quantitySpans", laid_loop_example_g00925_impl_quantitySpans)], narrowed := true }
def FnExactRainSpecificUptoSaid : Prop := fnExactRainSpecificUptoRow.holds Tryd.pinned (OpenSpec.upto fnExactRainSpecificSpec)

/-- 'laws.FnExactRainLoss', WHERE WHAT IT READS IS OF BULK AT MOST 1048576: true; the input reads as it did. -/
def fnExactRainLossUptoRow : OpenClaim := { program := "ytigbbhohgeemdaadoor", sum := "ffc909d20257cc982b3ea5b296c9b0c9bc766deb4b7ec7b61e5cf9840df1d32d", func := "loop.example/g00925/laws.FnExactRainLoss", spec := "fnExactRainLoss", named := ["loop.example/g00925/impl.quantitySpans", "math/bits.divideError", "math/bits.overflowError"], apart := false, laid := [("loop.example/g00925/impl.quantitySpans", laid_loop_example_g00925_impl_quantitySpans)], narrowed := true }
def FnExactRainLossUptoSaid : Prop := fnExactRainLossUptoRow.holds Tryd.pinned (OpenSpec.upto fnExactRainLossSpec)

/-- 'laws.FnExactGasSpecific', WHERE WHAT IT READS IS OF BULK AT MOST 1048576: true; the input reads as it did. -/
def fnExactGasSpecificUptoRow : OpenClaim := { program := "ytigbbhohgeemdaadoor", sum := "ffc909d20257cc982b3ea5b296c9b0c9bc766deb4b7ec7b61e5cf9840df1d32d", func := "loop.example/g00925/laws.FnExactGasSpecific", spec := "fnExactGasSpecific", named := ["loop.example/g00925/impl.quantitySpans"], apart := false, laid := [("loop.example/g00925/impl.quantitySpans", laid_loop_example_g00925_impl_quantitySpans)], narrowed := true }
def FnExactGasSpecificUptoSaid : Prop := fnExactGasSpecificUptoRow.holds Tryd.pinned (OpenSpec.upto fnExactGasSpecificSpec)

/-- 'laws.FnExactGasLoss', WHERE WHAT IT READS IS OF BULK AT MOST 1048576: true; the input reads as it did. -/
def fnExactGasLossUptoRow : OpenClaim := { program := "ytigbbhohgeemdaadoor", sum := "ffc909d20257cc982b3ea5b296c9b0c9bc766deb4b7ec7b61e5cf9840df1d32d", func := "loop.example/g00925/laws.FnExactGasLoss", spec := "fnExactGasLoss", named := ["loop.example/g00925/impl.quantitySpans"], apart := false, laid := [("loop.example/g00925/impl.quantitySpans", laid_loop_example_g00925_impl_quantitySpans)], narrowed := true }
def FnExactGasLossUptoSaid : Prop := fnExactGasLossUptoRow.holds Tryd.pinned (OpenSpec.upto fnExactGasLossSpec)

/-- 'laws.FnExactVegetationLoss', WHERE WHAT IT READS IS OF BULK AT MOST 1048576: true; the input reads as it did. -/
def fnExactVegetationLossUptoRow : OpenClaim := { program := "ytigbbhohgeemdaadoor", sum := "ffc909d20257cc982b3ea5b296c9b0c9bc766deb4b7ec7b61e5cf9840df1d32d", func := "loop.example/g00925/laws.FnExactVegetationLoss", spec := "fnExactVegetationLoss", named := ["loop.example/g00925/impl.quantitySpans"], apart := false, laid := [("loop.example/g00925/impl.quantitySpans", laid_loop_example_g00925_impl_quantitySpans)], narrowed := true }
def FnExactVegetationLossUptoSaid : Prop := fnExactVegetationLossUptoRow.holds Tryd.pinned (OpenSpec.upto fnExactVegetationLossSpec)

/-- 'laws.FnExactLossesOf', WHERE WHAT IT READS IS OF BULK AT MOST 1048576: true; the input reads as it did. -/
def fnExactLossesOfUptoRow : OpenClaim := { program := "ytigbbhohgeemdaadoor", sum := "ffc909d20257cc982b3ea5b296c9b0c9bc766deb4b7ec7b61e5cf9840df1d32d", func := "loop.example/g00925/laws.FnExactLossesOf", spec := "fnExactLossesOf", unfollowed := true, recurses := true, named := ["loop.example/g00925/impl.quantitySpans", "math/bits.divideError", "math/bits.overflowError", "loop.example/g00925/impl.surroundings"], apart := false, laid := [("loop.example/g00925/impl.quantitySpans", laid_loop_example_g00925_impl_quantitySpans), ("loop.example/g00925/impl.surroundings", laid_loop_example_g00925_impl_surroundings)], narrowed := true }
def FnExactLossesOfUptoSaid : Prop := fnExactLossesOfUptoRow.holds Tryd.pinned (OpenSpec.upto fnExactLossesOfSpec)

end Rows
end Go.Proofs.YtigbbhohgeemdaaDoor
