/-
  NARROWER THAN 'FOR EVERY INPUT', by the rows' own cells (each row's printed sentence says how): FnExactFreeLoss: laid · FnExactFieldStrength: laid · FnExactLevelOfField: laid · FnExactFieldOfLevel: laid · FnExactRangeOfLoss: laid · FnExactRangeOfField: laid · FnExactWavelengthOf: laid · FnExactFarDistance: laid · FnExactFreeTable: laid · FnFreeSpace: laid.
  DERIVED. THE GIVEN ROWS OF THIS SEAT. 10 by the template 'for every input the law returns true; each argument reads behind the call as it read before'; 0 by the template 'total and deterministic' (their statements: YtnbkdekndflefaaDoorTotals.lean).
  GIVEN WITH THE SEED: the statements are not yours to turn. If you find one false, say at which input.
  Laid BY PROGRAM, IN A SANDBOX (cutbox-rows.mjs): the forced cells as the released guide's own fill.sh prints them over the translation 9f231c3254c9fdf3… (all of the seat's roots in one cut). By AI agents, Wed Nov 11 2026. No macro, syntax, notation, axiom, sorry.
-/
import Derived.Test.YtnbkdekndflefaaDoorChecked
import GoSem.Claim
import GoSem.ClaimJoined
import GoSem.ClaimMapViews
import Derived.JoinedTies
import Derived.KernelRfl
namespace Go.Proofs.YtnbkdekndflefaaDoor
/- THE CELL 'sum', in the pinned program and in every row, IS THE sha256 OF THE DUMP (.gsa) THAT YtnbkdekndflefaaDoorProg.lean LOADS. Nothing in Lean hashes anything: it is a label: what it is worth is what the hold of that sum in a sandbox is worth. -/
noncomputable def Tryd.pinned : Pinned := { name := "ytnbkdekndflefaadoor", sum := "9f231c3254c9fdf3ce3bb25c8be9aa87a13ba5d53e6666c964d32c87e7e4da90", checked := Tryd.checked }
namespace Rows
def none {H : Type} : Left H := { results := [], args := [] }

/- WHAT THE LISTED PACKAGE-LEVEL VARIABLES READ AS WHEN THE CALL BEGINS. Each datum BY PROGRAM (the guide's laid-datum.mjs) off the statement by which the dump's own 'gosem.cut.vars' lays the variable. In a bare row this is a premise. The card (YtnbkdekndflefaaDoorCards.lean) ties it to the program's text. -/
def laid_loop_example_g00925_impl_quantitySpans {H : Type} : DataW H := .agg [.agg [.lit (.int .i64 1), .lit (.int .i64 100000000)], .agg [.lit (.int .i64 1), .lit (.int .i64 283000)], .agg [.lit (.int .i64 (-300000)), .lit (.int .i64 300000)], .agg [.lit (.int .i64 (-300000)), .lit (.int .i64 300000)], .agg [.lit (.int .i64 0), .lit (.int .i64 300000)], .agg [.lit (.int .i64 1), .lit (.int .i64 100000)], .agg [.lit (.int .i64 0), .lit (.int .i64 7)], .agg [.lit (.int .i64 0), .lit (.int .i64 90000)], .agg [.lit (.int .i64 0), .lit (.int .i64 200)], .agg [.lit (.int .i64 0), .lit (.int .i64 1000)], .agg [.lit (.int .i64 1), .lit (.int .i64 10000)], .agg [.lit (.int .i64 1), .lit (.int .i64 20)], .agg [.lit (.int .i64 0), .lit (.int .i64 1000000)], .agg [.lit (.int .i64 25), .lit (.int .i64 400)], .agg [.lit (.int .i64 0), .lit (.int .i64 100000)]]

/-- 'laws.FnExactFreeLoss': WHATEVER THE INPUT: true; the input reads as it did. -/
def fnExactFreeLossSpec : ChangeSpec := { name := "fnExactFreeLoss", vars := ["loop.example/g00925/impl.quantitySpans"], fn := fun _ => fun
  | [d1, d2, g1] => { results := [.lit (.bool true)], args := [d1, d2], vars := [g1] }
  | _ => none }
def fnExactFreeLossRow : OpenClaim := { program := "ytnbkdekndflefaadoor", sum := "9f231c3254c9fdf3ce3bb25c8be9aa87a13ba5d53e6666c964d32c87e7e4da90", func := "loop.example/g00925/laws.FnExactFreeLoss", spec := "fnExactFreeLoss", named := ["loop.example/g00925/impl.quantitySpans", "math/bits.divideError", "math/bits.overflowError"], apart := false, laid := [("loop.example/g00925/impl.quantitySpans", laid_loop_example_g00925_impl_quantitySpans)] }
def FnExactFreeLossSaid : Prop := fnExactFreeLossRow.holds Tryd.pinned (OpenSpec.ofChange fnExactFreeLossSpec)

/-- ITS FALSE NEIGHBOUR: 'it returns false'. Refute it at one input. -/
def fnExactFreeLossWrong : ChangeSpec := { name := "fnExactFreeLoss", vars := ["loop.example/g00925/impl.quantitySpans"], fn := fun _ => fun
  | [d1, d2, g1] => { results := [.lit (.bool false)], args := [d1, d2], vars := [g1] }
  | _ => none }
def FnExactFreeLossWrongFalsely : Prop := fnExactFreeLossRow.holds Tryd.pinned (OpenSpec.ofChange fnExactFreeLossWrong)

/-- 'laws.FnExactFieldStrength': WHATEVER THE INPUT: true; the input reads as it did. -/
def fnExactFieldStrengthSpec : ChangeSpec := { name := "fnExactFieldStrength", vars := ["loop.example/g00925/impl.quantitySpans"], fn := fun _ => fun
  | [d1, d2, g1] => { results := [.lit (.bool true)], args := [d1, d2], vars := [g1] }
  | _ => none }
def fnExactFieldStrengthRow : OpenClaim := { program := "ytnbkdekndflefaadoor", sum := "9f231c3254c9fdf3ce3bb25c8be9aa87a13ba5d53e6666c964d32c87e7e4da90", func := "loop.example/g00925/laws.FnExactFieldStrength", spec := "fnExactFieldStrength", named := ["loop.example/g00925/impl.quantitySpans", "math/bits.divideError", "math/bits.overflowError"], apart := false, laid := [("loop.example/g00925/impl.quantitySpans", laid_loop_example_g00925_impl_quantitySpans)] }
def FnExactFieldStrengthSaid : Prop := fnExactFieldStrengthRow.holds Tryd.pinned (OpenSpec.ofChange fnExactFieldStrengthSpec)

/-- ITS FALSE NEIGHBOUR: 'it returns false'. Refute it at one input. -/
def fnExactFieldStrengthWrong : ChangeSpec := { name := "fnExactFieldStrength", vars := ["loop.example/g00925/impl.quantitySpans"], fn := fun _ => fun
  | [d1, d2, g1] => { results := [.lit (.bool false)], args := [d1, d2], vars := [g1] }
  | _ => none }
def FnExactFieldStrengthWrongFalsely : Prop := fnExactFieldStrengthRow.holds Tryd.pinned (OpenSpec.ofChange fnExactFieldStrengthWrong)

/-- 'laws.FnExactLevelOfField': WHATEVER THE INPUT: true; the input reads as it did. -/
def fnExactLevelOfFieldSpec : ChangeSpec := { name := "fnExactLevelOfField", vars := ["loop.example/g00925/impl.quantitySpans"], fn := fun _ => fun
  | [d1, d2, g1] => { results := [.lit (.bool true)], args := [d1, d2], vars := [g1] }
  | _ => none }
def fnExactLevelOfFieldRow : OpenClaim := { program := "ytnbkdekndflefaadoor", sum := "9f231c3254c9fdf3ce3bb25c8be9aa87a13ba5d53e6666c964d32c87e7e4da90", func := "loop.example/g00925/laws.FnExactLevelOfField", spec := "fnExactLevelOfField", named := ["loop.example/g00925/impl.quantitySpans", "math/bits.divideError", "math/bits.overflowError"], apart := false, laid := [("loop.example/g00925/impl.quantitySpans", laid_loop_example_g00925_impl_quantitySpans)] }
def FnExactLevelOfFieldSaid : Prop := fnExactLevelOfFieldRow.holds Tryd.pinned (OpenSpec.ofChange fnExactLevelOfFieldSpec)

/-- ITS FALSE NEIGHBOUR: 'it returns false'. Refute it at one input. -/
def fnExactLevelOfFieldWrong : ChangeSpec := { name := "fnExactLevelOfField", vars := ["loop.example/g00925/impl.quantitySpans"], fn := fun _ => fun
  | [d1, d2, g1] => { results := [.lit (.bool false)], args := [d1, d2], vars := [g1] }
  | _ => none }
def FnExactLevelOfFieldWrongFalsely : Prop := fnExactLevelOfFieldRow.holds Tryd.pinned (OpenSpec.ofChange fnExactLevelOfFieldWrong)

/-- 'laws.FnExactFieldOfLevel': WHATEVER THE INPUT: true; the input reads as it did. -/
def fnExactFieldOfLevelSpec : ChangeSpec := { name := "fnExactFieldOfLevel", vars := ["loop.example/g00925/impl.quantitySpans"], fn := fun _ => fun
  | [d1, d2, g1] => { results := [.lit (.bool true)], args := [d1, d2], vars := [g1] }
  | _ => none }
def fnExactFieldOfLevelRow : OpenClaim := { program := "ytnbkdekndflefaadoor", sum := "9f231c3254c9fdf3ce3bb25c8be9aa87a13ba5d53e6666c964d32c87e7e4da90", func := "loop.example/g00925/laws.FnExactFieldOfLevel", spec := "fnExactFieldOfLevel", named := ["loop.example/g00925/impl.quantitySpans", "math/bits.divideError", "math/bits.overflowError"], apart := false, laid := [("loop.example/g00925/impl.quantitySpans", laid_loop_example_g00925_impl_quantitySpans)] }
def FnExactFieldOfLevelSaid : Prop := fnExactFieldOfLevelRow.holds Tryd.pinned (OpenSpec.ofChange fnExactFieldOfLevelSpec)

/-- ITS FALSE NEIGHBOUR: 'it returns false'. Refute it at one input. -/
def fnExactFieldOfLevelWrong : ChangeSpec := { name := "fnExactFieldOfLevel", vars := ["loop.example/g00925/impl.quantitySpans"], fn := fun _ => fun
  | [d1, d2, g1] => { results := [.lit (.bool false)], args := [d1, d2], vars := [g1] }
  | _ => none }
def FnExactFieldOfLevelWrongFalsely : Prop := fnExactFieldOfLevelRow.holds Tryd.pinned (OpenSpec.ofChange fnExactFieldOfLevelWrong)

/-- 'laws.FnExactRangeOfLoss': WHATEVER THE INPUT: true; the input reads as it did. -/
def fnExactRangeOfLossSpec : ChangeSpec := { name := "fnExactRangeOfLoss", vars := ["loop.example/g00925/impl.quantitySpans"], fn := fun _ => fun
  | [d1, d2, g1] => { results := [.lit (.bool true)], args := [d1, d2], vars := [g1] }
  | _ => none }
def fnExactRangeOfLossRow : OpenClaim := { program := "ytnbkdekndflefaadoor", sum := "9f231c3254c9fdf3ce3bb25c8be9aa87a13ba5d53e6666c964d32c87e7e4da90", func := "loop.example/g00925/laws.FnExactRangeOfLoss", spec := "fnExactRangeOfLoss", unfollowed := true, recurses := true, named := ["loop.example/g00925/impl.quantitySpans", "math/bits.divideError", "math/bits.overflowError"], apart := false, laid := [("loop.example/g00925/impl.quantitySpans", laid_loop_example_g00925_impl_quantitySpans)] }
def FnExactRangeOfLossSaid : Prop := fnExactRangeOfLossRow.holds Tryd.pinned (OpenSpec.ofChange fnExactRangeOfLossSpec)

/-- ITS FALSE NEIGHBOUR: 'it returns false'. Refute it at one input. -/
def fnExactRangeOfLossWrong : ChangeSpec := { name := "fnExactRangeOfLoss", vars := ["loop.example/g00925/impl.quantitySpans"], fn := fun _ => fun
  | [d1, d2, g1] => { results := [.lit (.bool false)], args := [d1, d2], vars := [g1] }
  | _ => none }
def FnExactRangeOfLossWrongFalsely : Prop := fnExactRangeOfLossRow.holds Tryd.pinned (OpenSpec.ofChange fnExactRangeOfLossWrong)

/-- 'laws.FnExactRangeOfField': WHATEVER THE INPUT: true; the input reads as it did. -/
def fnExactRangeOfFieldSpec : ChangeSpec := { name := "fnExactRangeOfField", vars := ["loop.example/g00925/impl.quantitySpans"], fn := fun _ => fun
  | [d1, d2, g1] => { results := [.lit (.bool true)], args := [d1, d2], vars := [g1] }
  | _ => none }
def fnExactRangeOfFieldRow : OpenClaim := { program := "ytnbkdekndflefaadoor", sum := "9f231c3254c9fdf3ce3bb25c8be9aa87a13ba5d53e6666c964d32c87e7e4da90", func := "loop.example/g00925/laws.FnExactRangeOfField", spec := "fnExactRangeOfField", unfollowed := true, recurses := true, named := ["loop.example/g00925/impl.quantitySpans", "math/bits.divideError", "math/bits.overflowError"], apart := false, laid := [("loop.example/g00925/impl.quantitySpans", laid_loop_example_g00925_impl_quantitySpans)] }
def FnExactRangeOfFieldSaid : Prop := fnExactRangeOfFieldRow.holds Tryd.pinned (OpenSpec.ofChange fnExactRangeOfFieldSpec)

/-- ITS FALSE NEIGHBOUR: 'it returns false'. Refute it at one input. -/
def fnExactRangeOfFieldWrong : ChangeSpec := { name := "fnExactRangeOfField", vars := ["loop.example/g00925/impl.quantitySpans"], fn := fun _ => fun
  | [d1, d2, g1] => { results := [.lit (.bool false)], args := [d1, d2], vars := [g1] }
  | _ => none }
def FnExactRangeOfFieldWrongFalsely : Prop := fnExactRangeOfFieldRow.holds Tryd.pinned (OpenSpec.ofChange fnExactRangeOfFieldWrong)

/-- 'laws.FnExactWavelengthOf': WHATEVER THE INPUT: true; the input reads as it did. -/
def fnExactWavelengthOfSpec : ChangeSpec := { name := "fnExactWavelengthOf", vars := ["loop.example/g00925/impl.quantitySpans"], fn := fun _ => fun
  | [d, g1] => { results := [.lit (.bool true)], args := [d], vars := [g1] }
  | _ => none }
def fnExactWavelengthOfRow : OpenClaim := { program := "ytnbkdekndflefaadoor", sum := "9f231c3254c9fdf3ce3bb25c8be9aa87a13ba5d53e6666c964d32c87e7e4da90", func := "loop.example/g00925/laws.FnExactWavelengthOf", spec := "fnExactWavelengthOf", named := ["loop.example/g00925/impl.quantitySpans"], apart := false, laid := [("loop.example/g00925/impl.quantitySpans", laid_loop_example_g00925_impl_quantitySpans)] }
def FnExactWavelengthOfSaid : Prop := fnExactWavelengthOfRow.holds Tryd.pinned (OpenSpec.ofChange fnExactWavelengthOfSpec)

/-- ITS FALSE NEIGHBOUR: 'it returns false'. Refute it at one input. -/
def fnExactWavelengthOfWrong : ChangeSpec := { name := "fnExactWavelengthOf", vars := ["loop.example/g00925/impl.quantitySpans"], fn := fun _ => fun
  | [d, g1] => { results := [.lit (.bool false)], args := [d], vars := [g1] }
  | _ => none }
def FnExactWavelengthOfWrongFalsely : Prop := fnExactWavelengthOfRow.holds Tryd.pinned (OpenSpec.ofChange fnExactWavelengthOfWrong)

/-- 'laws.FnExactFarDistance': WHATEVER THE INPUT: true; the input reads as it did. -/
def fnExactFarDistanceSpec : ChangeSpec := { name := "fnExactFarDistance", vars := ["loop.example/g00925/impl.quantitySpans"], fn := fun _ => fun
  | [d1, d2, g1] => { results := [.lit (.bool true)], args := [d1, d2], vars := [g1] }
  | _ => none }
def fnExactFarDistanceRow : OpenClaim := { program := "ytnbkdekndflefaadoor", sum := "9f231c3254c9fdf3ce3bb25c8be9aa87a13ba5d53e6666c964d32c87e7e4da90", func := "loop.example/g00925/laws.FnExactFarDistance", spec := "fnExactFarDistance", named := ["loop.example/g00925/impl.quantitySpans"], apart := false, laid := [("loop.example/g00925/impl.quantitySpans", laid_loop_example_g00925_impl_quantitySpans)] }
def FnExactFarDistanceSaid : Prop := fnExactFarDistanceRow.holds Tryd.pinned (OpenSpec.ofChange fnExactFarDistanceSpec)

/-- ITS FALSE NEIGHBOUR: 'it returns false'. Refute it at one input. -/
def fnExactFarDistanceWrong : ChangeSpec := { name := "fnExactFarDistance", vars := ["loop.example/g00925/impl.quantitySpans"], fn := fun _ => fun
  | [d1, d2, g1] => { results := [.lit (.bool false)], args := [d1, d2], vars := [g1] }
  | _ => none }
def FnExactFarDistanceWrongFalsely : Prop := fnExactFarDistanceRow.holds Tryd.pinned (OpenSpec.ofChange fnExactFarDistanceWrong)

/-- 'laws.FnExactFreeTable': WHATEVER THE INPUT: true; the input reads as it did. -/
def fnExactFreeTableSpec : ChangeSpec := { name := "fnExactFreeTable", vars := ["loop.example/g00925/impl.quantitySpans"], fn := fun _ => fun
  | [d1, d2, g1] => { results := [.lit (.bool true)], args := [d1, d2], vars := [g1] }
  | _ => none }
def fnExactFreeTableRow : OpenClaim := { program := "ytnbkdekndflefaadoor", sum := "9f231c3254c9fdf3ce3bb25c8be9aa87a13ba5d53e6666c964d32c87e7e4da90", func := "loop.example/g00925/laws.FnExactFreeTable", spec := "fnExactFreeTable", named := ["loop.example/g00925/impl.quantitySpans", "math/bits.divideError", "math/bits.overflowError"], apart := false, laid := [("loop.example/g00925/impl.quantitySpans", laid_loop_example_g00925_impl_quantitySpans)] }
def FnExactFreeTableSaid : Prop := fnExactFreeTableRow.holds Tryd.pinned (OpenSpec.ofChange fnExactFreeTableSpec)

/-- ITS FALSE NEIGHBOUR: 'it returns false'. Refute it at one input. -/
def fnExactFreeTableWrong : ChangeSpec := { name := "fnExactFreeTable", vars := ["loop.example/g00925/impl.quantitySpans"], fn := fun _ => fun
  | [d1, d2, g1] => { results := [.lit (.bool false)], args := [d1, d2], vars := [g1] }
  | _ => none }
def FnExactFreeTableWrongFalsely : Prop := fnExactFreeTableRow.holds Tryd.pinned (OpenSpec.ofChange fnExactFreeTableWrong)

/-- 'laws.FnFreeSpace': WHATEVER THE INPUT: true; the input reads as it did. -/
def fnFreeSpaceSpec : ChangeSpec := { name := "fnFreeSpace", vars := ["loop.example/g00925/impl.quantitySpans"], fn := fun _ => fun
  | [d1, d2, g1] => { results := [.lit (.bool true)], args := [d1, d2], vars := [g1] }
  | _ => none }
def fnFreeSpaceRow : OpenClaim := { program := "ytnbkdekndflefaadoor", sum := "9f231c3254c9fdf3ce3bb25c8be9aa87a13ba5d53e6666c964d32c87e7e4da90", func := "loop.example/g00925/laws.FnFreeSpace", spec := "fnFreeSpace", unfollowed := true, recurses := true, named := ["loop.example/g00925/impl.quantitySpans", "math/bits.divideError", "math/bits.overflowError"], apart := false, laid := [("loop.example/g00925/impl.quantitySpans", laid_loop_example_g00925_impl_quantitySpans)] }
def FnFreeSpaceSaid : Prop := fnFreeSpaceRow.holds Tryd.pinned (OpenSpec.ofChange fnFreeSpaceSpec)

/-- ITS FALSE NEIGHBOUR: 'it returns false'. Refute it at one input. -/
def fnFreeSpaceWrong : ChangeSpec := { name := "fnFreeSpace", vars := ["loop.example/g00925/impl.quantitySpans"], fn := fun _ => fun
  | [d1, d2, g1] => { results := [.lit (.bool false)], args := [d1, d2], vars := [g1] }
  | _ => none }
def FnFreeSpaceWrongFalsely : Prop := fnFreeSpaceRow.holds Tryd.pinned (OpenSpec.ofChange fnFreeSpaceWrong)

/- THE SECOND FORM. 'bulk': how many values and letters a reading holds, each counted each time it is reached (what is shared counts as often as it is met; a slice's spare places count too). A statement '..UptoSaid' is the law's where the arguments, and the package variables that the reading takes, are together of bulk at most 1048576: NARROWER than '..Said'. Prove '..Said' where nothing that the law and all that it calls make is longer than what came in: it says more and counts as full. Else prove '..UptoSaid'. A law counts once. -/
mutual
def uptoBulk {H : Type} : DataW H → Nat
  | .lit (.string bytes) => bytes.length + 1
  | .lit _ => 1
  | .nil => 1
  | .ptr d => uptoBulk d + 1
  | .slice elems spare => uptoBulkAll elems + uptoBulkAll spare + 1
  | .agg parts => uptoBulkAll parts + 1
  | .iface _ d => uptoBulk d + 1
  | .map entries => uptoBulkEntries entries + 1
  | .held _ => 1
def uptoBulkAll {H : Type} : List (DataW H) → Nat
  | [] => 0
  | d :: r => uptoBulk d + uptoBulkAll r
def uptoBulkEntries {H : Type} : List (Lit × DataW H) → Nat
  | [] => 0
  | x :: r => uptoBulkEntry x + uptoBulkEntries r
def uptoBulkEntry {H : Type} : Lit × DataW H → Nat
  | (.string bytes, d) => bytes.length + uptoBulk d + 1
  | (_, d) => uptoBulk d + 1
 end
def uptoSmall : (H : Type) → List (DataW H) → Bool := fun _ ds => decide (uptoBulkAll ds ≤ 1048576)
def OpenSpec.upto (s : _root_.Go.ChangeSpec) : _root_.Go.OpenSpec := { _root_.Go.OpenSpec.ofChange s with cond := some uptoSmall }

/-- 'laws.FnExactFreeLoss', WHERE WHAT IT READS IS OF BULK AT MOST 1048576: true; the input reads as it did. -/
def fnExactFreeLossUptoRow : OpenClaim := { program := "ytnbkdekndflefaadoor", sum := "9f231c3254c9fdf3ce3bb25c8be9aa87a13ba5d53e6666c964d32c87e7e4da90", func := "loop.example/g00925/laws.FnExactFreeLoss", spec := "fnExactFreeLoss", named := ["loop.example/g00925/impl.quantitySpans", "math/bits.divideError", "math/bits.overflowError"], apart := false, laid := [("loop.example/g00925/impl.quantitySpans", laid_loop_example_g00925_impl_quantitySpans)], narrowed := true }
def FnExactFreeLossUptoSaid : Prop := fnExactFreeLossUptoRow.holds Tryd.pinned (OpenSpec.upto fnExactFreeLossSpec)

/-- 'laws.FnExactFieldStrength', WHERE WHAT IT READS IS OF BULK AT MOST 1048576: true; the input reads as it did. -/
def fnExactFieldStrengthUptoRow : OpenClaim := { program := "ytnbkdekndflefaadoor", sum := "9f231c3254c9fdf3ce3bb25c8be9aa87a13ba5d53e6666c964d32c87e7e4da90", func := "loop.example/g00925/laws.FnExactFieldStrength", spec := "fnExactFieldStrength", named := ["loop.example/g00925/impl.quantitySpans", "math/bits.divideError", "math/bits.overflowError"], apart := false, laid := [("loop.example/g00925/impl.quantitySpans", laid_loop_example_g00925_impl_quantitySpans)], narrowed := true }
def FnExactFieldStrengthUptoSaid : Prop := fnExactFieldStrengthUptoRow.holds Tryd.pinned (OpenSpec.upto fnExactFieldStrengthSpec)

/-- 'laws.FnExactLevelOfField', WHERE WHAT IT READS IS OF BULK AT MOST 1048576: true; the input reads as it did. -/
def fnExactLevelOfFieldUptoRow : OpenClaim := { program := "ytnbkdekndflefaadoor", sum := "9f231c3254c9fdf3ce3bb25c8be9aa87a13ba5d53e6666c964d32c87e7e4da90", func := "loop.example/g00925/laws.FnExactLevelOfField", spec := "fnExactLevelOfField", named := ["loop.example/g00925/impl.quantitySpans", "math/bits.divideError", "math/bits.overflowError"], apart := false, laid := [("loop.example/g00925/impl.quantitySpans", laid_loop_example_g00925_impl_quantitySpans)], narrowed := true }
def FnExactLevelOfFieldUptoSaid : Prop := fnExactLevelOfFieldUptoRow.holds Tryd.pinned (OpenSpec.upto fnExactLevelOfFieldSpec)

/-- 'laws.FnExactFieldOfLevel', WHERE WHAT IT READS IS OF BULK AT MOST 1048576: true; the input reads as it did. -/
def fnExactFieldOfLevelUptoRow : OpenClaim := { program := "ytnbkdekndflefaadoor", sum := "9f231c3254c9fdf3ce3bb25c8be9aa87a13ba5d53e6666c964d32c87e7e4da90", func := "loop.example/g00925/laws.FnExactFieldOfLevel", spec := "fnExactFieldOfLevel", named := ["loop.example/g00925/impl.quantitySpans", "math/bits.divideError", "math/bits.overflowError"], apart := false, laid := [("loop.example/g00925/impl.quantitySpans", laid_loop_example_g00925_impl_quantitySpans)], narrowed := true }
def FnExactFieldOfLevelUptoSaid : Prop := fnExactFieldOfLevelUptoRow.holds Tryd.pinned (OpenSpec.upto fnExactFieldOfLevelSpec)

/-- 'laws.FnExactRangeOfLoss', WHERE WHAT IT READS IS OF BULK AT MOST 1048576: true; the input reads as it did. -/
def fnExactRangeOfLossUptoRow : OpenClaim := { program := "ytnbkdekndflefaadoor", sum := "9f231c3254c9fdf3ce3bb25c8be9aa87a13ba5d53e6666c964d32c87e7e4da90", func := "loop.example/g00925/laws.FnExactRangeOfLoss", spec := "fnExactRangeOfLoss", unfollowed := true, recurses := true, named := ["loop.example/g00925/impl.quantitySpans", "math/bits.divideError", "math/bits.overflowError"], apart := false, laid := [("loop.example/g00925/impl.quantitySpans", laid_loop_example_g00925_impl_quantitySpans)], narrowed := true }
def FnExactRangeOfLossUptoSaid : Prop := fnExactRangeOfLossUptoRow.holds Tryd.pinned (OpenSpec.upto fnExactRangeOfLossSpec)

/-- 'laws.FnExactRangeOfField', WHERE WHAT IT READS IS OF BULK AT MOST 1048576: true; the input reads as it did. -/
def fnExactRangeOfFieldUptoRow : OpenClaim := { program := "ytnbkdekndflefaadoor", sum := "9f231c3254c9fdf3ce3bb25c8be9aa87a13ba5d53e6666c964d32c87e7e4da90", func := "loop.example/g00925/laws.FnExactRangeOfField", spec := "fnExactRangeOfField", unfollowed := true, recurses := true, named := ["loop.example/g00925/impl.quantitySpans", "math/bits.divideError", "math/bits.overflowError"], apart := false, laid := [("loop.example/g00925/impl.quantitySpans", laid_loop_example_g00925_impl_quantitySpans)], narrowed := true }
def FnExactRangeOfFieldUptoSaid : Prop := fnExactRangeOfFieldUptoRow.holds Tryd.pinned (OpenSpec.upto fnExactRangeOfFieldSpec)

/-- 'laws.FnExactWavelengthOf', WHERE WHAT IT READS IS OF BULK AT MOST 1048576: true; the input reads as it did. -/
def fnExactWavelengthOfUptoRow : OpenClaim := { program := "ytnbkdekndflefaadoor", sum := "9f231c3254c9fdf3ce3bb25c8be9aa87a13ba5d53e6666c964d32c87e7e4da90", func := "loop.example/g00925/laws.FnExactWavelengthOf", spec := "fnExactWavelengthOf", named := ["loop.example/g00925/impl.quantitySpans"], apart := false, laid := [("loop.example/g00925/impl.quantitySpans", laid_loop_example_g00925_impl_quantitySpans)], narrowed := true }
def FnExactWavelengthOfUptoSaid : Prop := fnExactWavelengthOfUptoRow.holds Tryd.pinned (OpenSpec.upto fnExactWavelengthOfSpec)

/-- 'laws.FnExactFarDistance', WHERE WHAT IT READS IS OF BULK AT MOST 1048576: true; the input reads as it did. -/
def fnExactFarDistanceUptoRow : OpenClaim := { program := "ytnbkdekndflefaadoor", sum := "9f231c3254c9fdf3ce3bb25c8be9aa87a13ba5d53e6666c964d32c87e7e4da90", func := "loop.example/g00925/laws.FnExactFarDistance", spec := "fnExactFarDistance", named := ["loop.example/g00925/impl.quantitySpans"], apart := false, laid := [("loop.example/g00925/impl.quantitySpans", laid_loop_example_g00925_impl_quantitySpans)], narrowed := true }
def FnExactFarDistanceUptoSaid : Prop := fnExactFarDistanceUptoRow.holds Tryd.pinned (OpenSpec.upto fnExactFarDistanceSpec)

/-- 'laws.FnExactFreeTable', WHERE WHAT IT READS IS OF BULK AT MOST 1048576: true; the input reads as it did. -/
def fnExactFreeTableUptoRow : OpenClaim := { program := "ytnbkdekndflefaadoor", sum := "9f231c3254c9fdf3ce3bb25c8be9aa87a13ba5d53e6666c964d32c87e7e4da90", func := "loop.example/g00925/laws.FnExactFreeTable", spec := "fnExactFreeTable", named := ["loop.example/g00925/impl.quantitySpans", "math/bits.divideError", "math/bits.overflowError"], apart := false, laid := [("loop.example/g00925/impl.quantitySpans", laid_loop_example_g00925_impl_quantitySpans)], narrowed := true }
def FnExactFreeTableUptoSaid : Prop := fnExactFreeTableUptoRow.holds Tryd.pinned (OpenSpec.upto fnExactFreeTableSpec)

/-- 'laws.FnFreeSpace', WHERE WHAT IT READS IS OF BULK AT MOST 1048576: true; the input reads as it did. -/
def fnFreeSpaceUptoRow : OpenClaim := { program := "ytnbkdekndflefaadoor", sum := "9f231c3254c9fdf3ce3bb25c8be9aa87a13ba5d53e6666c964d32c87e7e4da90", func := "loop.example/g00925/laws.FnFreeSpace", spec := "fnFreeSpace", unfollowed := true, recurses := true, named := ["loop.example/g00925/impl.quantitySpans", "math/bits.divideError", "math/bits.overflowError"], apart := false, laid := [("loop.example/g00925/impl.quantitySpans", laid_loop_example_g00925_impl_quantitySpans)], narrowed := true }
def FnFreeSpaceUptoSaid : Prop := fnFreeSpaceUptoRow.holds Tryd.pinned (OpenSpec.upto fnFreeSpaceSpec)

end Rows
end Go.Proofs.YtnbkdekndflefaaDoor
