/-
  No cell of these rows narrows 'for every input' (looked for: loops, veiled, ifaces, maps, wideKeys, modest, calm, conditions, laid).
  DERIVED. THE GIVEN ROWS OF THIS SEAT. 12 by the template 'for every input the law returns true; each argument reads behind the call as it read before'; 0 by the template 'total and deterministic' (their statements: YtcdmijldkmmgmaaTotals.lean).
  GIVEN WITH THE SEED: the statements are not yours to turn. If you find one false, say at which input.
  Laid BY PROGRAM, IN A SANDBOX (cutbox-rows.mjs): the forced cells as the released guide's own fill.sh prints them over the translation 270ffd3bf1fc51aa… (all of the seat's roots in one cut). By AI agents, Wed Nov 11 2026. No macro, syntax, notation, axiom, sorry.
-/
import Derived.Test.YtcdmijldkmmgmaaChecked
import GoSem.Claim
import GoSem.ClaimJoined
import GoSem.ClaimMapViews
import Derived.JoinedTies
import Derived.KernelRfl
namespace Go.Proofs.Ytcdmijldkmmgmaa
/- THE CELL 'sum', in the pinned program and in every row, IS THE sha256 OF THE DUMP (.gsa) THAT YtcdmijldkmmgmaaProg.lean LOADS. Nothing in Lean hashes anything: it is a label: what it is worth is what the hold of that sum in a sandbox is worth. -/
noncomputable def Try.pinned : Pinned := { name := "ytcdmijldkmmgmaa", sum := "270ffd3bf1fc51aabe6e16665f9f20dcf3968004eabedb0424a7050fb768dd40", checked := Try.checked }
namespace Rows
def none {H : Type} : Left H := { results := [], args := [] }

/-- 'laws.FnExactBulgeAt': WHATEVER THE INPUT: true; the input reads as it did. -/
def fnExactBulgeAtSpec : ChangeSpec := { name := "fnExactBulgeAt", fn := fun _ => fun
  | [d1, d2] => { results := [.lit (.bool true)], args := [d1, d2] }
  | _ => none }
def fnExactBulgeAtRow : OpenClaim := { program := "ytcdmijldkmmgmaa", sum := "270ffd3bf1fc51aabe6e16665f9f20dcf3968004eabedb0424a7050fb768dd40", func := "loop.example/g00925/laws.FnExactBulgeAt", spec := "fnExactBulgeAt", apart := false }
def FnExactBulgeAtSaid : Prop := fnExactBulgeAtRow.holds Try.pinned (OpenSpec.ofChange fnExactBulgeAtSpec)

/-- ITS FALSE NEIGHBOUR: 'it returns false'. Refute it at one input. -/
def fnExactBulgeAtWrong : ChangeSpec := { name := "fnExactBulgeAt", fn := fun _ => fun
  | [d1, d2] => { results := [.lit (.bool false)], args := [d1, d2] }
  | _ => none }
def FnExactBulgeAtWrongFalsely : Prop := fnExactBulgeAtRow.holds Try.pinned (OpenSpec.ofChange fnExactBulgeAtWrong)

/-- 'laws.FnExactFresnelRadius': WHATEVER THE INPUT: true; the input reads as it did. -/
def fnExactFresnelRadiusSpec : ChangeSpec := { name := "fnExactFresnelRadius", fn := fun _ => fun
  | [d1, d2, d3] => { results := [.lit (.bool true)], args := [d1, d2, d3] }
  | _ => none }
def fnExactFresnelRadiusRow : OpenClaim := { program := "ytcdmijldkmmgmaa", sum := "270ffd3bf1fc51aabe6e16665f9f20dcf3968004eabedb0424a7050fb768dd40", func := "loop.example/g00925/laws.FnExactFresnelRadius", spec := "fnExactFresnelRadius", apart := false }
def FnExactFresnelRadiusSaid : Prop := fnExactFresnelRadiusRow.holds Try.pinned (OpenSpec.ofChange fnExactFresnelRadiusSpec)

/-- ITS FALSE NEIGHBOUR: 'it returns false'. Refute it at one input. -/
def fnExactFresnelRadiusWrong : ChangeSpec := { name := "fnExactFresnelRadius", fn := fun _ => fun
  | [d1, d2, d3] => { results := [.lit (.bool false)], args := [d1, d2, d3] }
  | _ => none }
def FnExactFresnelRadiusWrongFalsely : Prop := fnExactFresnelRadiusRow.holds Try.pinned (OpenSpec.ofChange fnExactFresnelRadiusWrong)

/-- 'laws.FnExactHorizonOf': WHATEVER THE INPUT: true; the input reads as it did. -/
def fnExactHorizonOfSpec : ChangeSpec := { name := "fnExactHorizonOf", fn := fun _ => fun
  | [d] => { results := [.lit (.bool true)], args := [d] }
  | _ => none }
def fnExactHorizonOfRow : OpenClaim := { program := "ytcdmijldkmmgmaa", sum := "270ffd3bf1fc51aabe6e16665f9f20dcf3968004eabedb0424a7050fb768dd40", func := "loop.example/g00925/laws.FnExactHorizonOf", spec := "fnExactHorizonOf", apart := false }
def FnExactHorizonOfSaid : Prop := fnExactHorizonOfRow.holds Try.pinned (OpenSpec.ofChange fnExactHorizonOfSpec)

/-- ITS FALSE NEIGHBOUR: 'it returns false'. Refute it at one input. -/
def fnExactHorizonOfWrong : ChangeSpec := { name := "fnExactHorizonOf", fn := fun _ => fun
  | [d] => { results := [.lit (.bool false)], args := [d] }
  | _ => none }
def FnExactHorizonOfWrongFalsely : Prop := fnExactHorizonOfRow.holds Try.pinned (OpenSpec.ofChange fnExactHorizonOfWrong)

/-- 'laws.FnExactPowDb': WHATEVER THE INPUT: true; the input reads as it did. -/
def fnExactPowDbSpec : ChangeSpec := { name := "fnExactPowDb", fn := fun _ => fun
  | [d] => { results := [.lit (.bool true)], args := [d] }
  | _ => none }
def fnExactPowDbRow : OpenClaim := { program := "ytcdmijldkmmgmaa", sum := "270ffd3bf1fc51aabe6e16665f9f20dcf3968004eabedb0424a7050fb768dd40", func := "loop.example/g00925/laws.FnExactPowDb", spec := "fnExactPowDb", named := ["math/bits.divideError", "math/bits.overflowError"], apart := false }
def FnExactPowDbSaid : Prop := fnExactPowDbRow.holds Try.pinned (OpenSpec.ofChange fnExactPowDbSpec)

/-- ITS FALSE NEIGHBOUR: 'it returns false'. Refute it at one input. -/
def fnExactPowDbWrong : ChangeSpec := { name := "fnExactPowDb", fn := fun _ => fun
  | [d] => { results := [.lit (.bool false)], args := [d] }
  | _ => none }
def FnExactPowDbWrongFalsely : Prop := fnExactPowDbRow.holds Try.pinned (OpenSpec.ofChange fnExactPowDbWrong)

/-- 'laws.FnExactDiffDb': WHATEVER THE INPUT: true; the input reads as it did. -/
def fnExactDiffDbSpec : ChangeSpec := { name := "fnExactDiffDb", fn := fun _ => fun
  | [d1, d2] => { results := [.lit (.bool true)], args := [d1, d2] }
  | _ => none }
def fnExactDiffDbRow : OpenClaim := { program := "ytcdmijldkmmgmaa", sum := "270ffd3bf1fc51aabe6e16665f9f20dcf3968004eabedb0424a7050fb768dd40", func := "loop.example/g00925/laws.FnExactDiffDb", spec := "fnExactDiffDb", named := ["math/bits.divideError", "math/bits.overflowError"], apart := false }
def FnExactDiffDbSaid : Prop := fnExactDiffDbRow.holds Try.pinned (OpenSpec.ofChange fnExactDiffDbSpec)

/-- ITS FALSE NEIGHBOUR: 'it returns false'. Refute it at one input. -/
def fnExactDiffDbWrong : ChangeSpec := { name := "fnExactDiffDb", fn := fun _ => fun
  | [d1, d2] => { results := [.lit (.bool false)], args := [d1, d2] }
  | _ => none }
def FnExactDiffDbWrongFalsely : Prop := fnExactDiffDbRow.holds Try.pinned (OpenSpec.ofChange fnExactDiffDbWrong)

/-- 'laws.FnExactSumDb': WHATEVER THE INPUT: true; the input reads as it did. -/
def fnExactSumDbSpec : ChangeSpec := { name := "fnExactSumDb", fn := fun _ => fun
  | [d] => { results := [.lit (.bool true)], args := [d] }
  | _ => none }
def fnExactSumDbRow : OpenClaim := { program := "ytcdmijldkmmgmaa", sum := "270ffd3bf1fc51aabe6e16665f9f20dcf3968004eabedb0424a7050fb768dd40", func := "loop.example/g00925/laws.FnExactSumDb", spec := "fnExactSumDb", named := ["math/bits.divideError", "math/bits.overflowError"], apart := false }
def FnExactSumDbSaid : Prop := fnExactSumDbRow.holds Try.pinned (OpenSpec.ofChange fnExactSumDbSpec)

/-- ITS FALSE NEIGHBOUR: 'it returns false'. Refute it at one input. -/
def fnExactSumDbWrong : ChangeSpec := { name := "fnExactSumDb", fn := fun _ => fun
  | [d] => { results := [.lit (.bool false)], args := [d] }
  | _ => none }
def FnExactSumDbWrongFalsely : Prop := fnExactSumDbRow.holds Try.pinned (OpenSpec.ofChange fnExactSumDbWrong)

/-- 'laws.FnExactMeanDb': WHATEVER THE INPUT: true; the input reads as it did. -/
def fnExactMeanDbSpec : ChangeSpec := { name := "fnExactMeanDb", fn := fun _ => fun
  | [d] => { results := [.lit (.bool true)], args := [d] }
  | _ => none }
def fnExactMeanDbRow : OpenClaim := { program := "ytcdmijldkmmgmaa", sum := "270ffd3bf1fc51aabe6e16665f9f20dcf3968004eabedb0424a7050fb768dd40", func := "loop.example/g00925/laws.FnExactMeanDb", spec := "fnExactMeanDb", named := ["math/bits.divideError", "math/bits.overflowError"], apart := false }
def FnExactMeanDbSaid : Prop := fnExactMeanDbRow.holds Try.pinned (OpenSpec.ofChange fnExactMeanDbSpec)

/-- ITS FALSE NEIGHBOUR: 'it returns false'. Refute it at one input. -/
def fnExactMeanDbWrong : ChangeSpec := { name := "fnExactMeanDb", fn := fun _ => fun
  | [d] => { results := [.lit (.bool false)], args := [d] }
  | _ => none }
def FnExactMeanDbWrongFalsely : Prop := fnExactMeanDbRow.holds Try.pinned (OpenSpec.ofChange fnExactMeanDbWrong)

/-- 'laws.FnExactValidProfile': WHATEVER THE INPUT: true; the input reads as it did. -/
def fnExactValidProfileSpec : ChangeSpec := { name := "fnExactValidProfile", fn := fun _ => fun
  | [d] => { results := [.lit (.bool true)], args := [d] }
  | _ => none }
def fnExactValidProfileRow : OpenClaim := { program := "ytcdmijldkmmgmaa", sum := "270ffd3bf1fc51aabe6e16665f9f20dcf3968004eabedb0424a7050fb768dd40", func := "loop.example/g00925/laws.FnExactValidProfile", spec := "fnExactValidProfile", apart := false }
def FnExactValidProfileSaid : Prop := fnExactValidProfileRow.holds Try.pinned (OpenSpec.ofChange fnExactValidProfileSpec)

/-- ITS FALSE NEIGHBOUR: 'it returns false'. Refute it at one input. -/
def fnExactValidProfileWrong : ChangeSpec := { name := "fnExactValidProfile", fn := fun _ => fun
  | [d] => { results := [.lit (.bool false)], args := [d] }
  | _ => none }
def FnExactValidProfileWrongFalsely : Prop := fnExactValidProfileRow.holds Try.pinned (OpenSpec.ofChange fnExactValidProfileWrong)

/-- 'laws.FnExactSameProfile': WHATEVER THE INPUT: true; the input reads as it did. -/
def fnExactSameProfileSpec : ChangeSpec := { name := "fnExactSameProfile", fn := fun _ => fun
  | [d1, d2] => { results := [.lit (.bool true)], args := [d1, d2] }
  | _ => none }
def fnExactSameProfileRow : OpenClaim := { program := "ytcdmijldkmmgmaa", sum := "270ffd3bf1fc51aabe6e16665f9f20dcf3968004eabedb0424a7050fb768dd40", func := "loop.example/g00925/laws.FnExactSameProfile", spec := "fnExactSameProfile", apart := false }
def FnExactSameProfileSaid : Prop := fnExactSameProfileRow.holds Try.pinned (OpenSpec.ofChange fnExactSameProfileSpec)

/-- ITS FALSE NEIGHBOUR: 'it returns false'. Refute it at one input. -/
def fnExactSameProfileWrong : ChangeSpec := { name := "fnExactSameProfile", fn := fun _ => fun
  | [d1, d2] => { results := [.lit (.bool false)], args := [d1, d2] }
  | _ => none }
def FnExactSameProfileWrongFalsely : Prop := fnExactSameProfileRow.holds Try.pinned (OpenSpec.ofChange fnExactSameProfileWrong)

/-- 'laws.FnExactOffsetAt': WHATEVER THE INPUT: true; the input reads as it did. -/
def fnExactOffsetAtSpec : ChangeSpec := { name := "fnExactOffsetAt", fn := fun _ => fun
  | [d1, d2] => { results := [.lit (.bool true)], args := [d1, d2] }
  | _ => none }
def fnExactOffsetAtRow : OpenClaim := { program := "ytcdmijldkmmgmaa", sum := "270ffd3bf1fc51aabe6e16665f9f20dcf3968004eabedb0424a7050fb768dd40", func := "loop.example/g00925/laws.FnExactOffsetAt", spec := "fnExactOffsetAt", unfollowed := true, recurses := true, apart := false }
def FnExactOffsetAtSaid : Prop := fnExactOffsetAtRow.holds Try.pinned (OpenSpec.ofChange fnExactOffsetAtSpec)

/-- ITS FALSE NEIGHBOUR: 'it returns false'. Refute it at one input. -/
def fnExactOffsetAtWrong : ChangeSpec := { name := "fnExactOffsetAt", fn := fun _ => fun
  | [d1, d2] => { results := [.lit (.bool false)], args := [d1, d2] }
  | _ => none }
def FnExactOffsetAtWrongFalsely : Prop := fnExactOffsetAtRow.holds Try.pinned (OpenSpec.ofChange fnExactOffsetAtWrong)

/-- 'laws.FnExactLineAt': WHATEVER THE INPUT: true; the input reads as it did. -/
def fnExactLineAtSpec : ChangeSpec := { name := "fnExactLineAt", fn := fun _ => fun
  | [d1, d2] => { results := [.lit (.bool true)], args := [d1, d2] }
  | _ => none }
def fnExactLineAtRow : OpenClaim := { program := "ytcdmijldkmmgmaa", sum := "270ffd3bf1fc51aabe6e16665f9f20dcf3968004eabedb0424a7050fb768dd40", func := "loop.example/g00925/laws.FnExactLineAt", spec := "fnExactLineAt", unfollowed := true, recurses := true, apart := false }
def FnExactLineAtSaid : Prop := fnExactLineAtRow.holds Try.pinned (OpenSpec.ofChange fnExactLineAtSpec)

/-- ITS FALSE NEIGHBOUR: 'it returns false'. Refute it at one input. -/
def fnExactLineAtWrong : ChangeSpec := { name := "fnExactLineAt", fn := fun _ => fun
  | [d1, d2] => { results := [.lit (.bool false)], args := [d1, d2] }
  | _ => none }
def FnExactLineAtWrongFalsely : Prop := fnExactLineAtRow.holds Try.pinned (OpenSpec.ofChange fnExactLineAtWrong)

/-- 'laws.FnExactClearanceAt': WHATEVER THE INPUT: true; the input reads as it did. -/
def fnExactClearanceAtSpec : ChangeSpec := { name := "fnExactClearanceAt", fn := fun _ => fun
  | [d1, d2] => { results := [.lit (.bool true)], args := [d1, d2] }
  | _ => none }
def fnExactClearanceAtRow : OpenClaim := { program := "ytcdmijldkmmgmaa", sum := "270ffd3bf1fc51aabe6e16665f9f20dcf3968004eabedb0424a7050fb768dd40", func := "loop.example/g00925/laws.FnExactClearanceAt", spec := "fnExactClearanceAt", unfollowed := true, recurses := true, apart := false }
def FnExactClearanceAtSaid : Prop := fnExactClearanceAtRow.holds Try.pinned (OpenSpec.ofChange fnExactClearanceAtSpec)

/-- ITS FALSE NEIGHBOUR: 'it returns false'. Refute it at one input. -/
def fnExactClearanceAtWrong : ChangeSpec := { name := "fnExactClearanceAt", fn := fun _ => fun
  | [d1, d2] => { results := [.lit (.bool false)], args := [d1, d2] }
  | _ => none }
def FnExactClearanceAtWrongFalsely : Prop := fnExactClearanceAtRow.holds Try.pinned (OpenSpec.ofChange fnExactClearanceAtWrong)

/- THE SECOND FORM. 'bulk': how many values and letters a reading holds, each counted each time it is reached (what is shared counts as often as it is met; a slice's spare places count too). A statement '..UptoSaid' is the law's where the arguments, and the package variables that the reading takes, are together of bulk at most 1048576: NARROWER than '..Said'. Prove '..Said' where nothing that the law and all that it calls make is longer than what came in: it says more and counts as full. Else prove '..UptoSaid'. A law counts once. -/
mutual
def uptoBulk {H : Type} : DataW H → Nat
  | .lit (.string bytes) => bytes.length + 1
  | .lit _ => 1
  | .nil => 1
  | .ptr d => uptoBulk d + 1
  | .slice elems spare => uptoBulkAll elems + uptoBulkAll spare + 1
  | .agg parts => uptoBulkAll parts + 1
  | .iface _ d => uptoBulk d + 1
  | .map entries => uptoBulkEntries entries + 1
  | .held _ => 1
def uptoBulkAll {H : Type} : List (DataW H) → Nat
  | [] => 0
  | d :: r => uptoBulk d + uptoBulkAll r
def uptoBulkEntries {H : Type} : List (Lit × DataW H) → Nat
  | [] => 0
  | x :: r => uptoBulkEntry x + uptoBulkEntries r
def uptoBulkEntry {H : Type} : Lit × DataW H → Nat
  | (.string bytes, d) => bytes.length + uptoBulk d + 1
  | (_, d) => uptoBulk d + 1
 end
def uptoSmall : (H : Type) → List (DataW H) → Bool := fun _ ds => decide (uptoBulkAll ds ≤ 1048576)
def OpenSpec.upto (s : _root_.Go.ChangeSpec) : _root_.Go.OpenSpec := { _root_.Go.OpenSpec.ofChange s with cond := some uptoSmall }

/-- 'laws.FnExactBulgeAt', WHERE WHAT IT READS IS OF BULK AT MOST 1048576: true; the input reads as it did. -/
def fnExactBulgeAtUptoRow : OpenClaim := { program := "ytcdmijldkmmgmaa", sum := "270ffd3bf1fc51aabe6e16665f9f20dcf3968004eabedb0424a7050fb768dd40", func := "loop.example/g00925/laws.FnExactBulgeAt", spec := "fnExactBulgeAt", apart := false, narrowed := true }
def FnExactBulgeAtUptoSaid : Prop := fnExactBulgeAtUptoRow.holds Try.pinned (OpenSpec.upto fnExactBulgeAtSpec)

/-- 'laws.FnExactFresnelRadius', WHERE WHAT IT READS IS OF BULK AT MOST 1048576: true; the input reads as it did. -/
def fnExactFresnelRadiusUptoRow : OpenClaim := { program := "ytcdmijldkmmgmaa", sum := "270ffd3bf1fc51aabe6e16665f9f20dcf3968004eabedb0424a7050fb768dd40", func := "loop.example/g00925/laws.FnExactFresnelRadius", spec := "fnExactFresnelRadius", apart := false, narrowed := true }
def FnExactFresnelRadiusUptoSaid : Prop := fnExactFresnelRadiusUptoRow.holds Try.pinned (OpenSpec.upto fnExactFresnelRadiusSpec)

/-- 'laws.FnExactHorizonOf', WHERE WHAT IT READS IS OF BULK AT MOST 1048576: true; the input reads as it did. -/
def fnExactHorizonOfUptoRow : OpenClaim := { program := "ytcdmijldkmmgmaa", sum := "270ffd3bf1fc51aabe6e16665f9f20dcf3968004eabedb0424a7050fb768dd40", func := "loop.example/g00925/laws.FnExactHorizonOf", spec := "fnExactHorizonOf", apart := false, narrowed := true }
def FnExactHorizonOfUptoSaid : Prop := fnExactHorizonOfUptoRow.holds Try.pinned (OpenSpec.upto fnExactHorizonOfSpec)

/-- 'laws.FnExactPowDb', WHERE WHAT IT READS IS OF BULK AT MOST 1048576: true; the input reads as it did. -/
def fnExactPowDbUptoRow : OpenClaim := { program := "ytcdmijldkmmgmaa", sum := "270ffd3bf1fc51aabe6e16665f9f20dcf3968004eabedb0424a7050fb768dd40", func := "loop.example/g00925/laws.FnExactPowDb", spec := "fnExactPowDb", named := ["math/bits.divideError", "math/bits.overflowError"], apart := false, narrowed := true }
def FnExactPowDbUptoSaid : Prop := fnExactPowDbUptoRow.holds Try.pinned (OpenSpec.upto fnExactPowDbSpec)

/-- 'laws.FnExactDiffDb', WHERE WHAT IT READS IS OF BULK AT MOST 1048576: true; the input reads as it did. -/
def fnExactDiffDbUptoRow : OpenClaim := { program := "ytcdmijldkmmgmaa", sum := "270ffd3bf1fc51aabe6e16665f9f20dcf3968004eabedb0424a7050fb768dd40", func := "loop.example/g00925/laws.FnExactDiffDb", spec := "fnExactDiffDb", named := ["math/bits.divideError", "math/bits.overflowError"], apart := false, narrowed := true }
def FnExactDiffDbUptoSaid : Prop := fnExactDiffDbUptoRow.holds Try.pinned (OpenSpec.upto fnExactDiffDbSpec)

/-- 'laws.FnExactSumDb', WHERE WHAT IT READS IS OF BULK AT MOST 1048576: true; the input reads as it did. -/
def fnExactSumDbUptoRow : OpenClaim := { program := "ytcdmijldkmmgmaa", sum := "270ffd3bf1fc51aabe6e16665f9f20dcf3968004eabedb0424a7050fb768dd40", func := "loop.example/g00925/laws.FnExactSumDb", spec := "fnExactSumDb", named := ["math/bits.divideError", "math/bits.overflowError"], apart := false, narrowed := true }
def FnExactSumDbUptoSaid : Prop := fnExactSumDbUptoRow.holds Try.pinned (OpenSpec.upto fnExactSumDbSpec)

/-- 'laws.FnExactMeanDb', WHERE WHAT IT READS IS OF BULK AT MOST 1048576: true; the input reads as it did. -/
def fnExactMeanDbUptoRow : OpenClaim := { program := "ytcdmijldkmmgmaa", sum := "270ffd3bf1fc51aabe6e16665f9f20dcf3968004eabedb0424a7050fb768dd40", func := "loop.example/g00925/laws.FnExactMeanDb", spec := "fnExactMeanDb", named := ["math/bits.divideError", "math/bits.overflowError"], apart := false, narrowed := true }
def FnExactMeanDbUptoSaid : Prop := fnExactMeanDbUptoRow.holds Try.pinned (OpenSpec.upto fnExactMeanDbSpec)

/-- 'laws.FnExactValidProfile', WHERE WHAT IT READS IS OF BULK AT MOST 1048576: true; the input reads as it did. -/
def fnExactValidProfileUptoRow : OpenClaim := { program := "ytcdmijldkmmgmaa", sum := "270ffd3bf1fc51aabe6e16665f9f20dcf3968004eabedb0424a7050fb768dd40", func := "loop.example/g00925/laws.FnExactValidProfile", spec := "fnExactValidProfile", apart := false, narrowed := true }
def FnExactValidProfileUptoSaid : Prop := fnExactValidProfileUptoRow.holds Try.pinned (OpenSpec.upto fnExactValidProfileSpec)

/-- 'laws.FnExactSameProfile', WHERE WHAT IT READS IS OF BULK AT MOST 1048576: true; the input reads as it did. -/
def fnExactSameProfileUptoRow : OpenClaim := { program := "ytcdmijldkmmgmaa", sum := "270ffd3bf1fc51aabe6e16665f9f20dcf3968004eabedb0424a7050fb768dd40", func := "loop.example/g00925/laws.FnExactSameProfile", spec := "fnExactSameProfile", apart := false, narrowed := true }
def FnExactSameProfileUptoSaid : Prop := fnExactSameProfileUptoRow.holds Try.pinned (OpenSpec.upto fnExactSameProfileSpec)

/-- 'laws.FnExactOffsetAt', WHERE WHAT IT READS IS OF BULK AT MOST 1048576: true; the input reads as it did. -/
def fnExactOffsetAtUptoRow : OpenClaim := { program := "ytcdmijldkmmgmaa", sum := "270ffd3bf1fc51aabe6e16665f9f20dcf3968004eabedb0424a7050fb768dd40", func := "loop.example/g00925/laws.FnExactOffsetAt", spec := "fnExactOffsetAt", unfollowed := true, recurses := true, apart := false, narrowed := true }
def FnExactOffsetAtUptoSaid : Prop := fnExactOffsetAtUptoRow.holds Try.pinned (OpenSpec.upto fnExactOffsetAtSpec)

/-- 'laws.FnExactLineAt', WHERE WHAT IT READS IS OF BULK AT MOST 1048576: true; the input reads as it did. -/
def fnExactLineAtUptoRow : OpenClaim := { program := "ytcdmijldkmmgmaa", sum := "270ffd3bf1fc51aabe6e16665f9f20dcf3968004eabedb0424a7050fb768dd40", func := "loop.example/g00925/laws.FnExactLineAt", spec := "fnExactLineAt", unfollowed := true, recurses := true, apart := false, narrowed := true }
def FnExactLineAtUptoSaid : Prop := fnExactLineAtUptoRow.holds Try.pinned (OpenSpec.upto fnExactLineAtSpec)

/-- 'laws.FnExactClearanceAt', WHERE WHAT IT READS IS OF BULK AT MOST 1048576: true; the input reads as it did. -/
def fnExactClearanceAtUptoRow : OpenClaim := { program := "ytcdmijldkmmgmaa", sum := "270ffd3bf1fc51aabe6e16665f9f20dcf3968004eabedb0424a7050fb768dd40", func := "loop.example/g00925/laws.FnExactClearanceAt", spec := "fnExactClearanceAt", unfollowed := true, recurses := true, apart := false, narrowed := true }
def FnExactClearanceAtUptoSaid : Prop := fnExactClearanceAtUptoRow.holds Try.pinned (OpenSpec.upto fnExactClearanceAtSpec)

end Rows
end Go.Proofs.Ytcdmijldkmmgmaa
