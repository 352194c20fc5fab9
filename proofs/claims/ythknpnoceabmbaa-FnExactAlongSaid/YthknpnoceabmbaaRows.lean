/-
  No cell of these rows narrows 'for every input' (looked for: loops, veiled, ifaces, maps, wideKeys, modest, calm, conditions, laid).
  DERIVED. THE GIVEN ROWS OF THIS SEAT. 7 by the template 'for every input the law returns true; each argument reads behind the call as it read before'; 0 by the template 'total and deterministic' (their statements: YthknpnoceabmbaaTotals.lean).
  GIVEN WITH THE SEED: the statements are not yours to turn. If you find one false, say at which input.
  Laid BY PROGRAM, IN A SANDBOX (cutbox-rows.mjs): the forced cells as the released guide's own fill.sh prints them over the translation a194a0d1c19c5f9b… (all of the seat's roots in one cut). By AI agents, Wed Nov 11 2026. No macro, syntax, notation, axiom, sorry.
-/
import Derived.Test.YthknpnoceabmbaaChecked
import GoSem.Claim
import GoSem.ClaimJoined
import GoSem.ClaimMapViews
import Derived.JoinedTies
import Derived.KernelRfl
namespace Go.Proofs.Ythknpnoceabmbaa
/- THE CELL 'sum', in the pinned program and in every row, IS THE sha256 OF THE DUMP (.gsa) THAT YthknpnoceabmbaaProg.lean LOADS. Nothing in Lean hashes anything: it is a label: what it is worth is what the hold of that sum in a sandbox is worth. -/
noncomputable def Try.pinned : Pinned := { name := "ythknpnoceabmbaa", sum := "a194a0d1c19c5f9b25dfdfd2d82a1b93712b8ff34988659f752e91e8cb515228", checked := Try.checked }
namespace Rows
def none {H : Type} : Left H := { results := [], args := [] }

/-- 'laws.FnExactValidPoint': WHATEVER THE INPUT: true; the input reads as it did. -/
def fnExactValidPointSpec : ChangeSpec := { name := "fnExactValidPoint", fn := fun _ => fun
  | [d] => { results := [.lit (.bool true)], args := [d] }
  | _ => none }
def fnExactValidPointRow : OpenClaim := { program := "ythknpnoceabmbaa", sum := "a194a0d1c19c5f9b25dfdfd2d82a1b93712b8ff34988659f752e91e8cb515228", func := "loop.example/g00925/laws.FnExactValidPoint", spec := "fnExactValidPoint", apart := false }
def FnExactValidPointSaid : Prop := fnExactValidPointRow.holds Try.pinned (OpenSpec.ofChange fnExactValidPointSpec)

/-- ITS FALSE NEIGHBOUR: 'it returns false'. Refute it at one input. -/
def fnExactValidPointWrong : ChangeSpec := { name := "fnExactValidPoint", fn := fun _ => fun
  | [d] => { results := [.lit (.bool false)], args := [d] }
  | _ => none }
def FnExactValidPointWrongFalsely : Prop := fnExactValidPointRow.holds Try.pinned (OpenSpec.ofChange fnExactValidPointWrong)

/-- 'laws.FnExactDistance': WHATEVER THE INPUT: true; the input reads as it did. -/
def fnExactDistanceSpec : ChangeSpec := { name := "fnExactDistance", fn := fun _ => fun
  | [d1, d2] => { results := [.lit (.bool true)], args := [d1, d2] }
  | _ => none }
def fnExactDistanceRow : OpenClaim := { program := "ythknpnoceabmbaa", sum := "a194a0d1c19c5f9b25dfdfd2d82a1b93712b8ff34988659f752e91e8cb515228", func := "loop.example/g00925/laws.FnExactDistance", spec := "fnExactDistance", apart := false }
def FnExactDistanceSaid : Prop := fnExactDistanceRow.holds Try.pinned (OpenSpec.ofChange fnExactDistanceSpec)

/-- ITS FALSE NEIGHBOUR: 'it returns false'. Refute it at one input. -/
def fnExactDistanceWrong : ChangeSpec := { name := "fnExactDistance", fn := fun _ => fun
  | [d1, d2] => { results := [.lit (.bool false)], args := [d1, d2] }
  | _ => none }
def FnExactDistanceWrongFalsely : Prop := fnExactDistanceRow.holds Try.pinned (OpenSpec.ofChange fnExactDistanceWrong)

/-- 'laws.FnExactTurn': WHATEVER THE INPUT: true; the input reads as it did. -/
def fnExactTurnSpec : ChangeSpec := { name := "fnExactTurn", fn := fun _ => fun
  | [d1, d2] => { results := [.lit (.bool true)], args := [d1, d2] }
  | _ => none }
def fnExactTurnRow : OpenClaim := { program := "ythknpnoceabmbaa", sum := "a194a0d1c19c5f9b25dfdfd2d82a1b93712b8ff34988659f752e91e8cb515228", func := "loop.example/g00925/laws.FnExactTurn", spec := "fnExactTurn", apart := false }
def FnExactTurnSaid : Prop := fnExactTurnRow.holds Try.pinned (OpenSpec.ofChange fnExactTurnSpec)

/-- ITS FALSE NEIGHBOUR: 'it returns false'. Refute it at one input. -/
def fnExactTurnWrong : ChangeSpec := { name := "fnExactTurn", fn := fun _ => fun
  | [d1, d2] => { results := [.lit (.bool false)], args := [d1, d2] }
  | _ => none }
def FnExactTurnWrongFalsely : Prop := fnExactTurnRow.holds Try.pinned (OpenSpec.ofChange fnExactTurnWrong)

/-- 'laws.FnExactAlong': WHATEVER THE INPUT: true; the input reads as it did. -/
def fnExactAlongSpec : ChangeSpec := { name := "fnExactAlong", fn := fun _ => fun
  | [d1, d2, d3, d4] => { results := [.lit (.bool true)], args := [d1, d2, d3, d4] }
  | _ => none }
def fnExactAlongRow : OpenClaim := { program := "ythknpnoceabmbaa", sum := "a194a0d1c19c5f9b25dfdfd2d82a1b93712b8ff34988659f752e91e8cb515228", func := "loop.example/g00925/laws.FnExactAlong", spec := "fnExactAlong", apart := false }
def FnExactAlongSaid : Prop := fnExactAlongRow.holds Try.pinned (OpenSpec.ofChange fnExactAlongSpec)

/-- ITS FALSE NEIGHBOUR: 'it returns false'. Refute it at one input. -/
def fnExactAlongWrong : ChangeSpec := { name := "fnExactAlong", fn := fun _ => fun
  | [d1, d2, d3, d4] => { results := [.lit (.bool false)], args := [d1, d2, d3, d4] }
  | _ => none }
def FnExactAlongWrongFalsely : Prop := fnExactAlongRow.holds Try.pinned (OpenSpec.ofChange fnExactAlongWrong)

/-- 'laws.FnExactNearestOf': WHATEVER THE INPUT: true; the input reads as it did. -/
def fnExactNearestOfSpec : ChangeSpec := { name := "fnExactNearestOf", fn := fun _ => fun
  | [d1, d2] => { results := [.lit (.bool true)], args := [d1, d2] }
  | _ => none }
def fnExactNearestOfRow : OpenClaim := { program := "ythknpnoceabmbaa", sum := "a194a0d1c19c5f9b25dfdfd2d82a1b93712b8ff34988659f752e91e8cb515228", func := "loop.example/g00925/laws.FnExactNearestOf", spec := "fnExactNearestOf", apart := false }
def FnExactNearestOfSaid : Prop := fnExactNearestOfRow.holds Try.pinned (OpenSpec.ofChange fnExactNearestOfSpec)

/-- ITS FALSE NEIGHBOUR: 'it returns false'. Refute it at one input. -/
def fnExactNearestOfWrong : ChangeSpec := { name := "fnExactNearestOf", fn := fun _ => fun
  | [d1, d2] => { results := [.lit (.bool false)], args := [d1, d2] }
  | _ => none }
def FnExactNearestOfWrongFalsely : Prop := fnExactNearestOfRow.holds Try.pinned (OpenSpec.ofChange fnExactNearestOfWrong)

/-- 'laws.FnExactLogDb': WHATEVER THE INPUT: true; the input reads as it did. -/
def fnExactLogDbSpec : ChangeSpec := { name := "fnExactLogDb", fn := fun _ => fun
  | [d] => { results := [.lit (.bool true)], args := [d] }
  | _ => none }
def fnExactLogDbRow : OpenClaim := { program := "ythknpnoceabmbaa", sum := "a194a0d1c19c5f9b25dfdfd2d82a1b93712b8ff34988659f752e91e8cb515228", func := "loop.example/g00925/laws.FnExactLogDb", spec := "fnExactLogDb", named := ["math/bits.divideError", "math/bits.overflowError"], apart := false }
def FnExactLogDbSaid : Prop := fnExactLogDbRow.holds Try.pinned (OpenSpec.ofChange fnExactLogDbSpec)

/-- ITS FALSE NEIGHBOUR: 'it returns false'. Refute it at one input. -/
def fnExactLogDbWrong : ChangeSpec := { name := "fnExactLogDb", fn := fun _ => fun
  | [d] => { results := [.lit (.bool false)], args := [d] }
  | _ => none }
def FnExactLogDbWrongFalsely : Prop := fnExactLogDbRow.holds Try.pinned (OpenSpec.ofChange fnExactLogDbWrong)

/-- 'laws.FnExactRatioDb': WHATEVER THE INPUT: true; the input reads as it did. -/
def fnExactRatioDbSpec : ChangeSpec := { name := "fnExactRatioDb", fn := fun _ => fun
  | [d1, d2] => { results := [.lit (.bool true)], args := [d1, d2] }
  | _ => none }
def fnExactRatioDbRow : OpenClaim := { program := "ythknpnoceabmbaa", sum := "a194a0d1c19c5f9b25dfdfd2d82a1b93712b8ff34988659f752e91e8cb515228", func := "loop.example/g00925/laws.FnExactRatioDb", spec := "fnExactRatioDb", named := ["math/bits.divideError", "math/bits.overflowError"], apart := false }
def FnExactRatioDbSaid : Prop := fnExactRatioDbRow.holds Try.pinned (OpenSpec.ofChange fnExactRatioDbSpec)

/-- ITS FALSE NEIGHBOUR: 'it returns false'. Refute it at one input. -/
def fnExactRatioDbWrong : ChangeSpec := { name := "fnExactRatioDb", fn := fun _ => fun
  | [d1, d2] => { results := [.lit (.bool false)], args := [d1, d2] }
  | _ => none }
def FnExactRatioDbWrongFalsely : Prop := fnExactRatioDbRow.holds Try.pinned (OpenSpec.ofChange fnExactRatioDbWrong)

/- THE SECOND FORM. 'bulk': how many values and letters a reading holds, each counted each time it is reached (what is shared counts as often as it is met; a slice's spare places count too). A statement '..UptoSaid' is the law's where the arguments, and the package variables that the reading takes, are together of bulk at most 1048576: NARROWER than '..Said'. Prove '..Said' where nothing that the law and all that it calls make is longer than what came in: it says more and counts as full. Else prove '..UptoSaid'. A law counts once. -/
mutual
def uptoBulk {H : Type} : DataW H → Nat
  | .lit (.string bytes) => bytes.length + 1
  | .lit _ => 1
  | .nil => 1
  | .ptr d => uptoBulk d + 1
  | .slice elems spare => uptoBulkAll elems + uptoBulkAll spare + 1
  | .agg parts => uptoBulkAll parts + 1
  | .iface _ d => uptoBulk d + 1
  | .map entries => uptoBulkEntries entries + 1
  | .held _ => 1
def uptoBulkAll {H : Type} : List (DataW H) → Nat
  | [] => 0
  | d :: r => uptoBulk d + uptoBulkAll r
def uptoBulkEntries {H : Type} : List (Lit × DataW H) → Nat
  | [] => 0
  | x :: r => uptoBulkEntry x + uptoBulkEntries r
def uptoBulkEntry {H : Type} : Lit × DataW H → Nat
  | (.string bytes, d) => bytes.length + uptoBulk d + 1
  | (_, d) => uptoBulk d + 1
 end
def uptoSmall : (H : Type) → List (DataW H) → Bool := fun _ ds => decide (uptoBulkAll ds ≤ 1048576)
def OpenSpec.upto (s : _root_.Go.ChangeSpec) : _root_.Go.OpenSpec := { _root_.Go.OpenSpec.ofChange s with cond := some uptoSmall }

/-- 'laws.FnExactValidPoint', WHERE WHAT IT READS IS OF BULK AT MOST 1048576: true; the input reads as it did. -/
def fnExactValidPointUptoRow : OpenClaim := { program := "ythknpnoceabmbaa", sum := "a194a0d1c19c5f9b25dfdfd2d82a1b93712b8ff34988659f752e91e8cb515228", func := "loop.example/g00925/laws.FnExactValidPoint", spec := "fnExactValidPoint", apart := false, narrowed := true }
def FnExactValidPointUptoSaid : Prop := fnExactValidPointUptoRow.holds Try.pinned (OpenSpec.upto fnExactValidPointSpec)

/-- 'laws.FnExactDistance', WHERE WHAT IT READS IS OF BULK AT MOST 1048576: true; the input reads as it did. -/
def fnExactDistanceUptoRow : OpenClaim := { program := "ythknpnoceabmbaa", sum := "a194a0d1c19c5f9b25dfdfd2d82a1b93712b8ff34988659f752e91e8cb515228", func := "loop.example/g00925/laws.FnExactDistance", spec := "fnExactDistance", apart := false, narrowed := true }
def FnExactDistanceUptoSaid : Prop := fnExactDistanceUptoRow.holds Try.pinned (OpenSpec.upto fnExactDistanceSpec)

/-- 'laws.FnExactTurn', WHERE WHAT IT READS IS OF BULK AT MOST 1048576: true; the input reads as it did. -/
def fnExactTurnUptoRow : OpenClaim := { program := "ythknpnoceabmbaa", sum := "a194a0d1c19c5f9b25dfdfd2d82a1b93712b8ff34988659f752e91e8cb515228", func := "loop.example/g00925/laws.FnExactTurn", spec := "fnExactTurn", apart := false, narrowed := true }
def FnExactTurnUptoSaid : Prop := fnExactTurnUptoRow.holds Try.pinned (OpenSpec.upto fnExactTurnSpec)

/-- 'laws.FnExactAlong', WHERE WHAT IT READS IS OF BULK AT MOST 1048576: true; the input reads as it did. -/
def fnExactAlongUptoRow : OpenClaim := { program := "ythknpnoceabmbaa", sum := "a194a0d1c19c5f9b25dfdfd2d82a1b93712b8ff34988659f752e91e8cb515228", func := "loop.example/g00925/laws.FnExactAlong", spec := "fnExactAlong", apart := false, narrowed := true }
def FnExactAlongUptoSaid : Prop := fnExactAlongUptoRow.holds Try.pinned (OpenSpec.upto fnExactAlongSpec)

/-- 'laws.FnExactNearestOf', WHERE WHAT IT READS IS OF BULK AT MOST 1048576: true; the input reads as it did. -/
def fnExactNearestOfUptoRow : OpenClaim := { program := "ythknpnoceabmbaa", sum := "a194a0d1c19c5f9b25dfdfd2d82a1b93712b8ff34988659f752e91e8cb515228", func := "loop.example/g00925/laws.FnExactNearestOf", spec := "fnExactNearestOf", apart := false, narrowed := true }
def FnExactNearestOfUptoSaid : Prop := fnExactNearestOfUptoRow.holds Try.pinned (OpenSpec.upto fnExactNearestOfSpec)

/-- 'laws.FnExactLogDb', WHERE WHAT IT READS IS OF BULK AT MOST 1048576: true; the input reads as it did. -/
def fnExactLogDbUptoRow : OpenClaim := { program := "ythknpnoceabmbaa", sum := "a194a0d1c19c5f9b25dfdfd2d82a1b93712b8ff34988659f752e91e8cb515228", func := "loop.example/g00925/laws.FnExactLogDb", spec := "fnExactLogDb", named := ["math/bits.divideError", "math/bits.overflowError"], apart := false, narrowed := true }
def FnExactLogDbUptoSaid : Prop := fnExactLogDbUptoRow.holds Try.pinned (OpenSpec.upto fnExactLogDbSpec)

/-- 'laws.FnExactRatioDb', WHERE WHAT IT READS IS OF BULK AT MOST 1048576: true; the input reads as it did. -/
def fnExactRatioDbUptoRow : OpenClaim := { program := "ythknpnoceabmbaa", sum := "a194a0d1c19c5f9b25dfdfd2d82a1b93712b8ff34988659f752e91e8cb515228", func := "loop.example/g00925/laws.FnExactRatioDb", spec := "fnExactRatioDb", named := ["math/bits.divideError", "math/bits.overflowError"], apart := false, narrowed := true }
def FnExactRatioDbUptoSaid : Prop := fnExactRatioDbUptoRow.holds Try.pinned (OpenSpec.upto fnExactRatioDbSpec)

end Rows
end Go.Proofs.Ythknpnoceabmbaa
