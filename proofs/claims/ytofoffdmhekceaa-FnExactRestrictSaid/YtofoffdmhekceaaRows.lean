/-
  No cell of these rows narrows 'for every input' (looked for: loops, veiled, ifaces, maps, wideKeys, modest, calm, conditions, laid).
  DERIVED. THE GIVEN ROWS OF THIS SEAT. 7 by the template 'for every input the law returns true; each argument reads behind the call as it read before'; 0 by the template 'total and deterministic' (their statements: YtofoffdmhekceaaTotals.lean).
  GIVEN WITH THE SEED: the statements are not yours to turn. If you find one false, say at which input.
  Laid BY PROGRAM, IN A SANDBOX (cutbox-rows.mjs): the forced cells as the released guide's own fill.sh prints them over the translation 57a1fd93b4302b90… (all of the seat's roots in one cut). By AI agents, Wed Nov 11 2026. No macro, syntax, notation, axiom, sorry.
-/
import Derived.Test.YtofoffdmhekceaaChecked
import GoSem.Claim
import GoSem.ClaimJoined
import GoSem.ClaimMapViews
import Derived.JoinedTies
import Derived.KernelRfl
namespace Go.Proofs.Ytofoffdmhekceaa
/- THE CELL 'sum', in the pinned program and in every row, IS THE sha256 OF THE DUMP (.gsa) THAT YtofoffdmhekceaaProg.lean LOADS. Nothing in Lean hashes anything: it is a label: what it is worth is what the hold of that sum in a sandbox is worth. -/
noncomputable def Try.pinned : Pinned := { name := "ytofoffdmhekceaa", sum := "57a1fd93b4302b90162685fec99675586c1ccfd340a475fb1d4a1ea3aa92205c", checked := Try.checked }
namespace Rows
def none {H : Type} : Left H := { results := [], args := [] }

/-- 'laws.FnExactValidProblem': WHATEVER THE INPUT: true; the input reads as it did. -/
def fnExactValidProblemSpec : ChangeSpec := { name := "fnExactValidProblem", fn := fun _ => fun
  | [d] => { results := [.lit (.bool true)], args := [d] }
  | _ => none }
def fnExactValidProblemRow : OpenClaim := { program := "ytofoffdmhekceaa", sum := "57a1fd93b4302b90162685fec99675586c1ccfd340a475fb1d4a1ea3aa92205c", func := "loop.example/g00925/laws.FnExactValidProblem", spec := "fnExactValidProblem", unfollowed := true, recurses := true, apart := false }
def FnExactValidProblemSaid : Prop := fnExactValidProblemRow.holds Try.pinned (OpenSpec.ofChange fnExactValidProblemSpec)

/-- ITS FALSE NEIGHBOUR: 'it returns false'. Refute it at one input. -/
def fnExactValidProblemWrong : ChangeSpec := { name := "fnExactValidProblem", fn := fun _ => fun
  | [d] => { results := [.lit (.bool false)], args := [d] }
  | _ => none }
def FnExactValidProblemWrongFalsely : Prop := fnExactValidProblemRow.holds Try.pinned (OpenSpec.ofChange fnExactValidProblemWrong)

/-- 'laws.FnExactSameProblem': WHATEVER THE INPUT: true; the input reads as it did. -/
def fnExactSameProblemSpec : ChangeSpec := { name := "fnExactSameProblem", fn := fun _ => fun
  | [d1, d2] => { results := [.lit (.bool true)], args := [d1, d2] }
  | _ => none }
def fnExactSameProblemRow : OpenClaim := { program := "ytofoffdmhekceaa", sum := "57a1fd93b4302b90162685fec99675586c1ccfd340a475fb1d4a1ea3aa92205c", func := "loop.example/g00925/laws.FnExactSameProblem", spec := "fnExactSameProblem", unfollowed := true, recurses := true, apart := false }
def FnExactSameProblemSaid : Prop := fnExactSameProblemRow.holds Try.pinned (OpenSpec.ofChange fnExactSameProblemSpec)

/-- ITS FALSE NEIGHBOUR: 'it returns false'. Refute it at one input. -/
def fnExactSameProblemWrong : ChangeSpec := { name := "fnExactSameProblem", fn := fun _ => fun
  | [d1, d2] => { results := [.lit (.bool false)], args := [d1, d2] }
  | _ => none }
def FnExactSameProblemWrongFalsely : Prop := fnExactSameProblemRow.holds Try.pinned (OpenSpec.ofChange fnExactSameProblemWrong)

/-- 'laws.FnExactValidAssignment': WHATEVER THE INPUT: true; the input reads as it did. -/
def fnExactValidAssignmentSpec : ChangeSpec := { name := "fnExactValidAssignment", fn := fun _ => fun
  | [d1, d2] => { results := [.lit (.bool true)], args := [d1, d2] }
  | _ => none }
def fnExactValidAssignmentRow : OpenClaim := { program := "ytofoffdmhekceaa", sum := "57a1fd93b4302b90162685fec99675586c1ccfd340a475fb1d4a1ea3aa92205c", func := "loop.example/g00925/laws.FnExactValidAssignment", spec := "fnExactValidAssignment", unfollowed := true, recurses := true, apart := false }
def FnExactValidAssignmentSaid : Prop := fnExactValidAssignmentRow.holds Try.pinned (OpenSpec.ofChange fnExactValidAssignmentSpec)

/-- ITS FALSE NEIGHBOUR: 'it returns false'. Refute it at one input. -/
def fnExactValidAssignmentWrong : ChangeSpec := { name := "fnExactValidAssignment", fn := fun _ => fun
  | [d1, d2] => { results := [.lit (.bool false)], args := [d1, d2] }
  | _ => none }
def FnExactValidAssignmentWrongFalsely : Prop := fnExactValidAssignmentRow.holds Try.pinned (OpenSpec.ofChange fnExactValidAssignmentWrong)

/-- 'laws.FnExactViolations': WHATEVER THE INPUT: true; the input reads as it did. -/
def fnExactViolationsSpec : ChangeSpec := { name := "fnExactViolations", fn := fun _ => fun
  | [d1, d2] => { results := [.lit (.bool true)], args := [d1, d2] }
  | _ => none }
def fnExactViolationsRow : OpenClaim := { program := "ytofoffdmhekceaa", sum := "57a1fd93b4302b90162685fec99675586c1ccfd340a475fb1d4a1ea3aa92205c", func := "loop.example/g00925/laws.FnExactViolations", spec := "fnExactViolations", unfollowed := true, recurses := true, apart := false }
def FnExactViolationsSaid : Prop := fnExactViolationsRow.holds Try.pinned (OpenSpec.ofChange fnExactViolationsSpec)

/-- ITS FALSE NEIGHBOUR: 'it returns false'. Refute it at one input. -/
def fnExactViolationsWrong : ChangeSpec := { name := "fnExactViolations", fn := fun _ => fun
  | [d1, d2] => { results := [.lit (.bool false)], args := [d1, d2] }
  | _ => none }
def FnExactViolationsWrongFalsely : Prop := fnExactViolationsRow.holds Try.pinned (OpenSpec.ofChange fnExactViolationsWrong)

/-- 'laws.FnExactDegreeOf': WHATEVER THE INPUT: true; the input reads as it did. -/
def fnExactDegreeOfSpec : ChangeSpec := { name := "fnExactDegreeOf", fn := fun _ => fun
  | [d1, d2] => { results := [.lit (.bool true)], args := [d1, d2] }
  | _ => none }
def fnExactDegreeOfRow : OpenClaim := { program := "ytofoffdmhekceaa", sum := "57a1fd93b4302b90162685fec99675586c1ccfd340a475fb1d4a1ea3aa92205c", func := "loop.example/g00925/laws.FnExactDegreeOf", spec := "fnExactDegreeOf", unfollowed := true, recurses := true, apart := false }
def FnExactDegreeOfSaid : Prop := fnExactDegreeOfRow.holds Try.pinned (OpenSpec.ofChange fnExactDegreeOfSpec)

/-- ITS FALSE NEIGHBOUR: 'it returns false'. Refute it at one input. -/
def fnExactDegreeOfWrong : ChangeSpec := { name := "fnExactDegreeOf", fn := fun _ => fun
  | [d1, d2] => { results := [.lit (.bool false)], args := [d1, d2] }
  | _ => none }
def FnExactDegreeOfWrongFalsely : Prop := fnExactDegreeOfRow.holds Try.pinned (OpenSpec.ofChange fnExactDegreeOfWrong)

/-- 'laws.FnExactRestrict': WHATEVER THE INPUT: true; the input reads as it did. -/
def fnExactRestrictSpec : ChangeSpec := { name := "fnExactRestrict", fn := fun _ => fun
  | [d1, d2, d3] => { results := [.lit (.bool true)], args := [d1, d2, d3] }
  | _ => none }
def fnExactRestrictRow : OpenClaim := { program := "ytofoffdmhekceaa", sum := "57a1fd93b4302b90162685fec99675586c1ccfd340a475fb1d4a1ea3aa92205c", func := "loop.example/g00925/laws.FnExactRestrict", spec := "fnExactRestrict", unfollowed := true, recurses := true, apart := false }
def FnExactRestrictSaid : Prop := fnExactRestrictRow.holds Try.pinned (OpenSpec.ofChange fnExactRestrictSpec)

/-- ITS FALSE NEIGHBOUR: 'it returns false'. Refute it at one input. -/
def fnExactRestrictWrong : ChangeSpec := { name := "fnExactRestrict", fn := fun _ => fun
  | [d1, d2, d3] => { results := [.lit (.bool false)], args := [d1, d2, d3] }
  | _ => none }
def FnExactRestrictWrongFalsely : Prop := fnExactRestrictRow.holds Try.pinned (OpenSpec.ofChange fnExactRestrictWrong)

/-- 'laws.FnExactSpanOf': WHATEVER THE INPUT: true; the input reads as it did. -/
def fnExactSpanOfSpec : ChangeSpec := { name := "fnExactSpanOf", fn := fun _ => fun
  | [d] => { results := [.lit (.bool true)], args := [d] }
  | _ => none }
def fnExactSpanOfRow : OpenClaim := { program := "ytofoffdmhekceaa", sum := "57a1fd93b4302b90162685fec99675586c1ccfd340a475fb1d4a1ea3aa92205c", func := "loop.example/g00925/laws.FnExactSpanOf", spec := "fnExactSpanOf", unfollowed := true, recurses := true, apart := false }
def FnExactSpanOfSaid : Prop := fnExactSpanOfRow.holds Try.pinned (OpenSpec.ofChange fnExactSpanOfSpec)

/-- ITS FALSE NEIGHBOUR: 'it returns false'. Refute it at one input. -/
def fnExactSpanOfWrong : ChangeSpec := { name := "fnExactSpanOf", fn := fun _ => fun
  | [d] => { results := [.lit (.bool false)], args := [d] }
  | _ => none }
def FnExactSpanOfWrongFalsely : Prop := fnExactSpanOfRow.holds Try.pinned (OpenSpec.ofChange fnExactSpanOfWrong)

/- THE SECOND FORM. 'bulk': how many values and letters a reading holds, each counted each time it is reached (what is shared counts as often as it is met; a slice's spare places count too). A statement '..UptoSaid' is the law's where the arguments, and the package variables that the reading takes, are together of bulk at most 1048576: NARROWER than '..Said'. Prove '..Said' where nothing that the law and all that it calls make is longer than what came in: it says more and counts as full. Else prove '..UptoSaid'. A law counts once. -/
mutual
def uptoBulk {H : Type} : DataW H → Nat
  | .lit (.string bytes) => bytes.length + 1
  | .lit _ => 1
  | .nil => 1
  | .ptr d => uptoBulk d + 1
  | .slice elems spare => uptoBulkAll elems + uptoBulkAll spare + 1
  | .agg parts => uptoBulkAll parts + 1
  | .iface _ d => uptoBulk d + 1
  | .map entries => uptoBulkEntries entries + 1
  | .held _ => 1
def uptoBulkAll {H : Type} : List (DataW H) → Nat
  | [] => 0
  | d :: r => uptoBulk d + uptoBulkAll r
def uptoBulkEntries {H : Type} : List (Lit × DataW H) → Nat
  | [] => 0
  | x :: r => uptoBulkEntry x + uptoBulkEntries r
def uptoBulkEntry {H : Type} : Lit × DataW H → Nat
  | (.string bytes, d) => bytes.length + uptoBulk d + 1
  | (_, d) => uptoBulk d + 1
 end
def uptoSmall : (H : Type) → List (DataW H) → Bool := fun _ ds => decide (uptoBulkAll ds ≤ 1048576)
def OpenSpec.upto (s : _root_.Go.ChangeSpec) : _root_.Go.OpenSpec := { _root_.Go.OpenSpec.ofChange s with cond := some uptoSmall }

/-- 'laws.FnExactValidProblem', WHERE WHAT IT READS IS OF BULK AT MOST 1048576: true; the input reads as it did. -/
def fnExactValidProblemUptoRow : OpenClaim := { program := "ytofoffdmhekceaa", sum := "57a1fd93b4302b90162685fec99675586c1ccfd340a475fb1d4a1ea3aa92205c", func := "loop.example/g00925/laws.FnExactValidProblem", spec := "fnExactValidProblem", unfollowed := true, recurses := true, apart := false, narrowed := true }
def FnExactValidProblemUptoSaid : Prop := fnExactValidProblemUptoRow.holds Try.pinned (OpenSpec.upto fnExactValidProblemSpec)

/-- 'laws.FnExactSameProblem', WHERE WHAT IT READS IS OF BULK AT MOST 1048576: true; the input reads as it did. -/
def fnExactSameProblemUptoRow : OpenClaim := { program := "ytofoffdmhekceaa", sum := "57a1fd93b4302b90162685fec99675586c1ccfd340a475fb1d4a1ea3aa92205c", func := "loop.example/g00925/laws.FnExactSameProblem", spec := "fnExactSameProblem", unfollowed := true, recurses := true, apart := false, narrowed := true }
def FnExactSameProblemUptoSaid : Prop := fnExactSameProblemUptoRow.holds Try.pinned (OpenSpec.upto fnExactSameProblemSpec)

/-- 'laws.FnExactValidAssignment', WHERE WHAT IT READS IS OF BULK AT MOST 1048576: true; the input reads as it did. -/
def fnExactValidAssignmentUptoRow : OpenClaim := { program := "ytofoffdmhekceaa", sum := "57a1fd93b4302b90162685fec99675586c1ccfd340a475fb1d4a1ea3aa92205c", func := "loop.example/g00925/laws.FnExactValidAssignment", spec := "fnExactValidAssignment", unfollowed := true, recurses := true, apart := false, narrowed := true }
def FnExactValidAssignmentUptoSaid : Prop := fnExactValidAssignmentUptoRow.holds Try.pinned (OpenSpec.upto fnExactValidAssignmentSpec)

/-- 'laws.FnExactViolations', WHERE WHAT IT READS IS OF BULK AT MOST 1048576: true; the input reads as it did. -/
def fnExactViolationsUptoRow : OpenClaim := { program := "ytofoffdmhekceaa", sum := "57a1fd93b4302b90162685fec99675586c1ccfd340a475fb1d4a1ea3aa92205c", func := "loop.example/g00925/laws.FnExactViolations", spec := "fnExactViolations", unfollowed := true, recurses := true, apart := false, narrowed := true }
def FnExactViolationsUptoSaid : Prop := fnExactViolationsUptoRow.holds Try.pinned (OpenSpec.upto fnExactViolationsSpec)

/-- 'laws.FnExactDegreeOf', WHERE WHAT IT READS IS OF BULK AT MOST 1048576: true; the input reads as it did. -/
def fnExactDegreeOfUptoRow : OpenClaim := { program := "ytofoffdmhekceaa", sum := "57a1fd93b4302b90162685fec99675586c1ccfd340a475fb1d4a1ea3aa92205c", func := "loop.example/g00925/laws.FnExactDegreeOf", spec := "fnExactDegreeOf", unfollowed := true, recurses := true, apart := false, narrowed := true }
def FnExactDegreeOfUptoSaid : Prop := fnExactDegreeOfUptoRow.holds Try.pinned (OpenSpec.upto fnExactDegreeOfSpec)

/-- 'laws.FnExactRestrict', WHERE WHAT IT READS IS OF BULK AT MOST 1048576: true; the input reads as it did. -/
def fnExactRestrictUptoRow : OpenClaim := { program := "ytofoffdmhekceaa", sum := "57a1fd93b4302b90162685fec99675586c1ccfd340a475fb1d4a1ea3aa92205c", func := "loop.example/g00925/laws.FnExactRestrict", spec := "fnExactRestrict", unfollowed := true, recurses := true, apart := false, narrowed := true }
def FnExactRestrictUptoSaid : Prop := fnExactRestrictUptoRow.holds Try.pinned (OpenSpec.upto fnExactRestrictSpec)

/-- 'laws.FnExactSpanOf', WHERE WHAT IT READS IS OF BULK AT MOST 1048576: true; the input reads as it did. -/
def fnExactSpanOfUptoRow : OpenClaim := { program := "ytofoffdmhekceaa", sum := "57a1fd93b4302b90162685fec99675586c1ccfd340a475fb1d4a1ea3aa92205c", func := "loop.example/g00925/laws.FnExactSpanOf", spec := "fnExactSpanOf", unfollowed := true, recurses := true, apart := false, narrowed := true }
def FnExactSpanOfUptoSaid : Prop := fnExactSpanOfUptoRow.holds Try.pinned (OpenSpec.upto fnExactSpanOfSpec)

end Rows
end Go.Proofs.Ytofoffdmhekceaa
