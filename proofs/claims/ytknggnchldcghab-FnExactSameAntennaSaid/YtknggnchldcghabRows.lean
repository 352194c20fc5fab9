/-
  No cell of these rows narrows 'for every input' (looked for: loops, veiled, ifaces, maps, wideKeys, modest, calm, conditions, laid).
  DERIVED. THE GIVEN ROWS OF THIS SEAT. 11 by the template 'for every input the law returns true; each argument reads behind the call as it read before'; 0 by the template 'total and deterministic' (their statements: YtknggnchldcghabTotals.lean).
  GIVEN WITH THE SEED: the statements are not yours to turn. If you find one false, say at which input.
  Laid BY PROGRAM, IN A SANDBOX (cutbox-rows.mjs): the forced cells as the released guide's own fill.sh prints them over the translation abd3be03139fff3d… (all of the seat's roots in one cut). By AI agents, Wed Nov 11 2026. No macro, syntax, notation, axiom, sorry.
-/
import Derived.Test.YtknggnchldcghabChecked
import GoSem.Claim
import GoSem.ClaimJoined
import GoSem.ClaimMapViews
import Derived.JoinedTies
import Derived.KernelRfl
namespace Go.Proofs.Ytknggnchldcghab
/- THE CELL 'sum', in the pinned program and in every row, IS THE sha256 OF THE DUMP (.gsa) THAT YtknggnchldcghabProg.lean LOADS. Nothing in Lean hashes anything: it is a label: what it is worth is what the hold of that sum in a sandbox is worth. -/
noncomputable def Try.pinned : Pinned := { name := "ytknggnchldcghab", sum := "abd3be03139fff3dd0e341109b5cfc3c386f74aa13ece596de8e7adc4fd93bbf", checked := Try.checked }
namespace Rows
def none {H : Type} : Left H := { results := [], args := [] }

/-- 'laws.FnExactValidAntenna': WHATEVER THE INPUT: true; the input reads as it did. -/
def fnExactValidAntennaSpec : ChangeSpec := { name := "fnExactValidAntenna", fn := fun _ => fun
  | [d] => { results := [.lit (.bool true)], args := [d] }
  | _ => none }
def fnExactValidAntennaRow : OpenClaim := { program := "ytknggnchldcghab", sum := "abd3be03139fff3dd0e341109b5cfc3c386f74aa13ece596de8e7adc4fd93bbf", func := "loop.example/g00925/laws.FnExactValidAntenna", spec := "fnExactValidAntenna", apart := false }
def FnExactValidAntennaSaid : Prop := fnExactValidAntennaRow.holds Try.pinned (OpenSpec.ofChange fnExactValidAntennaSpec)

/-- ITS FALSE NEIGHBOUR: 'it returns false'. Refute it at one input. -/
def fnExactValidAntennaWrong : ChangeSpec := { name := "fnExactValidAntenna", fn := fun _ => fun
  | [d] => { results := [.lit (.bool false)], args := [d] }
  | _ => none }
def FnExactValidAntennaWrongFalsely : Prop := fnExactValidAntennaRow.holds Try.pinned (OpenSpec.ofChange fnExactValidAntennaWrong)

/-- 'laws.FnExactSameAntenna': WHATEVER THE INPUT: true; the input reads as it did. -/
def fnExactSameAntennaSpec : ChangeSpec := { name := "fnExactSameAntenna", fn := fun _ => fun
  | [d1, d2] => { results := [.lit (.bool true)], args := [d1, d2] }
  | _ => none }
def fnExactSameAntennaRow : OpenClaim := { program := "ytknggnchldcghab", sum := "abd3be03139fff3dd0e341109b5cfc3c386f74aa13ece596de8e7adc4fd93bbf", func := "loop.example/g00925/laws.FnExactSameAntenna", spec := "fnExactSameAntenna", apart := false }
def FnExactSameAntennaSaid : Prop := fnExactSameAntennaRow.holds Try.pinned (OpenSpec.ofChange fnExactSameAntennaSpec)

/-- ITS FALSE NEIGHBOUR: 'it returns false'. Refute it at one input. -/
def fnExactSameAntennaWrong : ChangeSpec := { name := "fnExactSameAntenna", fn := fun _ => fun
  | [d1, d2] => { results := [.lit (.bool false)], args := [d1, d2] }
  | _ => none }
def FnExactSameAntennaWrongFalsely : Prop := fnExactSameAntennaRow.holds Try.pinned (OpenSpec.ofChange fnExactSameAntennaWrong)

/-- 'laws.FnExactOmniAntenna': WHATEVER THE INPUT: true; the input reads as it did. -/
def fnExactOmniAntennaSpec : ChangeSpec := { name := "fnExactOmniAntenna", fn := fun _ => fun
  | [d1, d2] => { results := [.lit (.bool true)], args := [d1, d2] }
  | _ => none }
def fnExactOmniAntennaRow : OpenClaim := { program := "ytknggnchldcghab", sum := "abd3be03139fff3dd0e341109b5cfc3c386f74aa13ece596de8e7adc4fd93bbf", func := "loop.example/g00925/laws.FnExactOmniAntenna", spec := "fnExactOmniAntenna", unfollowed := true, recurses := true, apart := false }
def FnExactOmniAntennaSaid : Prop := fnExactOmniAntennaRow.holds Try.pinned (OpenSpec.ofChange fnExactOmniAntennaSpec)

/-- ITS FALSE NEIGHBOUR: 'it returns false'. Refute it at one input. -/
def fnExactOmniAntennaWrong : ChangeSpec := { name := "fnExactOmniAntenna", fn := fun _ => fun
  | [d1, d2] => { results := [.lit (.bool false)], args := [d1, d2] }
  | _ => none }
def FnExactOmniAntennaWrongFalsely : Prop := fnExactOmniAntennaRow.holds Try.pinned (OpenSpec.ofChange fnExactOmniAntennaWrong)

/-- 'laws.FnExactBeamAntenna': WHATEVER THE INPUT: true; the input reads as it did. -/
def fnExactBeamAntennaSpec : ChangeSpec := { name := "fnExactBeamAntenna", fn := fun _ => fun
  | [d1, d2, d3, d4] => { results := [.lit (.bool true)], args := [d1, d2, d3, d4] }
  | _ => none }
def fnExactBeamAntennaRow : OpenClaim := { program := "ytknggnchldcghab", sum := "abd3be03139fff3dd0e341109b5cfc3c386f74aa13ece596de8e7adc4fd93bbf", func := "loop.example/g00925/laws.FnExactBeamAntenna", spec := "fnExactBeamAntenna", unfollowed := true, recurses := true, apart := false }
def FnExactBeamAntennaSaid : Prop := fnExactBeamAntennaRow.holds Try.pinned (OpenSpec.ofChange fnExactBeamAntennaSpec)

/-- ITS FALSE NEIGHBOUR: 'it returns false'. Refute it at one input. -/
def fnExactBeamAntennaWrong : ChangeSpec := { name := "fnExactBeamAntenna", fn := fun _ => fun
  | [d1, d2, d3, d4] => { results := [.lit (.bool false)], args := [d1, d2, d3, d4] }
  | _ => none }
def FnExactBeamAntennaWrongFalsely : Prop := fnExactBeamAntennaRow.holds Try.pinned (OpenSpec.ofChange fnExactBeamAntennaWrong)

/-- 'laws.FnExactHorizontalLoss': WHATEVER THE INPUT: true; the input reads as it did. -/
def fnExactHorizontalLossSpec : ChangeSpec := { name := "fnExactHorizontalLoss", fn := fun _ => fun
  | [d1, d2] => { results := [.lit (.bool true)], args := [d1, d2] }
  | _ => none }
def fnExactHorizontalLossRow : OpenClaim := { program := "ytknggnchldcghab", sum := "abd3be03139fff3dd0e341109b5cfc3c386f74aa13ece596de8e7adc4fd93bbf", func := "loop.example/g00925/laws.FnExactHorizontalLoss", spec := "fnExactHorizontalLoss", apart := false }
def FnExactHorizontalLossSaid : Prop := fnExactHorizontalLossRow.holds Try.pinned (OpenSpec.ofChange fnExactHorizontalLossSpec)

/-- ITS FALSE NEIGHBOUR: 'it returns false'. Refute it at one input. -/
def fnExactHorizontalLossWrong : ChangeSpec := { name := "fnExactHorizontalLoss", fn := fun _ => fun
  | [d1, d2] => { results := [.lit (.bool false)], args := [d1, d2] }
  | _ => none }
def FnExactHorizontalLossWrongFalsely : Prop := fnExactHorizontalLossRow.holds Try.pinned (OpenSpec.ofChange fnExactHorizontalLossWrong)

/-- 'laws.FnExactVerticalLoss': WHATEVER THE INPUT: true; the input reads as it did. -/
def fnExactVerticalLossSpec : ChangeSpec := { name := "fnExactVerticalLoss", fn := fun _ => fun
  | [d1, d2] => { results := [.lit (.bool true)], args := [d1, d2] }
  | _ => none }
def fnExactVerticalLossRow : OpenClaim := { program := "ytknggnchldcghab", sum := "abd3be03139fff3dd0e341109b5cfc3c386f74aa13ece596de8e7adc4fd93bbf", func := "loop.example/g00925/laws.FnExactVerticalLoss", spec := "fnExactVerticalLoss", apart := false }
def FnExactVerticalLossSaid : Prop := fnExactVerticalLossRow.holds Try.pinned (OpenSpec.ofChange fnExactVerticalLossSpec)

/-- ITS FALSE NEIGHBOUR: 'it returns false'. Refute it at one input. -/
def fnExactVerticalLossWrong : ChangeSpec := { name := "fnExactVerticalLoss", fn := fun _ => fun
  | [d1, d2] => { results := [.lit (.bool false)], args := [d1, d2] }
  | _ => none }
def FnExactVerticalLossWrongFalsely : Prop := fnExactVerticalLossRow.holds Try.pinned (OpenSpec.ofChange fnExactVerticalLossWrong)

/-- 'laws.FnExactGainToward': WHATEVER THE INPUT: true; the input reads as it did. -/
def fnExactGainTowardSpec : ChangeSpec := { name := "fnExactGainToward", fn := fun _ => fun
  | [d1, d2, d3, d4, d5] => { results := [.lit (.bool true)], args := [d1, d2, d3, d4, d5] }
  | _ => none }
def fnExactGainTowardRow : OpenClaim := { program := "ytknggnchldcghab", sum := "abd3be03139fff3dd0e341109b5cfc3c386f74aa13ece596de8e7adc4fd93bbf", func := "loop.example/g00925/laws.FnExactGainToward", spec := "fnExactGainToward", apart := false }
def FnExactGainTowardSaid : Prop := fnExactGainTowardRow.holds Try.pinned (OpenSpec.ofChange fnExactGainTowardSpec)

/-- ITS FALSE NEIGHBOUR: 'it returns false'. Refute it at one input. -/
def fnExactGainTowardWrong : ChangeSpec := { name := "fnExactGainToward", fn := fun _ => fun
  | [d1, d2, d3, d4, d5] => { results := [.lit (.bool false)], args := [d1, d2, d3, d4, d5] }
  | _ => none }
def FnExactGainTowardWrongFalsely : Prop := fnExactGainTowardRow.holds Try.pinned (OpenSpec.ofChange fnExactGainTowardWrong)

/-- 'laws.FnExactMirrorAntenna': WHATEVER THE INPUT: true; the input reads as it did. -/
def fnExactMirrorAntennaSpec : ChangeSpec := { name := "fnExactMirrorAntenna", fn := fun _ => fun
  | [d] => { results := [.lit (.bool true)], args := [d] }
  | _ => none }
def fnExactMirrorAntennaRow : OpenClaim := { program := "ytknggnchldcghab", sum := "abd3be03139fff3dd0e341109b5cfc3c386f74aa13ece596de8e7adc4fd93bbf", func := "loop.example/g00925/laws.FnExactMirrorAntenna", spec := "fnExactMirrorAntenna", apart := false }
def FnExactMirrorAntennaSaid : Prop := fnExactMirrorAntennaRow.holds Try.pinned (OpenSpec.ofChange fnExactMirrorAntennaSpec)

/-- ITS FALSE NEIGHBOUR: 'it returns false'. Refute it at one input. -/
def fnExactMirrorAntennaWrong : ChangeSpec := { name := "fnExactMirrorAntenna", fn := fun _ => fun
  | [d] => { results := [.lit (.bool false)], args := [d] }
  | _ => none }
def FnExactMirrorAntennaWrongFalsely : Prop := fnExactMirrorAntennaRow.holds Try.pinned (OpenSpec.ofChange fnExactMirrorAntennaWrong)

/-- 'laws.FnExactEnvelopeOf': WHATEVER THE INPUT: true; the input reads as it did. -/
def fnExactEnvelopeOfSpec : ChangeSpec := { name := "fnExactEnvelopeOf", fn := fun _ => fun
  | [d1, d2, d3] => { results := [.lit (.bool true)], args := [d1, d2, d3] }
  | _ => none }
def fnExactEnvelopeOfRow : OpenClaim := { program := "ytknggnchldcghab", sum := "abd3be03139fff3dd0e341109b5cfc3c386f74aa13ece596de8e7adc4fd93bbf", func := "loop.example/g00925/laws.FnExactEnvelopeOf", spec := "fnExactEnvelopeOf", unfollowed := true, recurses := true, apart := false }
def FnExactEnvelopeOfSaid : Prop := fnExactEnvelopeOfRow.holds Try.pinned (OpenSpec.ofChange fnExactEnvelopeOfSpec)

/-- ITS FALSE NEIGHBOUR: 'it returns false'. Refute it at one input. -/
def fnExactEnvelopeOfWrong : ChangeSpec := { name := "fnExactEnvelopeOf", fn := fun _ => fun
  | [d1, d2, d3] => { results := [.lit (.bool false)], args := [d1, d2, d3] }
  | _ => none }
def FnExactEnvelopeOfWrongFalsely : Prop := fnExactEnvelopeOfRow.holds Try.pinned (OpenSpec.ofChange fnExactEnvelopeOfWrong)

/-- 'laws.FnExactBeamWidth': WHATEVER THE INPUT: true; the input reads as it did. -/
def fnExactBeamWidthSpec : ChangeSpec := { name := "fnExactBeamWidth", fn := fun _ => fun
  | [d] => { results := [.lit (.bool true)], args := [d] }
  | _ => none }
def fnExactBeamWidthRow : OpenClaim := { program := "ytknggnchldcghab", sum := "abd3be03139fff3dd0e341109b5cfc3c386f74aa13ece596de8e7adc4fd93bbf", func := "loop.example/g00925/laws.FnExactBeamWidth", spec := "fnExactBeamWidth", apart := false }
def FnExactBeamWidthSaid : Prop := fnExactBeamWidthRow.holds Try.pinned (OpenSpec.ofChange fnExactBeamWidthSpec)

/-- ITS FALSE NEIGHBOUR: 'it returns false'. Refute it at one input. -/
def fnExactBeamWidthWrong : ChangeSpec := { name := "fnExactBeamWidth", fn := fun _ => fun
  | [d] => { results := [.lit (.bool false)], args := [d] }
  | _ => none }
def FnExactBeamWidthWrongFalsely : Prop := fnExactBeamWidthRow.holds Try.pinned (OpenSpec.ofChange fnExactBeamWidthWrong)

/-- 'laws.FnExactFrontToBack': WHATEVER THE INPUT: true; the input reads as it did. -/
def fnExactFrontToBackSpec : ChangeSpec := { name := "fnExactFrontToBack", fn := fun _ => fun
  | [d] => { results := [.lit (.bool true)], args := [d] }
  | _ => none }
def fnExactFrontToBackRow : OpenClaim := { program := "ytknggnchldcghab", sum := "abd3be03139fff3dd0e341109b5cfc3c386f74aa13ece596de8e7adc4fd93bbf", func := "loop.example/g00925/laws.FnExactFrontToBack", spec := "fnExactFrontToBack", apart := false }
def FnExactFrontToBackSaid : Prop := fnExactFrontToBackRow.holds Try.pinned (OpenSpec.ofChange fnExactFrontToBackSpec)

/-- ITS FALSE NEIGHBOUR: 'it returns false'. Refute it at one input. -/
def fnExactFrontToBackWrong : ChangeSpec := { name := "fnExactFrontToBack", fn := fun _ => fun
  | [d] => { results := [.lit (.bool false)], args := [d] }
  | _ => none }
def FnExactFrontToBackWrongFalsely : Prop := fnExactFrontToBackRow.holds Try.pinned (OpenSpec.ofChange fnExactFrontToBackWrong)

/- THE SECOND FORM. 'bulk': how many values and letters a reading holds, each counted each time it is reached (what is shared counts as often as it is met; a slice's spare places count too). A statement '..UptoSaid' is the law's where the arguments, and the package variables that the reading takes, are together of bulk at most 1048576: NARROWER than '..Said'. Prove '..Said' where nothing that the law and all that it calls make is longer than what came in: it says more and counts as full. Else prove '..UptoSaid'. A law counts once. -/
mutual
def uptoBulk {H : Type} : DataW H → Nat
  | .lit (.string bytes) => bytes.length + 1
  | .lit _ => 1
  | .nil => 1
  | .ptr d => uptoBulk d + 1
  | .slice elems spare => uptoBulkAll elems + uptoBulkAll spare + 1
  | .agg parts => uptoBulkAll parts + 1
  | .iface _ d => uptoBulk d + 1
  | .map entries => uptoBulkEntries entries + 1
  | .held _ => 1
def uptoBulkAll {H : Type} : List (DataW H) → Nat
  | [] => 0
  | d :: r => uptoBulk d + uptoBulkAll r
def uptoBulkEntries {H : Type} : List (Lit × DataW H) → Nat
  | [] => 0
  | x :: r => uptoBulkEntry x + uptoBulkEntries r
def uptoBulkEntry {H : Type} : Lit × DataW H → Nat
  | (.string bytes, d) => bytes.length + uptoBulk d + 1
  | (_, d) => uptoBulk d + 1
 end
def uptoSmall : (H : Type) → List (DataW H) → Bool := fun _ ds => decide (uptoBulkAll ds ≤ 1048576)
def OpenSpec.upto (s : _root_.Go.ChangeSpec) : _root_.Go.OpenSpec := { _root_.Go.OpenSpec.ofChange s with cond := some uptoSmall }

/-- 'laws.FnExactValidAntenna', WHERE WHAT IT READS IS OF BULK AT MOST 1048576: true; the input reads as it did. -/
def fnExactValidAntennaUptoRow : OpenClaim := { program := "ytknggnchldcghab", sum := "abd3be03139fff3dd0e341109b5cfc3c386f74aa13ece596de8e7adc4fd93bbf", func := "loop.example/g00925/laws.FnExactValidAntenna", spec := "fnExactValidAntenna", apart := false, narrowed := true }
def FnExactValidAntennaUptoSaid : Prop := fnExactValidAntennaUptoRow.holds Try.pinned (OpenSpec.upto fnExactValidAntennaSpec)

/-- 'laws.FnExactSameAntenna', WHERE WHAT IT READS IS OF BULK AT MOST 1048576: true; the input reads as it did. -/
def fnExactSameAntennaUptoRow : OpenClaim := { program := "ytknggnchldcghab", sum := "abd3be03139fff3dd0e341109b5cfc3c386f74aa13ece596de8e7adc4fd93bbf", func := "loop.example/g00925/laws.FnExactSameAntenna", spec := "fnExactSameAntenna", apart := false, narrowed := true }
def FnExactSameAntennaUptoSaid : Prop := fnExactSameAntennaUptoRow.holds Try.pinned (OpenSpec.upto fnExactSameAntennaSpec)

/-- 'laws.FnExactOmniAntenna', WHERE WHAT IT READS IS OF BULK AT MOST 1048576: true; the input reads as it did. -/
def fnExactOmniAntennaUptoRow : OpenClaim := { program := "ytknggnchldcghab", sum := "abd3be03139fff3dd0e341109b5cfc3c386f74aa13ece596de8e7adc4fd93bbf", func := "loop.example/g00925/laws.FnExactOmniAntenna", spec := "fnExactOmniAntenna", unfollowed := true, recurses := true, apart := false, narrowed := true }
def FnExactOmniAntennaUptoSaid : Prop := fnExactOmniAntennaUptoRow.holds Try.pinned (OpenSpec.upto fnExactOmniAntennaSpec)

/-- 'laws.FnExactBeamAntenna', WHERE WHAT IT READS IS OF BULK AT MOST 1048576: true; the input reads as it did. -/
def fnExactBeamAntennaUptoRow : OpenClaim := { program := "ytknggnchldcghab", sum := "abd3be03139fff3dd0e341109b5cfc3c386f74aa13ece596de8e7adc4fd93bbf", func := "loop.example/g00925/laws.FnExactBeamAntenna", spec := "fnExactBeamAntenna", unfollowed := true, recurses := true, apart := false, narrowed := true }
def FnExactBeamAntennaUptoSaid : Prop := fnExactBeamAntennaUptoRow.holds Try.pinned (OpenSpec.upto fnExactBeamAntennaSpec)

/-- 'laws.FnExactHorizontalLoss', WHERE WHAT IT READS IS OF BULK AT MOST 1048576: true; the input reads as it did. -/
def fnExactHorizontalLossUptoRow : OpenClaim := { program := "ytknggnchldcghab", sum := "abd3be03139fff3dd0e341109b5cfc3c386f74aa13ece596de8e7adc4fd93bbf", func := "loop.example/g00925/laws.FnExactHorizontalLoss", spec := "fnExactHorizontalLoss", apart := false, narrowed := true }
def FnExactHorizontalLossUptoSaid : Prop := fnExactHorizontalLossUptoRow.holds Try.pinned (OpenSpec.upto fnExactHorizontalLossSpec)

/-- 'laws.FnExactVerticalLoss', WHERE WHAT IT READS IS OF BULK AT MOST 1048576: true; the input reads as it did. -/
def fnExactVerticalLossUptoRow : OpenClaim := { program := "ytknggnchldcghab", sum := "abd3be03139fff3dd0e341109b5cfc3c386f74aa13ece596de8e7adc4fd93bbf", func := "loop.example/g00925/laws.FnExactVerticalLoss", spec := "fnExactVerticalLoss", apart := false, narrowed := true }
def FnExactVerticalLossUptoSaid : Prop := fnExactVerticalLossUptoRow.holds Try.pinned (OpenSpec.upto fnExactVerticalLossSpec)

/-- 'laws.FnExactGainToward', WHERE WHAT IT READS IS OF BULK AT MOST 1048576: true; the input reads as it did. -/
def fnExactGainTowardUptoRow : OpenClaim := { program := "ytknggnchldcghab", sum := "abd3be03139fff3dd0e341109b5cfc3c386f74aa13ece596de8e7adc4fd93bbf", func := "loop.example/g00925/laws.FnExactGainToward", spec := "fnExactGainToward", apart := false, narrowed := true }
def FnExactGainTowardUptoSaid : Prop := fnExactGainTowardUptoRow.holds Try.pinned (OpenSpec.upto fnExactGainTowardSpec)

/-- 'laws.FnExactMirrorAntenna', WHERE WHAT IT READS IS OF BULK AT MOST 1048576: true; the input reads as it did. -/
def fnExactMirrorAntennaUptoRow : OpenClaim := { program := "ytknggnchldcghab", sum := "abd3be03139fff3dd0e341109b5cfc3c386f74aa13ece596de8e7adc4fd93bbf", func := "loop.example/g00925/laws.FnExactMirrorAntenna", spec := "fnExactMirrorAntenna", apart := false, narrowed := true }
def FnExactMirrorAntennaUptoSaid : Prop := fnExactMirrorAntennaUptoRow.holds Try.pinned (OpenSpec.upto fnExactMirrorAntennaSpec)

/-- 'laws.FnExactEnvelopeOf', WHERE WHAT IT READS IS OF BULK AT MOST 1048576: true; the input reads as it did. -/
def fnExactEnvelopeOfUptoRow : OpenClaim := { program := "ytknggnchldcghab", sum := "abd3be03139fff3dd0e341109b5cfc3c386f74aa13ece596de8e7adc4fd93bbf", func := "loop.example/g00925/laws.FnExactEnvelopeOf", spec := "fnExactEnvelopeOf", unfollowed := true, recurses := true, apart := false, narrowed := true }
def FnExactEnvelopeOfUptoSaid : Prop := fnExactEnvelopeOfUptoRow.holds Try.pinned (OpenSpec.upto fnExactEnvelopeOfSpec)

/-- 'laws.FnExactBeamWidth', WHERE WHAT IT READS IS OF BULK AT MOST 1048576: true; the input reads as it did. -/
def fnExactBeamWidthUptoRow : OpenClaim := { program := "ytknggnchldcghab", sum := "abd3be03139fff3dd0e341109b5cfc3c386f74aa13ece596de8e7adc4fd93bbf", func := "loop.example/g00925/laws.FnExactBeamWidth", spec := "fnExactBeamWidth", apart := false, narrowed := true }
def FnExactBeamWidthUptoSaid : Prop := fnExactBeamWidthUptoRow.holds Try.pinned (OpenSpec.upto fnExactBeamWidthSpec)

/-- 'laws.FnExactFrontToBack', WHERE WHAT IT READS IS OF BULK AT MOST 1048576: true; the input reads as it did. -/
def fnExactFrontToBackUptoRow : OpenClaim := { program := "ytknggnchldcghab", sum := "abd3be03139fff3dd0e341109b5cfc3c386f74aa13ece596de8e7adc4fd93bbf", func := "loop.example/g00925/laws.FnExactFrontToBack", spec := "fnExactFrontToBack", apart := false, narrowed := true }
def FnExactFrontToBackUptoSaid : Prop := fnExactFrontToBackUptoRow.holds Try.pinned (OpenSpec.upto fnExactFrontToBackSpec)

end Rows
end Go.Proofs.Ytknggnchldcghab
