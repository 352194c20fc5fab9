/-
  No cell of these rows narrows 'for every input' (looked for: loops, veiled, ifaces, maps, wideKeys, modest, calm, conditions, laid).
  DERIVED. THE GIVEN ROWS OF THIS SEAT. 10 by the template 'for every input the law returns true; each argument reads behind the call as it read before'; 0 by the template 'total and deterministic' (their statements: YtmmhekakihimfaaTotals.lean).
  GIVEN WITH THE SEED: the statements are not yours to turn. If you find one false, say at which input.
  Laid BY PROGRAM, IN A SANDBOX (cutbox-rows.mjs): the forced cells as the released guide's own fill.sh prints them over the translation 7f718d2f7e22865e… (all of the seat's roots in one cut). By AI agents, Wed Nov 11 2026. No macro, syntax, notation, axiom, sorry.
-/
import Derived.Test.YtmmhekakihimfaaChecked
import GoSem.Claim
import GoSem.ClaimJoined
import GoSem.ClaimMapViews
import Derived.JoinedTies
import Derived.KernelRfl
namespace Go.Proofs.Ytmmhekakihimfaa
/- THE CELL 'sum', in the pinned program and in every row, IS THE sha256 OF THE DUMP (.gsa) THAT YtmmhekakihimfaaProg.lean LOADS. Nothing in Lean hashes anything: it is a label: what it is worth is what the hold of that sum in a sandbox is worth. -/
noncomputable def Try.pinned : Pinned := { name := "ytmmhekakihimfaa", sum := "7f718d2f7e22865e8a7d16c28c67de0c6ad99beca9731b3a08b5923c8c6d2822", checked := Try.checked }
namespace Rows
def none {H : Type} : Left H := { results := [], args := [] }

/-- 'laws.FnExactEdgeLoss': WHATEVER THE INPUT: true; the input reads as it did. -/
def fnExactEdgeLossSpec : ChangeSpec := { name := "fnExactEdgeLoss", fn := fun _ => fun
  | [d] => { results := [.lit (.bool true)], args := [d] }
  | _ => none }
def fnExactEdgeLossRow : OpenClaim := { program := "ytmmhekakihimfaa", sum := "7f718d2f7e22865e8a7d16c28c67de0c6ad99beca9731b3a08b5923c8c6d2822", func := "loop.example/g00925/laws.FnExactEdgeLoss", spec := "fnExactEdgeLoss", named := ["math/bits.divideError", "math/bits.overflowError"], apart := false }
def FnExactEdgeLossSaid : Prop := fnExactEdgeLossRow.holds Try.pinned (OpenSpec.ofChange fnExactEdgeLossSpec)

/-- ITS FALSE NEIGHBOUR: 'it returns false'. Refute it at one input. -/
def fnExactEdgeLossWrong : ChangeSpec := { name := "fnExactEdgeLoss", fn := fun _ => fun
  | [d] => { results := [.lit (.bool false)], args := [d] }
  | _ => none }
def FnExactEdgeLossWrongFalsely : Prop := fnExactEdgeLossRow.holds Try.pinned (OpenSpec.ofChange fnExactEdgeLossWrong)

/-- 'laws.FnExactNuAt': WHATEVER THE INPUT: true; the input reads as it did. -/
def fnExactNuAtSpec : ChangeSpec := { name := "fnExactNuAt", fn := fun _ => fun
  | [d1, d2, d3] => { results := [.lit (.bool true)], args := [d1, d2, d3] }
  | _ => none }
def fnExactNuAtRow : OpenClaim := { program := "ytmmhekakihimfaa", sum := "7f718d2f7e22865e8a7d16c28c67de0c6ad99beca9731b3a08b5923c8c6d2822", func := "loop.example/g00925/laws.FnExactNuAt", spec := "fnExactNuAt", apart := false }
def FnExactNuAtSaid : Prop := fnExactNuAtRow.holds Try.pinned (OpenSpec.ofChange fnExactNuAtSpec)

/-- ITS FALSE NEIGHBOUR: 'it returns false'. Refute it at one input. -/
def fnExactNuAtWrong : ChangeSpec := { name := "fnExactNuAt", fn := fun _ => fun
  | [d1, d2, d3] => { results := [.lit (.bool false)], args := [d1, d2, d3] }
  | _ => none }
def FnExactNuAtWrongFalsely : Prop := fnExactNuAtRow.holds Try.pinned (OpenSpec.ofChange fnExactNuAtWrong)

/-- 'laws.FnExactEdgesOf': WHATEVER THE INPUT: true; the input reads as it did. -/
def fnExactEdgesOfSpec : ChangeSpec := { name := "fnExactEdgesOf", fn := fun _ => fun
  | [d1, d2] => { results := [.lit (.bool true)], args := [d1, d2] }
  | _ => none }
def fnExactEdgesOfRow : OpenClaim := { program := "ytmmhekakihimfaa", sum := "7f718d2f7e22865e8a7d16c28c67de0c6ad99beca9731b3a08b5923c8c6d2822", func := "loop.example/g00925/laws.FnExactEdgesOf", spec := "fnExactEdgesOf", unfollowed := true, recurses := true, named := ["math/bits.divideError", "math/bits.overflowError"], apart := false }
def FnExactEdgesOfSaid : Prop := fnExactEdgesOfRow.holds Try.pinned (OpenSpec.ofChange fnExactEdgesOfSpec)

/-- ITS FALSE NEIGHBOUR: 'it returns false'. Refute it at one input. -/
def fnExactEdgesOfWrong : ChangeSpec := { name := "fnExactEdgesOf", fn := fun _ => fun
  | [d1, d2] => { results := [.lit (.bool false)], args := [d1, d2] }
  | _ => none }
def FnExactEdgesOfWrongFalsely : Prop := fnExactEdgesOfRow.holds Try.pinned (OpenSpec.ofChange fnExactEdgesOfWrong)

/-- 'laws.FnExactSingleEdge': WHATEVER THE INPUT: true; the input reads as it did. -/
def fnExactSingleEdgeSpec : ChangeSpec := { name := "fnExactSingleEdge", fn := fun _ => fun
  | [d1, d2] => { results := [.lit (.bool true)], args := [d1, d2] }
  | _ => none }
def fnExactSingleEdgeRow : OpenClaim := { program := "ytmmhekakihimfaa", sum := "7f718d2f7e22865e8a7d16c28c67de0c6ad99beca9731b3a08b5923c8c6d2822", func := "loop.example/g00925/laws.FnExactSingleEdge", spec := "fnExactSingleEdge", unfollowed := true, recurses := true, named := ["math/bits.divideError", "math/bits.overflowError"], apart := false }
def FnExactSingleEdgeSaid : Prop := fnExactSingleEdgeRow.holds Try.pinned (OpenSpec.ofChange fnExactSingleEdgeSpec)

/-- ITS FALSE NEIGHBOUR: 'it returns false'. Refute it at one input. -/
def fnExactSingleEdgeWrong : ChangeSpec := { name := "fnExactSingleEdge", fn := fun _ => fun
  | [d1, d2] => { results := [.lit (.bool false)], args := [d1, d2] }
  | _ => none }
def FnExactSingleEdgeWrongFalsely : Prop := fnExactSingleEdgeRow.holds Try.pinned (OpenSpec.ofChange fnExactSingleEdgeWrong)

/-- 'laws.FnExactPartProfile': WHATEVER THE INPUT: true; the input reads as it did. -/
def fnExactPartProfileSpec : ChangeSpec := { name := "fnExactPartProfile", fn := fun _ => fun
  | [d1, d2, d3] => { results := [.lit (.bool true)], args := [d1, d2, d3] }
  | _ => none }
def fnExactPartProfileRow : OpenClaim := { program := "ytmmhekakihimfaa", sum := "7f718d2f7e22865e8a7d16c28c67de0c6ad99beca9731b3a08b5923c8c6d2822", func := "loop.example/g00925/laws.FnExactPartProfile", spec := "fnExactPartProfile", apart := false }
def FnExactPartProfileSaid : Prop := fnExactPartProfileRow.holds Try.pinned (OpenSpec.ofChange fnExactPartProfileSpec)

/-- ITS FALSE NEIGHBOUR: 'it returns false'. Refute it at one input. -/
def fnExactPartProfileWrong : ChangeSpec := { name := "fnExactPartProfile", fn := fun _ => fun
  | [d1, d2, d3] => { results := [.lit (.bool false)], args := [d1, d2, d3] }
  | _ => none }
def FnExactPartProfileWrongFalsely : Prop := fnExactPartProfileRow.holds Try.pinned (OpenSpec.ofChange fnExactPartProfileWrong)

/-- 'laws.FnExactDeygoutLoss': WHATEVER THE INPUT: true; the input reads as it did. -/
def fnExactDeygoutLossSpec : ChangeSpec := { name := "fnExactDeygoutLoss", fn := fun _ => fun
  | [d1, d2] => { results := [.lit (.bool true)], args := [d1, d2] }
  | _ => none }
def fnExactDeygoutLossRow : OpenClaim := { program := "ytmmhekakihimfaa", sum := "7f718d2f7e22865e8a7d16c28c67de0c6ad99beca9731b3a08b5923c8c6d2822", func := "loop.example/g00925/laws.FnExactDeygoutLoss", spec := "fnExactDeygoutLoss", unfollowed := true, recurses := true, named := ["math/bits.divideError", "math/bits.overflowError"], apart := false }
def FnExactDeygoutLossSaid : Prop := fnExactDeygoutLossRow.holds Try.pinned (OpenSpec.ofChange fnExactDeygoutLossSpec)

/-- ITS FALSE NEIGHBOUR: 'it returns false'. Refute it at one input. -/
def fnExactDeygoutLossWrong : ChangeSpec := { name := "fnExactDeygoutLoss", fn := fun _ => fun
  | [d1, d2] => { results := [.lit (.bool false)], args := [d1, d2] }
  | _ => none }
def FnExactDeygoutLossWrongFalsely : Prop := fnExactDeygoutLossRow.holds Try.pinned (OpenSpec.ofChange fnExactDeygoutLossWrong)

/-- 'laws.FnExactBullingtonLoss': WHATEVER THE INPUT: true; the input reads as it did. -/
def fnExactBullingtonLossSpec : ChangeSpec := { name := "fnExactBullingtonLoss", fn := fun _ => fun
  | [d1, d2] => { results := [.lit (.bool true)], args := [d1, d2] }
  | _ => none }
def fnExactBullingtonLossRow : OpenClaim := { program := "ytmmhekakihimfaa", sum := "7f718d2f7e22865e8a7d16c28c67de0c6ad99beca9731b3a08b5923c8c6d2822", func := "loop.example/g00925/laws.FnExactBullingtonLoss", spec := "fnExactBullingtonLoss", unfollowed := true, recurses := true, named := ["math/bits.divideError", "math/bits.overflowError"], apart := false }
def FnExactBullingtonLossSaid : Prop := fnExactBullingtonLossRow.holds Try.pinned (OpenSpec.ofChange fnExactBullingtonLossSpec)

/-- ITS FALSE NEIGHBOUR: 'it returns false'. Refute it at one input. -/
def fnExactBullingtonLossWrong : ChangeSpec := { name := "fnExactBullingtonLoss", fn := fun _ => fun
  | [d1, d2] => { results := [.lit (.bool false)], args := [d1, d2] }
  | _ => none }
def FnExactBullingtonLossWrongFalsely : Prop := fnExactBullingtonLossRow.holds Try.pinned (OpenSpec.ofChange fnExactBullingtonLossWrong)

/-- 'laws.FnExactWorstOf': WHATEVER THE INPUT: true; the input reads as it did. -/
def fnExactWorstOfSpec : ChangeSpec := { name := "fnExactWorstOf", fn := fun _ => fun
  | [d1, d2] => { results := [.lit (.bool true)], args := [d1, d2] }
  | _ => none }
def fnExactWorstOfRow : OpenClaim := { program := "ytmmhekakihimfaa", sum := "7f718d2f7e22865e8a7d16c28c67de0c6ad99beca9731b3a08b5923c8c6d2822", func := "loop.example/g00925/laws.FnExactWorstOf", spec := "fnExactWorstOf", unfollowed := true, recurses := true, apart := false }
def FnExactWorstOfSaid : Prop := fnExactWorstOfRow.holds Try.pinned (OpenSpec.ofChange fnExactWorstOfSpec)

/-- ITS FALSE NEIGHBOUR: 'it returns false'. Refute it at one input. -/
def fnExactWorstOfWrong : ChangeSpec := { name := "fnExactWorstOf", fn := fun _ => fun
  | [d1, d2] => { results := [.lit (.bool false)], args := [d1, d2] }
  | _ => none }
def FnExactWorstOfWrongFalsely : Prop := fnExactWorstOfRow.holds Try.pinned (OpenSpec.ofChange fnExactWorstOfWrong)

/-- 'laws.FnExactIsClear': WHATEVER THE INPUT: true; the input reads as it did. -/
def fnExactIsClearSpec : ChangeSpec := { name := "fnExactIsClear", fn := fun _ => fun
  | [d1, d2, d3] => { results := [.lit (.bool true)], args := [d1, d2, d3] }
  | _ => none }
def fnExactIsClearRow : OpenClaim := { program := "ytmmhekakihimfaa", sum := "7f718d2f7e22865e8a7d16c28c67de0c6ad99beca9731b3a08b5923c8c6d2822", func := "loop.example/g00925/laws.FnExactIsClear", spec := "fnExactIsClear", unfollowed := true, recurses := true, apart := false }
def FnExactIsClearSaid : Prop := fnExactIsClearRow.holds Try.pinned (OpenSpec.ofChange fnExactIsClearSpec)

/-- ITS FALSE NEIGHBOUR: 'it returns false'. Refute it at one input. -/
def fnExactIsClearWrong : ChangeSpec := { name := "fnExactIsClear", fn := fun _ => fun
  | [d1, d2, d3] => { results := [.lit (.bool false)], args := [d1, d2, d3] }
  | _ => none }
def FnExactIsClearWrongFalsely : Prop := fnExactIsClearRow.holds Try.pinned (OpenSpec.ofChange fnExactIsClearWrong)

/-- 'laws.FnExactRaiseEnds': WHATEVER THE INPUT: true; the input reads as it did. -/
def fnExactRaiseEndsSpec : ChangeSpec := { name := "fnExactRaiseEnds", fn := fun _ => fun
  | [d1, d2] => { results := [.lit (.bool true)], args := [d1, d2] }
  | _ => none }
def fnExactRaiseEndsRow : OpenClaim := { program := "ytmmhekakihimfaa", sum := "7f718d2f7e22865e8a7d16c28c67de0c6ad99beca9731b3a08b5923c8c6d2822", func := "loop.example/g00925/laws.FnExactRaiseEnds", spec := "fnExactRaiseEnds", apart := false }
def FnExactRaiseEndsSaid : Prop := fnExactRaiseEndsRow.holds Try.pinned (OpenSpec.ofChange fnExactRaiseEndsSpec)

/-- ITS FALSE NEIGHBOUR: 'it returns false'. Refute it at one input. -/
def fnExactRaiseEndsWrong : ChangeSpec := { name := "fnExactRaiseEnds", fn := fun _ => fun
  | [d1, d2] => { results := [.lit (.bool false)], args := [d1, d2] }
  | _ => none }
def FnExactRaiseEndsWrongFalsely : Prop := fnExactRaiseEndsRow.holds Try.pinned (OpenSpec.ofChange fnExactRaiseEndsWrong)

/- THE SECOND FORM. 'bulk': how many values and letters a reading holds, each counted each time it is reached (what is shared counts as often as it is met; a slice's spare places count too). A statement '..UptoSaid' is the law's where the arguments, and the package variables that the reading takes, are together of bulk at most 1048576: NARROWER than '..Said'. Prove '..Said' where nothing that the law and all that it calls make is longer than what came in: it says more and counts as full. Else prove '..UptoSaid'. A law counts once. -/
mutual
def uptoBulk {H : Type} : DataW H → Nat
  | .lit (.string bytes) => bytes.length + 1
  | .lit _ => 1
  | .nil => 1
  | .ptr d => uptoBulk d + 1
  | .slice elems spare => uptoBulkAll elems + uptoBulkAll spare + 1
  | .agg parts => uptoBulkAll parts + 1
  | .iface _ d => uptoBulk d + 1
  | .map entries => uptoBulkEntries entries + 1
  | .held _ => 1
def uptoBulkAll {H : Type} : List (DataW H) → Nat
  | [] => 0
  | d :: r => uptoBulk d + uptoBulkAll r
def uptoBulkEntries {H : Type} : List (Lit × DataW H) → Nat
  | [] => 0
  | x :: r => uptoBulkEntry x + uptoBulkEntries r
def uptoBulkEntry {H : Type} : Lit × DataW H → Nat
  | (.string bytes, d) => bytes.length + uptoBulk d + 1
  | (_, d) => uptoBulk d + 1
 end
def uptoSmall : (H : Type) → List (DataW H) → Bool := fun _ ds => decide (uptoBulkAll ds ≤ 1048576)
def OpenSpec.upto (s : _root_.Go.ChangeSpec) : _root_.Go.OpenSpec := { _root_.Go.OpenSpec.ofChange s with cond := some uptoSmall }

/-- 'laws.FnExactEdgeLoss', WHERE WHAT IT READS IS OF BULK AT MOST 1048576: true; the input reads as it did. -/
def fnExactEdgeLossUptoRow : OpenClaim := { program := "ytmmhekakihimfaa", sum := "7f718d2f7e22865e8a7d16c28c67de0c6ad99beca9731b3a08b5923c8c6d2822", func := "loop.example/g00925/laws.FnExactEdgeLoss", spec := "fnExactEdgeLoss", named := ["math/bits.divideError", "math/bits.overflowError"], apart := false, narrowed := true }
def FnExactEdgeLossUptoSaid : Prop := fnExactEdgeLossUptoRow.holds Try.pinned (OpenSpec.upto fnExactEdgeLossSpec)

/-- 'laws.FnExactNuAt', WHERE WHAT IT READS IS OF BULK AT MOST 1048576: true; the input reads as it did. -/
def fnExactNuAtUptoRow : OpenClaim := { program := "ytmmhekakihimfaa", sum := "7f718d2f7e22865e8a7d16c28c67de0c6ad99beca9731b3a08b5923c8c6d2822", func := "loop.example/g00925/laws.FnExactNuAt", spec := "fnExactNuAt", apart := false, narrowed := true }
def FnExactNuAtUptoSaid : Prop := fnExactNuAtUptoRow.holds Try.pinned (OpenSpec.upto fnExactNuAtSpec)

/-- 'laws.FnExactEdgesOf', WHERE WHAT IT READS IS OF BULK AT MOST 1048576: true; the input reads as it did. -/
def fnExactEdgesOfUptoRow : OpenClaim := { program := "ytmmhekakihimfaa", sum := "7f718d2f7e22865e8a7d16c28c67de0c6ad99beca9731b3a08b5923c8c6d2822", func := "loop.example/g00925/laws.FnExactEdgesOf", spec := "fnExactEdgesOf", unfollowed := true, recurses := true, named := ["math/bits.divideError", "math/bits.overflowError"], apart := false, narrowed := true }
def FnExactEdgesOfUptoSaid : Prop := fnExactEdgesOfUptoRow.holds Try.pinned (OpenSpec.upto fnExactEdgesOfSpec)

/-- 'laws.FnExactSingleEdge', WHERE WHAT IT READS IS OF BULK AT MOST 1048576: true; the input reads as it did. -/
def fnExactSingleEdgeUptoRow : OpenClaim := { program := "ytmmhekakihimfaa", sum := "7f718d2f7e22865e8a7d16c28c67de0c6ad99beca9731b3a08b5923c8c6d2822", func := "loop.example/g00925/laws.FnExactSingleEdge", spec := "fnExactSingleEdge", unfollowed := true, recurses := true, named := ["math/bits.divideError", "math/bits.overflowError"], apart := false, narrowed := true }
def FnExactSingleEdgeUptoSaid : Prop := fnExactSingleEdgeUptoRow.holds Try.pinned (OpenSpec.upto fnExactSingleEdgeSpec)

/-- 'laws.FnExactPartProfile', WHERE WHAT IT READS IS OF BULK AT MOST 1048576: true; the input reads as it did. -/
def fnExactPartProfileUptoRow : OpenClaim := { program := "ytmmhekakihimfaa", sum := "7f718d2f7e22865e8a7d16c28c67de0c6ad99beca9731b3a08b5923c8c6d2822", func := "loop.example/g00925/laws.FnExactPartProfile", spec := "fnExactPartProfile", apart := false, narrowed := true }
def FnExactPartProfileUptoSaid : Prop := fnExactPartProfileUptoRow.holds Try.pinned (OpenSpec.upto fnExactPartProfileSpec)

/-- 'laws.FnExactDeygoutLoss', WHERE WHAT IT READS IS OF BULK AT MOST 1048576: true; the input reads as it did. -/
def fnExactDeygoutLossUptoRow : OpenClaim := { program := "ytmmhekakihimfaa", sum := "7f718d2f7e22865e8a7d16c28c67de0c6ad99beca9731b3a08b5923c8c6d2822", func := "loop.example/g00925/laws.FnExactDeygoutLoss", spec := "fnExactDeygoutLoss", unfollowed := true, recurses := true, named := ["math/bits.divideError", "math/bits.overflowError"], apart := false, narrowed := true }
def FnExactDeygoutLossUptoSaid : Prop := fnExactDeygoutLossUptoRow.holds Try.pinned (OpenSpec.upto fnExactDeygoutLossSpec)

/-- 'laws.FnExactBullingtonLoss', WHERE WHAT IT READS IS OF BULK AT MOST 1048576: true; the input reads as it did. -/
def fnExactBullingtonLossUptoRow : OpenClaim := { program := "ytmmhekakihimfaa", sum := "7f718d2f7e22865e8a7d16c28c67de0c6ad99beca9731b3a08b5923c8c6d2822", func := "loop.example/g00925/laws.FnExactBullingtonLoss", spec := "fnExactBullingtonLoss", unfollowed := true, recurses := true, named := ["math/bits.divideError", "math/bits.overflowError"], apart := false, narrowed := true }
def FnExactBullingtonLossUptoSaid : Prop := fnExactBullingtonLossUptoRow.holds Try.pinned (OpenSpec.upto fnExactBullingtonLossSpec)

/-- 'laws.FnExactWorstOf', WHERE WHAT IT READS IS OF BULK AT MOST 1048576: true; the input reads as it did. -/
def fnExactWorstOfUptoRow : OpenClaim := { program := "ytmmhekakihimfaa", sum := "7f718d2f7e22865e8a7d16c28c67de0c6ad99beca9731b3a08b5923c8c6d2822", func := "loop.example/g00925/laws.FnExactWorstOf", spec := "fnExactWorstOf", unfollowed := true, recurses := true, apart := false, narrowed := true }
def FnExactWorstOfUptoSaid : Prop := fnExactWorstOfUptoRow.holds Try.pinned (OpenSpec.upto fnExactWorstOfSpec)

/-- 'laws.FnExactIsClear', WHERE WHAT IT READS IS OF BULK AT MOST 1048576: true; the input reads as it did. -/
def fnExactIsClearUptoRow : OpenClaim := { program := "ytmmhekakihimfaa", sum := "7f718d2f7e22865e8a7d16c28c67de0c6ad99beca9731b3a08b5923c8c6d2822", func := "loop.example/g00925/laws.FnExactIsClear", spec := "fnExactIsClear", unfollowed := true, recurses := true, apart := false, narrowed := true }
def FnExactIsClearUptoSaid : Prop := fnExactIsClearUptoRow.holds Try.pinned (OpenSpec.upto fnExactIsClearSpec)

/-- 'laws.FnExactRaiseEnds', WHERE WHAT IT READS IS OF BULK AT MOST 1048576: true; the input reads as it did. -/
def fnExactRaiseEndsUptoRow : OpenClaim := { program := "ytmmhekakihimfaa", sum := "7f718d2f7e22865e8a7d16c28c67de0c6ad99beca9731b3a08b5923c8c6d2822", func := "loop.example/g00925/laws.FnExactRaiseEnds", spec := "fnExactRaiseEnds", apart := false, narrowed := true }
def FnExactRaiseEndsUptoSaid : Prop := fnExactRaiseEndsUptoRow.holds Try.pinned (OpenSpec.upto fnExactRaiseEndsSpec)

end Rows
end Go.Proofs.Ytmmhekakihimfaa
