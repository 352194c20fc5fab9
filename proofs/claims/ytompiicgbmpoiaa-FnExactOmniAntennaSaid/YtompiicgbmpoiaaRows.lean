/-
  No cell of these rows narrows 'for every input' (looked for: loops, veiled, ifaces, maps, wideKeys, modest, calm, conditions, laid).
  DERIVED. THE GIVEN ROWS OF THIS SEAT. 5 by the template 'for every input the law returns true; each argument reads behind the call as it read before'; 0 by the template 'total and deterministic' (their statements: YtompiicgbmpoiaaTotals.lean).
  GIVEN WITH THE SEED: the statements are not yours to turn. If you find one false, say at which input.
  Laid BY PROGRAM, IN A SANDBOX (cutbox-rows.mjs): the forced cells as the released guide's own fill.sh prints them over the translation cb09ae96f41c1bcb… (all of the seat's roots in one cut). By AI agents, Wed Nov 11 2026. No macro, syntax, notation, axiom, sorry.
-/
import Derived.Test.YtompiicgbmpoiaaChecked
import GoSem.Claim
import GoSem.ClaimJoined
import GoSem.ClaimMapViews
import Derived.JoinedTies
import Derived.KernelRfl
namespace Go.Proofs.Ytompiicgbmpoiaa
/- THE CELL 'sum', in the pinned program and in every row, IS THE sha256 OF THE DUMP (.gsa) THAT YtompiicgbmpoiaaProg.lean LOADS. Nothing in Lean hashes anything: it is a label: what it is worth is what the hold of that sum in a sandbox is worth. -/
noncomputable def Try.pinned : Pinned := { name := "ytompiicgbmpoiaa", sum := "cb09ae96f41c1bcbac7412df4fca93b68c2290d562fdec0ebdcd0e9b903ef40d", checked := Try.checked }
namespace Rows
def none {H : Type} : Left H := { results := [], args := [] }

/-- 'laws.FnExactLossAtOffset': WHATEVER THE INPUT: true; the input reads as it did. -/
def fnExactLossAtOffsetSpec : ChangeSpec := { name := "fnExactLossAtOffset", fn := fun _ => fun
  | [d1, d2] => { results := [.lit (.bool true)], args := [d1, d2] }
  | _ => none }
def fnExactLossAtOffsetRow : OpenClaim := { program := "ytompiicgbmpoiaa", sum := "cb09ae96f41c1bcbac7412df4fca93b68c2290d562fdec0ebdcd0e9b903ef40d", func := "loop.example/g00925/laws.FnExactLossAtOffset", spec := "fnExactLossAtOffset", unfollowed := true, recurses := true, apart := false }
def FnExactLossAtOffsetSaid : Prop := fnExactLossAtOffsetRow.holds Try.pinned (OpenSpec.ofChange fnExactLossAtOffsetSpec)

/-- ITS FALSE NEIGHBOUR: 'it returns false'. Refute it at one input. -/
def fnExactLossAtOffsetWrong : ChangeSpec := { name := "fnExactLossAtOffset", fn := fun _ => fun
  | [d1, d2] => { results := [.lit (.bool false)], args := [d1, d2] }
  | _ => none }
def FnExactLossAtOffsetWrongFalsely : Prop := fnExactLossAtOffsetRow.holds Try.pinned (OpenSpec.ofChange fnExactLossAtOffsetWrong)

/-- 'laws.FnExactWidthAt': WHATEVER THE INPUT: true; the input reads as it did. -/
def fnExactWidthAtSpec : ChangeSpec := { name := "fnExactWidthAt", fn := fun _ => fun
  | [d1, d2] => { results := [.lit (.bool true)], args := [d1, d2] }
  | _ => none }
def fnExactWidthAtRow : OpenClaim := { program := "ytompiicgbmpoiaa", sum := "cb09ae96f41c1bcbac7412df4fca93b68c2290d562fdec0ebdcd0e9b903ef40d", func := "loop.example/g00925/laws.FnExactWidthAt", spec := "fnExactWidthAt", unfollowed := true, recurses := true, apart := false }
def FnExactWidthAtSaid : Prop := fnExactWidthAtRow.holds Try.pinned (OpenSpec.ofChange fnExactWidthAtSpec)

/-- ITS FALSE NEIGHBOUR: 'it returns false'. Refute it at one input. -/
def fnExactWidthAtWrong : ChangeSpec := { name := "fnExactWidthAt", fn := fun _ => fun
  | [d1, d2] => { results := [.lit (.bool false)], args := [d1, d2] }
  | _ => none }
def FnExactWidthAtWrongFalsely : Prop := fnExactWidthAtRow.holds Try.pinned (OpenSpec.ofChange fnExactWidthAtWrong)

/-- 'laws.FnExactStepsFor': WHATEVER THE INPUT: true; the input reads as it did. -/
def fnExactStepsForSpec : ChangeSpec := { name := "fnExactStepsFor", fn := fun _ => fun
  | [d1, d2] => { results := [.lit (.bool true)], args := [d1, d2] }
  | _ => none }
def fnExactStepsForRow : OpenClaim := { program := "ytompiicgbmpoiaa", sum := "cb09ae96f41c1bcbac7412df4fca93b68c2290d562fdec0ebdcd0e9b903ef40d", func := "loop.example/g00925/laws.FnExactStepsFor", spec := "fnExactStepsFor", unfollowed := true, recurses := true, apart := false }
def FnExactStepsForSaid : Prop := fnExactStepsForRow.holds Try.pinned (OpenSpec.ofChange fnExactStepsForSpec)

/-- ITS FALSE NEIGHBOUR: 'it returns false'. Refute it at one input. -/
def fnExactStepsForWrong : ChangeSpec := { name := "fnExactStepsFor", fn := fun _ => fun
  | [d1, d2] => { results := [.lit (.bool false)], args := [d1, d2] }
  | _ => none }
def FnExactStepsForWrongFalsely : Prop := fnExactStepsForRow.holds Try.pinned (OpenSpec.ofChange fnExactStepsForWrong)

/-- 'laws.FnExactOmniAntenna': WHATEVER THE INPUT: true; the input reads as it did. -/
def fnExactOmniAntennaSpec : ChangeSpec := { name := "fnExactOmniAntenna", fn := fun _ => fun
  | [d1, d2] => { results := [.lit (.bool true)], args := [d1, d2] }
  | _ => none }
def fnExactOmniAntennaRow : OpenClaim := { program := "ytompiicgbmpoiaa", sum := "cb09ae96f41c1bcbac7412df4fca93b68c2290d562fdec0ebdcd0e9b903ef40d", func := "loop.example/g00925/laws.FnExactOmniAntenna", spec := "fnExactOmniAntenna", unfollowed := true, recurses := true, apart := false }
def FnExactOmniAntennaSaid : Prop := fnExactOmniAntennaRow.holds Try.pinned (OpenSpec.ofChange fnExactOmniAntennaSpec)

/-- ITS FALSE NEIGHBOUR: 'it returns false'. Refute it at one input. -/
def fnExactOmniAntennaWrong : ChangeSpec := { name := "fnExactOmniAntenna", fn := fun _ => fun
  | [d1, d2] => { results := [.lit (.bool false)], args := [d1, d2] }
  | _ => none }
def FnExactOmniAntennaWrongFalsely : Prop := fnExactOmniAntennaRow.holds Try.pinned (OpenSpec.ofChange fnExactOmniAntennaWrong)

/-- 'laws.FnExactMirrorAntenna': WHATEVER THE INPUT: true; the input reads as it did. -/
def fnExactMirrorAntennaSpec : ChangeSpec := { name := "fnExactMirrorAntenna", fn := fun _ => fun
  | [d] => { results := [.lit (.bool true)], args := [d] }
  | _ => none }
def fnExactMirrorAntennaRow : OpenClaim := { program := "ytompiicgbmpoiaa", sum := "cb09ae96f41c1bcbac7412df4fca93b68c2290d562fdec0ebdcd0e9b903ef40d", func := "loop.example/g00925/laws.FnExactMirrorAntenna", spec := "fnExactMirrorAntenna", apart := false }
def FnExactMirrorAntennaSaid : Prop := fnExactMirrorAntennaRow.holds Try.pinned (OpenSpec.ofChange fnExactMirrorAntennaSpec)

/-- ITS FALSE NEIGHBOUR: 'it returns false'. Refute it at one input. -/
def fnExactMirrorAntennaWrong : ChangeSpec := { name := "fnExactMirrorAntenna", fn := fun _ => fun
  | [d] => { results := [.lit (.bool false)], args := [d] }
  | _ => none }
def FnExactMirrorAntennaWrongFalsely : Prop := fnExactMirrorAntennaRow.holds Try.pinned (OpenSpec.ofChange fnExactMirrorAntennaWrong)

/- THE SECOND FORM. 'bulk': how many values and letters a reading holds, each counted each time it is reached (what is shared counts as often as it is met; a slice's spare places count too). A statement '..UptoSaid' is the law's where the arguments, and the package variables that the reading takes, are together of bulk at most 1048576: NARROWER than '..Said'. Prove '..Said' where nothing that the law and all that it calls make is longer than what came in: it says more and counts as full. Else prove '..UptoSaid'. A law counts once. -/
mutual
def uptoBulk {H : Type} : DataW H → Nat
  | .lit (.string bytes) => bytes.length + 1
  | .lit _ => 1
  | .nil => 1
  | .ptr d => uptoBulk d + 1
  | .slice elems spare => uptoBulkAll elems + uptoBulkAll spare + 1
  | .agg parts => uptoBulkAll parts + 1
  | .iface _ d => uptoBulk d + 1
  | .map entries => uptoBulkEntries entries + 1
  | .held _ => 1
def uptoBulkAll {H : Type} : List (DataW H) → Nat
  | [] => 0
  | d :: r => uptoBulk d + uptoBulkAll r
def uptoBulkEntries {H : Type} : List (Lit × DataW H) → Nat
  | [] => 0
  | x :: r => uptoBulkEntry x + uptoBulkEntries r
def uptoBulkEntry {H : Type} : Lit × DataW H → Nat
  | (.string bytes, d) => bytes.length + uptoBulk d + 1
  | (_, d) => uptoBulk d + 1
 end
def uptoSmall : (H : Type) → List (DataW H) → Bool := fun _ ds => decide (uptoBulkAll ds ≤ 1048576)
def OpenSpec.upto (s : _root_.Go.ChangeSpec) : _root_.Go.OpenSpec := { _root_.Go.OpenSpec.ofChange s with cond := some uptoSmall }

/-- 'laws.FnExactLossAtOffset', WHERE WHAT IT READS IS OF BULK AT MOST 1048576: true; the input reads as it did. -/
def fnExactLossAtOffsetUptoRow : OpenClaim := { program := "ytompiicgbmpoiaa", sum := "cb09ae96f41c1bcbac7412df4fca93b68c2290d562fdec0ebdcd0e9b903ef40d", func := "loop.example/g00925/laws.FnExactLossAtOffset", spec := "fnExactLossAtOffset", unfollowed := true, recurses := true, apart := false, narrowed := true }
def FnExactLossAtOffsetUptoSaid : Prop := fnExactLossAtOffsetUptoRow.holds Try.pinned (OpenSpec.upto fnExactLossAtOffsetSpec)

/-- 'laws.FnExactWidthAt', WHERE WHAT IT READS IS OF BULK AT MOST 1048576: true; the input reads as it did. -/
def fnExactWidthAtUptoRow : OpenClaim := { program := "ytompiicgbmpoiaa", sum := "cb09ae96f41c1bcbac7412df4fca93b68c2290d562fdec0ebdcd0e9b903ef40d", func := "loop.example/g00925/laws.FnExactWidthAt", spec := "fnExactWidthAt", unfollowed := true, recurses := true, apart := false, narrowed := true }
def FnExactWidthAtUptoSaid : Prop := fnExactWidthAtUptoRow.holds Try.pinned (OpenSpec.upto fnExactWidthAtSpec)

/-- 'laws.FnExactStepsFor', WHERE WHAT IT READS IS OF BULK AT MOST 1048576: true; the input reads as it did. -/
def fnExactStepsForUptoRow : OpenClaim := { program := "ytompiicgbmpoiaa", sum := "cb09ae96f41c1bcbac7412df4fca93b68c2290d562fdec0ebdcd0e9b903ef40d", func := "loop.example/g00925/laws.FnExactStepsFor", spec := "fnExactStepsFor", unfollowed := true, recurses := true, apart := false, narrowed := true }
def FnExactStepsForUptoSaid : Prop := fnExactStepsForUptoRow.holds Try.pinned (OpenSpec.upto fnExactStepsForSpec)

/-- 'laws.FnExactOmniAntenna', WHERE WHAT IT READS IS OF BULK AT MOST 1048576: true; the input reads as it did. -/
def fnExactOmniAntennaUptoRow : OpenClaim := { program := "ytompiicgbmpoiaa", sum := "cb09ae96f41c1bcbac7412df4fca93b68c2290d562fdec0ebdcd0e9b903ef40d", func := "loop.example/g00925/laws.FnExactOmniAntenna", spec := "fnExactOmniAntenna", unfollowed := true, recurses := true, apart := false, narrowed := true }
def FnExactOmniAntennaUptoSaid : Prop := fnExactOmniAntennaUptoRow.holds Try.pinned (OpenSpec.upto fnExactOmniAntennaSpec)

/-- 'laws.FnExactMirrorAntenna', WHERE WHAT IT READS IS OF BULK AT MOST 1048576: true; the input reads as it did. -/
def fnExactMirrorAntennaUptoRow : OpenClaim := { program := "ytompiicgbmpoiaa", sum := "cb09ae96f41c1bcbac7412df4fca93b68c2290d562fdec0ebdcd0e9b903ef40d", func := "loop.example/g00925/laws.FnExactMirrorAntenna", spec := "fnExactMirrorAntenna", apart := false, narrowed := true }
def FnExactMirrorAntennaUptoSaid : Prop := fnExactMirrorAntennaUptoRow.holds Try.pinned (OpenSpec.upto fnExactMirrorAntennaSpec)

end Rows
end Go.Proofs.Ytompiicgbmpoiaa
