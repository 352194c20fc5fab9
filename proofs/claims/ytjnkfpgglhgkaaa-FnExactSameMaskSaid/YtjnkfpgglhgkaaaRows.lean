/-
  No cell of these rows narrows 'for every input' (looked for: loops, veiled, ifaces, maps, wideKeys, modest, calm, conditions, laid).
  DERIVED. THE GIVEN ROWS OF THIS SEAT. 10 by the template 'for every input the law returns true; each argument reads behind the call as it read before'; 0 by the template 'total and deterministic' (their statements: YtjnkfpgglhgkaaaTotals.lean).
  GIVEN WITH THE SEED: the statements are not yours to turn. If you find one false, say at which input.
  Laid BY PROGRAM, IN A SANDBOX (cutbox-rows.mjs): the forced cells as the released guide's own fill.sh prints them over the translation 368c658da776cfbf… (all of the seat's roots in one cut). By AI agents, Wed Nov 11 2026. No macro, syntax, notation, axiom, sorry.
-/
import Derived.Test.YtjnkfpgglhgkaaaChecked
import GoSem.Claim
import GoSem.ClaimJoined
import GoSem.ClaimMapViews
import Derived.JoinedTies
import Derived.KernelRfl
namespace Go.Proofs.Ytjnkfpgglhgkaaa
/- THE CELL 'sum', in the pinned program and in every row, IS THE sha256 OF THE DUMP (.gsa) THAT YtjnkfpgglhgkaaaProg.lean LOADS. Nothing in Lean hashes anything: it is a label: what it is worth is what the hold of that sum in a sandbox is worth. -/
noncomputable def Try.pinned : Pinned := { name := "ytjnkfpgglhgkaaa", sum := "368c658da776cfbfd4a805089551df9c41ea5ad853e57154b7cd7ccfa1a5bd3e", checked := Try.checked }
namespace Rows
def none {H : Type} : Left H := { results := [], args := [] }

/-- 'laws.FnExactValidMask': WHATEVER THE INPUT: true; the input reads as it did. -/
def fnExactValidMaskSpec : ChangeSpec := { name := "fnExactValidMask", fn := fun _ => fun
  | [d] => { results := [.lit (.bool true)], args := [d] }
  | _ => none }
def fnExactValidMaskRow : OpenClaim := { program := "ytjnkfpgglhgkaaa", sum := "368c658da776cfbfd4a805089551df9c41ea5ad853e57154b7cd7ccfa1a5bd3e", func := "loop.example/g00925/laws.FnExactValidMask", spec := "fnExactValidMask", apart := false }
def FnExactValidMaskSaid : Prop := fnExactValidMaskRow.holds Try.pinned (OpenSpec.ofChange fnExactValidMaskSpec)

/-- ITS FALSE NEIGHBOUR: 'it returns false'. Refute it at one input. -/
def fnExactValidMaskWrong : ChangeSpec := { name := "fnExactValidMask", fn := fun _ => fun
  | [d] => { results := [.lit (.bool false)], args := [d] }
  | _ => none }
def FnExactValidMaskWrongFalsely : Prop := fnExactValidMaskRow.holds Try.pinned (OpenSpec.ofChange fnExactValidMaskWrong)

/-- 'laws.FnExactSameMask': WHATEVER THE INPUT: true; the input reads as it did. -/
def fnExactSameMaskSpec : ChangeSpec := { name := "fnExactSameMask", fn := fun _ => fun
  | [d1, d2] => { results := [.lit (.bool true)], args := [d1, d2] }
  | _ => none }
def fnExactSameMaskRow : OpenClaim := { program := "ytjnkfpgglhgkaaa", sum := "368c658da776cfbfd4a805089551df9c41ea5ad853e57154b7cd7ccfa1a5bd3e", func := "loop.example/g00925/laws.FnExactSameMask", spec := "fnExactSameMask", apart := false }
def FnExactSameMaskSaid : Prop := fnExactSameMaskRow.holds Try.pinned (OpenSpec.ofChange fnExactSameMaskSpec)

/-- ITS FALSE NEIGHBOUR: 'it returns false'. Refute it at one input. -/
def fnExactSameMaskWrong : ChangeSpec := { name := "fnExactSameMask", fn := fun _ => fun
  | [d1, d2] => { results := [.lit (.bool false)], args := [d1, d2] }
  | _ => none }
def FnExactSameMaskWrongFalsely : Prop := fnExactSameMaskRow.holds Try.pinned (OpenSpec.ofChange fnExactSameMaskWrong)

/-- 'laws.FnExactChannelMask': WHATEVER THE INPUT: true; the input reads as it did. -/
def fnExactChannelMaskSpec : ChangeSpec := { name := "fnExactChannelMask", fn := fun _ => fun
  | [d1, d2] => { results := [.lit (.bool true)], args := [d1, d2] }
  | _ => none }
def fnExactChannelMaskRow : OpenClaim := { program := "ytjnkfpgglhgkaaa", sum := "368c658da776cfbfd4a805089551df9c41ea5ad853e57154b7cd7ccfa1a5bd3e", func := "loop.example/g00925/laws.FnExactChannelMask", spec := "fnExactChannelMask", apart := false }
def FnExactChannelMaskSaid : Prop := fnExactChannelMaskRow.holds Try.pinned (OpenSpec.ofChange fnExactChannelMaskSpec)

/-- ITS FALSE NEIGHBOUR: 'it returns false'. Refute it at one input. -/
def fnExactChannelMaskWrong : ChangeSpec := { name := "fnExactChannelMask", fn := fun _ => fun
  | [d1, d2] => { results := [.lit (.bool false)], args := [d1, d2] }
  | _ => none }
def FnExactChannelMaskWrongFalsely : Prop := fnExactChannelMaskRow.holds Try.pinned (OpenSpec.ofChange fnExactChannelMaskWrong)

/-- 'laws.FnExactLossAtOffset': WHATEVER THE INPUT: true; the input reads as it did. -/
def fnExactLossAtOffsetSpec : ChangeSpec := { name := "fnExactLossAtOffset", fn := fun _ => fun
  | [d1, d2] => { results := [.lit (.bool true)], args := [d1, d2] }
  | _ => none }
def fnExactLossAtOffsetRow : OpenClaim := { program := "ytjnkfpgglhgkaaa", sum := "368c658da776cfbfd4a805089551df9c41ea5ad853e57154b7cd7ccfa1a5bd3e", func := "loop.example/g00925/laws.FnExactLossAtOffset", spec := "fnExactLossAtOffset", unfollowed := true, recurses := true, leaving := true, apart := false }
def FnExactLossAtOffsetSaid : Prop := fnExactLossAtOffsetRow.holds Try.pinned (OpenSpec.ofChange fnExactLossAtOffsetSpec)

/-- ITS FALSE NEIGHBOUR: 'it returns false'. Refute it at one input. -/
def fnExactLossAtOffsetWrong : ChangeSpec := { name := "fnExactLossAtOffset", fn := fun _ => fun
  | [d1, d2] => { results := [.lit (.bool false)], args := [d1, d2] }
  | _ => none }
def FnExactLossAtOffsetWrongFalsely : Prop := fnExactLossAtOffsetRow.holds Try.pinned (OpenSpec.ofChange fnExactLossAtOffsetWrong)

/-- 'laws.FnExactWidthAt': WHATEVER THE INPUT: true; the input reads as it did. -/
def fnExactWidthAtSpec : ChangeSpec := { name := "fnExactWidthAt", fn := fun _ => fun
  | [d1, d2] => { results := [.lit (.bool true)], args := [d1, d2] }
  | _ => none }
def fnExactWidthAtRow : OpenClaim := { program := "ytjnkfpgglhgkaaa", sum := "368c658da776cfbfd4a805089551df9c41ea5ad853e57154b7cd7ccfa1a5bd3e", func := "loop.example/g00925/laws.FnExactWidthAt", spec := "fnExactWidthAt", unfollowed := true, recurses := true, leaving := true, apart := false }
def FnExactWidthAtSaid : Prop := fnExactWidthAtRow.holds Try.pinned (OpenSpec.ofChange fnExactWidthAtSpec)

/-- ITS FALSE NEIGHBOUR: 'it returns false'. Refute it at one input. -/
def fnExactWidthAtWrong : ChangeSpec := { name := "fnExactWidthAt", fn := fun _ => fun
  | [d1, d2] => { results := [.lit (.bool false)], args := [d1, d2] }
  | _ => none }
def FnExactWidthAtWrongFalsely : Prop := fnExactWidthAtRow.holds Try.pinned (OpenSpec.ofChange fnExactWidthAtWrong)

/-- 'laws.FnExactMeetMasks': WHATEVER THE INPUT: true; the input reads as it did. -/
def fnExactMeetMasksSpec : ChangeSpec := { name := "fnExactMeetMasks", fn := fun _ => fun
  | [d1, d2] => { results := [.lit (.bool true)], args := [d1, d2] }
  | _ => none }
def fnExactMeetMasksRow : OpenClaim := { program := "ytjnkfpgglhgkaaa", sum := "368c658da776cfbfd4a805089551df9c41ea5ad853e57154b7cd7ccfa1a5bd3e", func := "loop.example/g00925/laws.FnExactMeetMasks", spec := "fnExactMeetMasks", unfollowed := true, recurses := true, leaving := true, apart := false }
def FnExactMeetMasksSaid : Prop := fnExactMeetMasksRow.holds Try.pinned (OpenSpec.ofChange fnExactMeetMasksSpec)

/-- ITS FALSE NEIGHBOUR: 'it returns false'. Refute it at one input. -/
def fnExactMeetMasksWrong : ChangeSpec := { name := "fnExactMeetMasks", fn := fun _ => fun
  | [d1, d2] => { results := [.lit (.bool false)], args := [d1, d2] }
  | _ => none }
def FnExactMeetMasksWrongFalsely : Prop := fnExactMeetMasksRow.holds Try.pinned (OpenSpec.ofChange fnExactMeetMasksWrong)

/-- 'laws.FnExactDiscrimination': WHATEVER THE INPUT: true; the input reads as it did. -/
def fnExactDiscriminationSpec : ChangeSpec := { name := "fnExactDiscrimination", fn := fun _ => fun
  | [d1, d2, d3] => { results := [.lit (.bool true)], args := [d1, d2, d3] }
  | _ => none }
def fnExactDiscriminationRow : OpenClaim := { program := "ytjnkfpgglhgkaaa", sum := "368c658da776cfbfd4a805089551df9c41ea5ad853e57154b7cd7ccfa1a5bd3e", func := "loop.example/g00925/laws.FnExactDiscrimination", spec := "fnExactDiscrimination", unfollowed := true, recurses := true, named := ["math/bits.divideError", "math/bits.overflowError"], leaving := true, apart := false }
def FnExactDiscriminationSaid : Prop := fnExactDiscriminationRow.holds Try.pinned (OpenSpec.ofChange fnExactDiscriminationSpec)

/-- ITS FALSE NEIGHBOUR: 'it returns false'. Refute it at one input. -/
def fnExactDiscriminationWrong : ChangeSpec := { name := "fnExactDiscrimination", fn := fun _ => fun
  | [d1, d2, d3] => { results := [.lit (.bool false)], args := [d1, d2, d3] }
  | _ => none }
def FnExactDiscriminationWrongFalsely : Prop := fnExactDiscriminationRow.holds Try.pinned (OpenSpec.ofChange fnExactDiscriminationWrong)

/-- 'laws.FnExactDiscriminationTable': WHATEVER THE INPUT: true; the input reads as it did. -/
def fnExactDiscriminationTableSpec : ChangeSpec := { name := "fnExactDiscriminationTable", fn := fun _ => fun
  | [d1, d2, d3, d4] => { results := [.lit (.bool true)], args := [d1, d2, d3, d4] }
  | _ => none }
def fnExactDiscriminationTableRow : OpenClaim := { program := "ytjnkfpgglhgkaaa", sum := "368c658da776cfbfd4a805089551df9c41ea5ad853e57154b7cd7ccfa1a5bd3e", func := "loop.example/g00925/laws.FnExactDiscriminationTable", spec := "fnExactDiscriminationTable", unfollowed := true, recurses := true, named := ["math/bits.divideError", "math/bits.overflowError"], leaving := true, apart := false }
def FnExactDiscriminationTableSaid : Prop := fnExactDiscriminationTableRow.holds Try.pinned (OpenSpec.ofChange fnExactDiscriminationTableSpec)

/-- ITS FALSE NEIGHBOUR: 'it returns false'. Refute it at one input. -/
def fnExactDiscriminationTableWrong : ChangeSpec := { name := "fnExactDiscriminationTable", fn := fun _ => fun
  | [d1, d2, d3, d4] => { results := [.lit (.bool false)], args := [d1, d2, d3, d4] }
  | _ => none }
def FnExactDiscriminationTableWrongFalsely : Prop := fnExactDiscriminationTableRow.holds Try.pinned (OpenSpec.ofChange fnExactDiscriminationTableWrong)

/-- 'laws.FnExactStepsFor': WHATEVER THE INPUT: true; the input reads as it did. -/
def fnExactStepsForSpec : ChangeSpec := { name := "fnExactStepsFor", fn := fun _ => fun
  | [d1, d2] => { results := [.lit (.bool true)], args := [d1, d2] }
  | _ => none }
def fnExactStepsForRow : OpenClaim := { program := "ytjnkfpgglhgkaaa", sum := "368c658da776cfbfd4a805089551df9c41ea5ad853e57154b7cd7ccfa1a5bd3e", func := "loop.example/g00925/laws.FnExactStepsFor", spec := "fnExactStepsFor", unfollowed := true, recurses := true, leaving := true, apart := false }
def FnExactStepsForSaid : Prop := fnExactStepsForRow.holds Try.pinned (OpenSpec.ofChange fnExactStepsForSpec)

/-- ITS FALSE NEIGHBOUR: 'it returns false'. Refute it at one input. -/
def fnExactStepsForWrong : ChangeSpec := { name := "fnExactStepsFor", fn := fun _ => fun
  | [d1, d2] => { results := [.lit (.bool false)], args := [d1, d2] }
  | _ => none }
def FnExactStepsForWrongFalsely : Prop := fnExactStepsForRow.holds Try.pinned (OpenSpec.ofChange fnExactStepsForWrong)

/-- 'laws.FnDiscrimination': WHATEVER THE INPUT: true; the input reads as it did. -/
def fnDiscriminationSpec : ChangeSpec := { name := "fnDiscrimination", fn := fun _ => fun
  | [d1, d2] => { results := [.lit (.bool true)], args := [d1, d2] }
  | _ => none }
def fnDiscriminationRow : OpenClaim := { program := "ytjnkfpgglhgkaaa", sum := "368c658da776cfbfd4a805089551df9c41ea5ad853e57154b7cd7ccfa1a5bd3e", func := "loop.example/g00925/laws.FnDiscrimination", spec := "fnDiscrimination", unfollowed := true, recurses := true, named := ["math/bits.divideError", "math/bits.overflowError"], leaving := true, apart := false }
def FnDiscriminationSaid : Prop := fnDiscriminationRow.holds Try.pinned (OpenSpec.ofChange fnDiscriminationSpec)

/-- ITS FALSE NEIGHBOUR: 'it returns false'. Refute it at one input. -/
def fnDiscriminationWrong : ChangeSpec := { name := "fnDiscrimination", fn := fun _ => fun
  | [d1, d2] => { results := [.lit (.bool false)], args := [d1, d2] }
  | _ => none }
def FnDiscriminationWrongFalsely : Prop := fnDiscriminationRow.holds Try.pinned (OpenSpec.ofChange fnDiscriminationWrong)

/- THE SECOND FORM. 'bulk': how many values and letters a reading holds, each counted each time it is reached (what is shared counts as often as it is met; a slice's spare places count too). A statement '..UptoSaid' is the law's where the arguments, and the package variables that the reading takes, are together of bulk at most 1048576: NARROWER than '..Said'. Prove '..Said' where nothing that the law and all that it calls make is longer than what came in: it says more and counts as full. Else prove '..UptoSaid'. A law counts once. -/
mutual
def uptoBulk {H : Type} : DataW H → Nat
  | .lit (.string bytes) => bytes.length + 1
  | .lit _ => 1
  | .nil => 1
  | .ptr d => uptoBulk d + 1
  | .slice elems spare => uptoBulkAll elems + uptoBulkAll spare + 1
  | .agg parts => uptoBulkAll parts + 1
  | .iface _ d => uptoBulk d + 1
  | .map entries => uptoBulkEntries entries + 1
  | .held _ => 1
def uptoBulkAll {H : Type} : List (DataW H) → Nat
  | [] => 0
  | d :: r => uptoBulk d + uptoBulkAll r
def uptoBulkEntries {H : Type} : List (Lit × DataW H) → Nat
  | [] => 0
  | x :: r => uptoBulkEntry x + uptoBulkEntries r
def uptoBulkEntry {H : Type} : Lit × DataW H → Nat
  | (.string bytes, d) => bytes.length + uptoBulk d + 1
  | (_, d) => uptoBulk d + 1
 end
def uptoSmall : (H : Type) → List (DataW H) → Bool := fun _ ds => decide (uptoBulkAll ds ≤ 1048576)
def OpenSpec.upto (s : _root_.Go.ChangeSpec) : _root_.Go.OpenSpec := { _root_.Go.OpenSpec.ofChange s with cond := some uptoSmall }

/-- 'laws.FnExactValidMask', WHERE WHAT IT READS IS OF BULK AT MOST 1048576: true; the input reads as it did. -/
def fnExactValidMaskUptoRow : OpenClaim := { program := "ytjnkfpgglhgkaaa", sum := "368c658da776cfbfd4a805089551df9c41ea5ad853e57154b7cd7ccfa1a5bd3e", func := "loop.example/g00925/laws.FnExactValidMask", spec := "fnExactValidMask", apart := false, narrowed := true }
def FnExactValidMaskUptoSaid : Prop := fnExactValidMaskUptoRow.holds Try.pinned (OpenSpec.upto fnExactValidMaskSpec)

/-- 'laws.FnExactSameMask', WHERE WHAT IT READS IS OF BULK AT MOST 1048576: true; the input reads as it did. -/
def fnExactSameMaskUptoRow : OpenClaim := { program := "ytjnkfpgglhgkaaa", sum := "368c658da776cfbfd4a805089551df9c41ea5ad853e57154b7cd7ccfa1a5bd3e", func := "loop.example/g00925/laws.FnExactSameMask", spec := "fnExactSameMask", apart := false, narrowed := true }
def FnExactSameMaskUptoSaid : Prop := fnExactSameMaskUptoRow.holds Try.pinned (OpenSpec.upto fnExactSameMaskSpec)

/-- 'laws.FnExactChannelMask', WHERE WHAT IT READS IS OF BULK AT MOST 1048576: true; the input reads as it did. -/
def fnExactChannelMaskUptoRow : OpenClaim := { program := "ytjnkfpgglhgkaaa", sum := "368c658da776cfbfd4a805089551df9c41ea5ad853e57154b7cd7ccfa1a5bd3e", func := "loop.example/g00925/laws.FnExactChannelMask", spec := "fnExactChannelMask", apart := false, narrowed := true }
def FnExactChannelMaskUptoSaid : Prop := fnExactChannelMaskUptoRow.holds Try.pinned (OpenSpec.upto fnExactChannelMaskSpec)

/-- 'laws.FnExactLossAtOffset', WHERE WHAT IT READS IS OF BULK AT MOST 1048576: true; the input reads as it did. -/
def fnExactLossAtOffsetUptoRow : OpenClaim := { program := "ytjnkfpgglhgkaaa", sum := "368c658da776cfbfd4a805089551df9c41ea5ad853e57154b7cd7ccfa1a5bd3e", func := "loop.example/g00925/laws.FnExactLossAtOffset", spec := "fnExactLossAtOffset", unfollowed := true, recurses := true, leaving := true, apart := false, narrowed := true }
def FnExactLossAtOffsetUptoSaid : Prop := fnExactLossAtOffsetUptoRow.holds Try.pinned (OpenSpec.upto fnExactLossAtOffsetSpec)

/-- 'laws.FnExactWidthAt', WHERE WHAT IT READS IS OF BULK AT MOST 1048576: true; the input reads as it did. -/
def fnExactWidthAtUptoRow : OpenClaim := { program := "ytjnkfpgglhgkaaa", sum := "368c658da776cfbfd4a805089551df9c41ea5ad853e57154b7cd7ccfa1a5bd3e", func := "loop.example/g00925/laws.FnExactWidthAt", spec := "fnExactWidthAt", unfollowed := true, recurses := true, leaving := true, apart := false, narrowed := true }
def FnExactWidthAtUptoSaid : Prop := fnExactWidthAtUptoRow.holds Try.pinned (OpenSpec.upto fnExactWidthAtSpec)

/-- 'laws.FnExactMeetMasks', WHERE WHAT IT READS IS OF BULK AT MOST 1048576: true; the input reads as it did. -/
def fnExactMeetMasksUptoRow : OpenClaim := { program := "ytjnkfpgglhgkaaa", sum := "368c658da776cfbfd4a805089551df9c41ea5ad853e57154b7cd7ccfa1a5bd3e", func := "loop.example/g00925/laws.FnExactMeetMasks", spec := "fnExactMeetMasks", unfollowed := true, recurses := true, leaving := true, apart := false, narrowed := true }
def FnExactMeetMasksUptoSaid : Prop := fnExactMeetMasksUptoRow.holds Try.pinned (OpenSpec.upto fnExactMeetMasksSpec)

/-- 'laws.FnExactDiscrimination', WHERE WHAT IT READS IS OF BULK AT MOST 1048576: true; the input reads as it did. -/
def fnExactDiscriminationUptoRow : OpenClaim := { program := "ytjnkfpgglhgkaaa", sum := "368c658da776cfbfd4a805089551df9c41ea5ad853e57154b7cd7ccfa1a5bd3e", func := "loop.example/g00925/laws.FnExactDiscrimination", spec := "fnExactDiscrimination", unfollowed := true, recurses := true, named := ["math/bits.divideError", "math/bits.overflowError"], leaving := true, apart := false, narrowed := true }
def FnExactDiscriminationUptoSaid : Prop := fnExactDiscriminationUptoRow.holds Try.pinned (OpenSpec.upto fnExactDiscriminationSpec)

/-- 'laws.FnExactDiscriminationTable', WHERE WHAT IT READS IS OF BULK AT MOST 1048576: true; the input reads as it did. -/
def fnExactDiscriminationTableUptoRow : OpenClaim := { program := "ytjnkfpgglhgkaaa", sum := "368c658da776cfbfd4a805089551df9c41ea5ad853e57154b7cd7ccfa1a5bd3e", func := "loop.example/g00925/laws.FnExactDiscriminationTable", spec := "fnExactDiscriminationTable", unfollowed := true, recurses := true, named := ["math/bits.divideError", "math/bits.overflowError"], leaving := true, apart := false, narrowed := true }
def FnExactDiscriminationTableUptoSaid : Prop := fnExactDiscriminationTableUptoRow.holds Try.pinned (OpenSpec.upto fnExactDiscriminationTableSpec)

/-- 'laws.FnExactStepsFor', WHERE WHAT IT READS IS OF BULK AT MOST 1048576: true; the input reads as it did. -/
def fnExactStepsForUptoRow : OpenClaim := { program := "ytjnkfpgglhgkaaa", sum := "368c658da776cfbfd4a805089551df9c41ea5ad853e57154b7cd7ccfa1a5bd3e", func := "loop.example/g00925/laws.FnExactStepsFor", spec := "fnExactStepsFor", unfollowed := true, recurses := true, leaving := true, apart := false, narrowed := true }
def FnExactStepsForUptoSaid : Prop := fnExactStepsForUptoRow.holds Try.pinned (OpenSpec.upto fnExactStepsForSpec)

/-- 'laws.FnDiscrimination', WHERE WHAT IT READS IS OF BULK AT MOST 1048576: true; the input reads as it did. -/
def fnDiscriminationUptoRow : OpenClaim := { program := "ytjnkfpgglhgkaaa", sum := "368c658da776cfbfd4a805089551df9c41ea5ad853e57154b7cd7ccfa1a5bd3e", func := "loop.example/g00925/laws.FnDiscrimination", spec := "fnDiscrimination", unfollowed := true, recurses := true, named := ["math/bits.divideError", "math/bits.overflowError"], leaving := true, apart := false, narrowed := true }
def FnDiscriminationUptoSaid : Prop := fnDiscriminationUptoRow.holds Try.pinned (OpenSpec.upto fnDiscriminationSpec)

end Rows
end Go.Proofs.Ytjnkfpgglhgkaaa
