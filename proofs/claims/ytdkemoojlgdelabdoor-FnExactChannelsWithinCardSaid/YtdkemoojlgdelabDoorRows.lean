/-
  NARROWER THAN 'FOR EVERY INPUT', by the rows' own cells (each row's printed sentence says how): FnExactChannelsWithin: laid · FnExactChannelsClash: laid · FnExactOffsetOf: laid · FnExactCommonPart: laid.
  DERIVED. THE GIVEN ROWS OF THIS SEAT. 4 by the template 'for every input the law returns true; each argument reads behind the call as it read before'; 0 by the template 'total and deterministic' (their statements: YtdkemoojlgdelabDoorTotals.lean).
  GIVEN WITH THE SEED: the statements are not yours to turn. If you find one false, say at which input.
  Laid BY PROGRAM, IN A SANDBOX (cutbox-rows.mjs): the forced cells as the released guide's own fill.sh prints them over the translation 2a70031f3787c036… (all of the seat's roots in one cut). By AI agents, Wed Nov 11 2026. No macro, syntax, notation, axiom, sorry.
-/
import Derived.Test.YtdkemoojlgdelabDoorChecked
import GoSem.Claim
import GoSem.ClaimJoined
import GoSem.ClaimMapViews
import Derived.JoinedTies
import Derived.KernelRfl
namespace Go.Proofs.YtdkemoojlgdelabDoor
/- THE CELL 'sum', in the pinned program and in every row, IS THE sha256 OF THE DUMP (.gsa) THAT YtdkemoojlgdelabDoorProg.lean LOADS. Nothing in Lean hashes anything: it is a label: what it is worth is what the hold of that sum in a sandbox is worth. -/
noncomputable def Tryd.pinned : Pinned := { name := "ytdkemoojlgdelabdoor", sum := "2a70031f3787c03636da111ab2b73c5f25e3054f22173a7716d1f7de4659ce2e", checked := Tryd.checked }
namespace Rows
def none {H : Type} : Left H := { results := [], args := [] }

/- WHAT THE LISTED PACKAGE-LEVEL VARIABLES READ AS WHEN THE CALL BEGINS. Each datum BY PROGRAM (the guide's laid-datum.mjs) off the statement by which the dump's own 'gosem.cut.vars' lays the variable. In a bare row this is a premise. The card (YtdkemoojlgdelabDoorCards.lean) ties it to the program's text. -/
def laid_loop_example_g00925_impl_quantitySpans {H : Type} : DataW H := .agg [.agg [.lit (.int .i64 1), .lit (.int .i64 100000000)], .agg [.lit (.int .i64 1), .lit (.int .i64 283000)], .agg [.lit (.int .i64 (-300000)), .lit (.int .i64 300000)], .agg [.lit (.int .i64 (-300000)), .lit (.int .i64 300000)], .agg [.lit (.int .i64 0), .lit (.int .i64 300000)], .agg [.lit (.int .i64 1), .lit (.int .i64 100000)], .agg [.lit (.int .i64 0), .lit (.int .i64 7)], .agg [.lit (.int .i64 0), .lit (.int .i64 90000)], .agg [.lit (.int .i64 0), .lit (.int .i64 200)], .agg [.lit (.int .i64 0), .lit (.int .i64 1000)], .agg [.lit (.int .i64 1), .lit (.int .i64 10000)], .agg [.lit (.int .i64 1), .lit (.int .i64 20)], .agg [.lit (.int .i64 0), .lit (.int .i64 1000000)], .agg [.lit (.int .i64 25), .lit (.int .i64 400)], .agg [.lit (.int .i64 0), .lit (.int .i64 100000)]]

/-- 'laws.FnExactChannelsWithin': WHATEVER THE INPUT: true; the input reads as it did. -/
def fnExactChannelsWithinSpec : ChangeSpec := { name := "fnExactChannelsWithin", vars := ["loop.example/g00925/impl.quantitySpans"], fn := fun _ => fun
  | [d1, d2, d3, g1] => { results := [.lit (.bool true)], args := [d1, d2, d3], vars := [g1] }
  | _ => none }
def fnExactChannelsWithinRow : OpenClaim := { program := "ytdkemoojlgdelabdoor", sum := "2a70031f3787c03636da111ab2b73c5f25e3054f22173a7716d1f7de4659ce2e", func := "loop.example/g00925/laws.FnExactChannelsWithin", spec := "fnExactChannelsWithin", named := ["loop.example/g00925/impl.quantitySpans"], apart := false, laid := [("loop.example/g00925/impl.quantitySpans", laid_loop_example_g00925_impl_quantitySpans)] }
def FnExactChannelsWithinSaid : Prop := fnExactChannelsWithinRow.holds Tryd.pinned (OpenSpec.ofChange fnExactChannelsWithinSpec)

/-- ITS FALSE NEIGHBOUR: 'it returns false'. Refute it at one input. -/
def fnExactChannelsWithinWrong : ChangeSpec := { name := "fnExactChannelsWithin", vars := ["loop.example/g00925/impl.quantitySpans"], fn := fun _ => fun
  | [d1, d2, d3, g1] => { results := [.lit (.bool false)], args := [d1, d2, d3], vars := [g1] }
  | _ => none }
def FnExactChannelsWithinWrongFalsely : Prop := fnExactChannelsWithinRow.holds Tryd.pinned (OpenSpec.ofChange fnExactChannelsWithinWrong)

/-- 'laws.FnExactChannelsClash': WHATEVER THE INPUT: true; the input reads as it did. -/
def fnExactChannelsClashSpec : ChangeSpec := { name := "fnExactChannelsClash", vars := ["loop.example/g00925/impl.quantitySpans"], fn := fun _ => fun
  | [d1, d2, d3, d4, g1] => { results := [.lit (.bool true)], args := [d1, d2, d3, d4], vars := [g1] }
  | _ => none }
def fnExactChannelsClashRow : OpenClaim := { program := "ytdkemoojlgdelabdoor", sum := "2a70031f3787c03636da111ab2b73c5f25e3054f22173a7716d1f7de4659ce2e", func := "loop.example/g00925/laws.FnExactChannelsClash", spec := "fnExactChannelsClash", named := ["loop.example/g00925/impl.quantitySpans"], apart := false, laid := [("loop.example/g00925/impl.quantitySpans", laid_loop_example_g00925_impl_quantitySpans)] }
def FnExactChannelsClashSaid : Prop := fnExactChannelsClashRow.holds Tryd.pinned (OpenSpec.ofChange fnExactChannelsClashSpec)

/-- ITS FALSE NEIGHBOUR: 'it returns false'. Refute it at one input. -/
def fnExactChannelsClashWrong : ChangeSpec := { name := "fnExactChannelsClash", vars := ["loop.example/g00925/impl.quantitySpans"], fn := fun _ => fun
  | [d1, d2, d3, d4, g1] => { results := [.lit (.bool false)], args := [d1, d2, d3, d4], vars := [g1] }
  | _ => none }
def FnExactChannelsClashWrongFalsely : Prop := fnExactChannelsClashRow.holds Tryd.pinned (OpenSpec.ofChange fnExactChannelsClashWrong)

/-- 'laws.FnExactOffsetOf': WHATEVER THE INPUT: true; the input reads as it did. -/
def fnExactOffsetOfSpec : ChangeSpec := { name := "fnExactOffsetOf", vars := ["loop.example/g00925/impl.quantitySpans"], fn := fun _ => fun
  | [d1, d2, d3, d4, g1] => { results := [.lit (.bool true)], args := [d1, d2, d3, d4], vars := [g1] }
  | _ => none }
def fnExactOffsetOfRow : OpenClaim := { program := "ytdkemoojlgdelabdoor", sum := "2a70031f3787c03636da111ab2b73c5f25e3054f22173a7716d1f7de4659ce2e", func := "loop.example/g00925/laws.FnExactOffsetOf", spec := "fnExactOffsetOf", unfollowed := true, recurses := true, named := ["loop.example/g00925/impl.quantitySpans"], apart := false, laid := [("loop.example/g00925/impl.quantitySpans", laid_loop_example_g00925_impl_quantitySpans)] }
def FnExactOffsetOfSaid : Prop := fnExactOffsetOfRow.holds Tryd.pinned (OpenSpec.ofChange fnExactOffsetOfSpec)

/-- ITS FALSE NEIGHBOUR: 'it returns false'. Refute it at one input. -/
def fnExactOffsetOfWrong : ChangeSpec := { name := "fnExactOffsetOf", vars := ["loop.example/g00925/impl.quantitySpans"], fn := fun _ => fun
  | [d1, d2, d3, d4, g1] => { results := [.lit (.bool false)], args := [d1, d2, d3, d4], vars := [g1] }
  | _ => none }
def FnExactOffsetOfWrongFalsely : Prop := fnExactOffsetOfRow.holds Tryd.pinned (OpenSpec.ofChange fnExactOffsetOfWrong)

/-- 'laws.FnExactCommonPart': WHATEVER THE INPUT: true; the input reads as it did. -/
def fnExactCommonPartSpec : ChangeSpec := { name := "fnExactCommonPart", vars := ["loop.example/g00925/impl.quantitySpans"], fn := fun _ => fun
  | [d1, d2, g1] => { results := [.lit (.bool true)], args := [d1, d2], vars := [g1] }
  | _ => none }
def fnExactCommonPartRow : OpenClaim := { program := "ytdkemoojlgdelabdoor", sum := "2a70031f3787c03636da111ab2b73c5f25e3054f22173a7716d1f7de4659ce2e", func := "loop.example/g00925/laws.FnExactCommonPart", spec := "fnExactCommonPart", named := ["loop.example/g00925/impl.quantitySpans"], apart := false, laid := [("loop.example/g00925/impl.quantitySpans", laid_loop_example_g00925_impl_quantitySpans)] }
def FnExactCommonPartSaid : Prop := fnExactCommonPartRow.holds Tryd.pinned (OpenSpec.ofChange fnExactCommonPartSpec)

/-- ITS FALSE NEIGHBOUR: 'it returns false'. Refute it at one input. -/
def fnExactCommonPartWrong : ChangeSpec := { name := "fnExactCommonPart", vars := ["loop.example/g00925/impl.quantitySpans"], fn := fun _ => fun
  | [d1, d2, g1] => { results := [.lit (.bool false)], args := [d1, d2], vars := [g1] }
  | _ => none }
def FnExactCommonPartWrongFalsely : Prop := fnExactCommonPartRow.holds Tryd.pinned (OpenSpec.ofChange fnExactCommonPartWrong)

/- THE SECOND FORM. 'bulk': how many values and letters a reading holds, each counted each time it is reached (what is shared counts as often as it is met; a slice's spare places count too). A statement '..UptoSaid' is the law's where the arguments, and the package variables that the reading takes, are together of bulk at most 1048576: NARROWER than '..Said'. Prove '..Said' where nothing that the law and all that it calls make is longer than what came in: it says more and counts as full. Else prove '..UptoSaid'. A law counts once. -/
mutual
def uptoBulk {H : Type} : DataW H → Nat
  | .lit (.string bytes) => bytes.length + 1
  | .lit _ => 1
  | .nil => 1
  | .ptr d => uptoBulk d + 1
  | .slice elems spare => uptoBulkAll elems + uptoBulkAll spare + 1
  | .agg parts => uptoBulkAll parts + 1
  | .iface _ d => uptoBulk d + 1
  | .map entries => uptoBulkEntries entries + 1
  | .held _ => 1
def uptoBulkAll {H : Type} : List (DataW H) → Nat
  | [] => 0
  | d :: r => uptoBulk d + uptoBulkAll r
def uptoBulkEntries {H : Type} : List (Lit × DataW H) → Nat
  | [] => 0
  | x :: r => uptoBulkEntry x + uptoBulkEntries r
def uptoBulkEntry {H : Type} : Lit × DataW H → Nat
  | (.string bytes, d) => bytes.length + uptoBulk d + 1
  | (_, d) => uptoBulk d + 1
 end
def uptoSmall : (H : Type) → List (DataW H) → Bool := fun _ ds => decide (uptoBulkAll ds ≤ 1048576)
def OpenSpec.upto (s : _root_.Go.ChangeSpec) : _root_.Go.OpenSpec := { _root_.Go.OpenSpec.ofChange s with cond := some uptoSmall }

/-- 'laws.FnExactChannelsWithin', WHERE WHAT IT READS IS OF BULK AT MOST 1048576: true; the input reads as it did. -/
def fnExactChannelsWithinUptoRow : OpenClaim := { program := "ytdkemoojlgdelabdoor", sum := "2a70031f3787c03636da111ab2b73c5f25e3054f22173a7716d1f7de4659ce2e", func := "loop.example/g00925/laws.FnExactChannelsWithin", spec := "fnExactChannelsWithin", named := ["loop.example/g00925/impl.quantitySpans"], apart := false, laid := [("loop.example/g00925/impl.quantitySpans", laid_loop_example_g00925_impl_quantitySpans)], narrowed := true }
def FnExactChannelsWithinUptoSaid : Prop := fnExactChannelsWithinUptoRow.holds Tryd.pinned (OpenSpec.upto fnExactChannelsWithinSpec)

/-- 'laws.FnExactChannelsClash', WHERE WHAT IT READS IS OF BULK AT MOST 1048576: true; the input reads as it did. -/
def fnExactChannelsClashUptoRow : OpenClaim := { program := "ytdkemoojlgdelabdoor", sum := "2a70031f3787c03636da111ab2b73c5f25e3054f22173a7716d1f7de4659ce2e", func := "loop.example/g00925/laws.FnExactChannelsClash", spec := "fnExactChannelsClash", named := ["loop.example/g00925/impl.quantitySpans"], apart := false, laid := [("loop.example/g00925/impl.quantitySpans", laid_loop_example_g00925_impl_quantitySpans)], narrowed := true }
def FnExactChannelsClashUptoSaid : Prop := fnExactChannelsClashUptoRow.holds Tryd.pinned (OpenSpec.upto fnExactChannelsClashSpec)

/-- 'laws.FnExactOffsetOf', WHERE WHAT IT READS IS OF BULK AT MOST 1048576: true; the input reads as it did. -/
def fnExactOffsetOfUptoRow : OpenClaim := { program := "ytdkemoojlgdelabdoor", sum := "2a70031f3787c03636da111ab2b73c5f25e3054f22173a7716d1f7de4659ce2e", func := "loop.example/g00925/laws.FnExactOffsetOf", spec := "fnExactOffsetOf", unfollowed := true, recurses := true, named := ["loop.example/g00925/impl.quantitySpans"], apart := false, laid := [("loop.example/g00925/impl.quantitySpans", laid_loop_example_g00925_impl_quantitySpans)], narrowed := true }
def FnExactOffsetOfUptoSaid : Prop := fnExactOffsetOfUptoRow.holds Tryd.pinned (OpenSpec.upto fnExactOffsetOfSpec)

/-- 'laws.FnExactCommonPart', WHERE WHAT IT READS IS OF BULK AT MOST 1048576: true; the input reads as it did. -/
def fnExactCommonPartUptoRow : OpenClaim := { program := "ytdkemoojlgdelabdoor", sum := "2a70031f3787c03636da111ab2b73c5f25e3054f22173a7716d1f7de4659ce2e", func := "loop.example/g00925/laws.FnExactCommonPart", spec := "fnExactCommonPart", named := ["loop.example/g00925/impl.quantitySpans"], apart := false, laid := [("loop.example/g00925/impl.quantitySpans", laid_loop_example_g00925_impl_quantitySpans)], narrowed := true }
def FnExactCommonPartUptoSaid : Prop := fnExactCommonPartUptoRow.holds Tryd.pinned (OpenSpec.upto fnExactCommonPartSpec)

end Rows
end Go.Proofs.YtdkemoojlgdelabDoor
