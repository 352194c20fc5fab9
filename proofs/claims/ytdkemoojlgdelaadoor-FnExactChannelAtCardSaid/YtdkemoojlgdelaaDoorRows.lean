/-
  NARROWER THAN 'FOR EVERY INPUT', by the rows' own cells (each row's printed sentence says how): FnExactValidBand: laid · FnExactChannelCount: laid · FnExactChannelFrequency: laid · FnExactPartnerFrequency: laid · FnExactChannelAt: laid.
  DERIVED. THE GIVEN ROWS OF THIS SEAT. 5 by the template 'for every input the law returns true; each argument reads behind the call as it read before'; 0 by the template 'total and deterministic' (their statements: YtdkemoojlgdelaaDoorTotals.lean).
  GIVEN WITH THE SEED: the statements are not yours to turn. If you find one false, say at which input.
  Laid BY PROGRAM, IN A SANDBOX (cutbox-rows.mjs): the forced cells as the released guide's own fill.sh prints them over the translation 19ebb8b2b6d7a040… (all of the seat's roots in one cut). By AI agents, Wed Nov 11 2026. No macro, syntax, notation, axiom, sorry.
-/
import Derived.Test.YtdkemoojlgdelaaDoorChecked
import GoSem.Claim
import GoSem.ClaimJoined
import GoSem.ClaimMapViews
import Derived.JoinedTies
import Derived.KernelRfl
namespace Go.Proofs.YtdkemoojlgdelaaDoor
/- THE CELL 'sum', in the pinned program and in every row, IS THE sha256 OF THE DUMP (.gsa) THAT YtdkemoojlgdelaaDoorProg.lean LOADS. Nothing in Lean hashes anything: it is a label: what it is worth is what the hold of that sum in a sandbox is worth. -/
noncomputable def Tryd.pinned : Pinned := { name := "ytdkemoojlgdelaadoor", sum := "19ebb8b2b6d7a040767428e36d79af5f89b82b72803c6a0e68842a5c8dd65fe8", checked := Tryd.checked }
namespace Rows
def none {H : Type} : Left H := { results := [], args := [] }

/- WHAT THE LISTED PACKAGE-LEVEL VARIABLES READ AS WHEN THE CALL BEGINS. Each datum BY PROGRAM (the guide's laid-datum.mjs) off the statement by which the dump's own 'gosem.cut.vars' lays the variable. In a bare row this is a premise. The card (YtdkemoojlgdelaaDoorCards.lean) ties it to the program's text. -/
def laid_loop_example_g00925_impl_quantitySpans {H : Type} : DataW H := .agg [.agg [.lit (.int .i64 1), .lit (.int .i64 100000000)], .agg [.lit (.int .i64 1), .lit (.int .i64 283000)], .agg [.lit (.int .i64 (-300000)), .lit (.int .i64 300000)], .agg [.lit (.int .i64 (-300000)), .lit (.int .i64 300000)], .agg [.lit (.int .i64 0), .lit (.int .i64 300000)], .agg [.lit (.int .i64 1), .lit (.int .i64 100000)], .agg [.lit (.int .i64 0), .lit (.int .i64 7)], .agg [.lit (.int .i64 0), .lit (.int .i64 90000)], .agg [.lit (.int .i64 0), .lit (.int .i64 200)], .agg [.lit (.int .i64 0), .lit (.int .i64 1000)], .agg [.lit (.int .i64 1), .lit (.int .i64 10000)], .agg [.lit (.int .i64 1), .lit (.int .i64 20)], .agg [.lit (.int .i64 0), .lit (.int .i64 1000000)], .agg [.lit (.int .i64 25), .lit (.int .i64 400)], .agg [.lit (.int .i64 0), .lit (.int .i64 100000)]]

/-- 'laws.FnExactValidBand': WHATEVER THE INPUT: true; the input reads as it did. -/
def fnExactValidBandSpec : ChangeSpec := { name := "fnExactValidBand", vars := ["loop.example/g00925/impl.quantitySpans"], fn := fun _ => fun
  | [d, g1] => { results := [.lit (.bool true)], args := [d], vars := [g1] }
  | _ => none }
def fnExactValidBandRow : OpenClaim := { program := "ytdkemoojlgdelaadoor", sum := "19ebb8b2b6d7a040767428e36d79af5f89b82b72803c6a0e68842a5c8dd65fe8", func := "loop.example/g00925/laws.FnExactValidBand", spec := "fnExactValidBand", named := ["loop.example/g00925/impl.quantitySpans"], apart := false, laid := [("loop.example/g00925/impl.quantitySpans", laid_loop_example_g00925_impl_quantitySpans)] }
def FnExactValidBandSaid : Prop := fnExactValidBandRow.holds Tryd.pinned (OpenSpec.ofChange fnExactValidBandSpec)

/-- ITS FALSE NEIGHBOUR: 'it returns false'. Refute it at one input. -/
def fnExactValidBandWrong : ChangeSpec := { name := "fnExactValidBand", vars := ["loop.example/g00925/impl.quantitySpans"], fn := fun _ => fun
  | [d, g1] => { results := [.lit (.bool false)], args := [d], vars := [g1] }
  | _ => none }
def FnExactValidBandWrongFalsely : Prop := fnExactValidBandRow.holds Tryd.pinned (OpenSpec.ofChange fnExactValidBandWrong)

/-- 'laws.FnExactChannelCount': WHATEVER THE INPUT: true; the input reads as it did. -/
def fnExactChannelCountSpec : ChangeSpec := { name := "fnExactChannelCount", vars := ["loop.example/g00925/impl.quantitySpans"], fn := fun _ => fun
  | [d, g1] => { results := [.lit (.bool true)], args := [d], vars := [g1] }
  | _ => none }
def fnExactChannelCountRow : OpenClaim := { program := "ytdkemoojlgdelaadoor", sum := "19ebb8b2b6d7a040767428e36d79af5f89b82b72803c6a0e68842a5c8dd65fe8", func := "loop.example/g00925/laws.FnExactChannelCount", spec := "fnExactChannelCount", named := ["loop.example/g00925/impl.quantitySpans"], apart := false, laid := [("loop.example/g00925/impl.quantitySpans", laid_loop_example_g00925_impl_quantitySpans)] }
def FnExactChannelCountSaid : Prop := fnExactChannelCountRow.holds Tryd.pinned (OpenSpec.ofChange fnExactChannelCountSpec)

/-- ITS FALSE NEIGHBOUR: 'it returns false'. Refute it at one input. -/
def fnExactChannelCountWrong : ChangeSpec := { name := "fnExactChannelCount", vars := ["loop.example/g00925/impl.quantitySpans"], fn := fun _ => fun
  | [d, g1] => { results := [.lit (.bool false)], args := [d], vars := [g1] }
  | _ => none }
def FnExactChannelCountWrongFalsely : Prop := fnExactChannelCountRow.holds Tryd.pinned (OpenSpec.ofChange fnExactChannelCountWrong)

/-- 'laws.FnExactChannelFrequency': WHATEVER THE INPUT: true; the input reads as it did. -/
def fnExactChannelFrequencySpec : ChangeSpec := { name := "fnExactChannelFrequency", vars := ["loop.example/g00925/impl.quantitySpans"], fn := fun _ => fun
  | [d1, d2, g1] => { results := [.lit (.bool true)], args := [d1, d2], vars := [g1] }
  | _ => none }
def fnExactChannelFrequencyRow : OpenClaim := { program := "ytdkemoojlgdelaadoor", sum := "19ebb8b2b6d7a040767428e36d79af5f89b82b72803c6a0e68842a5c8dd65fe8", func := "loop.example/g00925/laws.FnExactChannelFrequency", spec := "fnExactChannelFrequency", named := ["loop.example/g00925/impl.quantitySpans"], apart := false, laid := [("loop.example/g00925/impl.quantitySpans", laid_loop_example_g00925_impl_quantitySpans)] }
def FnExactChannelFrequencySaid : Prop := fnExactChannelFrequencyRow.holds Tryd.pinned (OpenSpec.ofChange fnExactChannelFrequencySpec)

/-- ITS FALSE NEIGHBOUR: 'it returns false'. Refute it at one input. -/
def fnExactChannelFrequencyWrong : ChangeSpec := { name := "fnExactChannelFrequency", vars := ["loop.example/g00925/impl.quantitySpans"], fn := fun _ => fun
  | [d1, d2, g1] => { results := [.lit (.bool false)], args := [d1, d2], vars := [g1] }
  | _ => none }
def FnExactChannelFrequencyWrongFalsely : Prop := fnExactChannelFrequencyRow.holds Tryd.pinned (OpenSpec.ofChange fnExactChannelFrequencyWrong)

/-- 'laws.FnExactPartnerFrequency': WHATEVER THE INPUT: true; the input reads as it did. -/
def fnExactPartnerFrequencySpec : ChangeSpec := { name := "fnExactPartnerFrequency", vars := ["loop.example/g00925/impl.quantitySpans"], fn := fun _ => fun
  | [d1, d2, g1] => { results := [.lit (.bool true)], args := [d1, d2], vars := [g1] }
  | _ => none }
def fnExactPartnerFrequencyRow : OpenClaim := { program := "ytdkemoojlgdelaadoor", sum := "19ebb8b2b6d7a040767428e36d79af5f89b82b72803c6a0e68842a5c8dd65fe8", func := "loop.example/g00925/laws.FnExactPartnerFrequency", spec := "fnExactPartnerFrequency", named := ["loop.example/g00925/impl.quantitySpans"], apart := false, laid := [("loop.example/g00925/impl.quantitySpans", laid_loop_example_g00925_impl_quantitySpans)] }
def FnExactPartnerFrequencySaid : Prop := fnExactPartnerFrequencyRow.holds Tryd.pinned (OpenSpec.ofChange fnExactPartnerFrequencySpec)

/-- ITS FALSE NEIGHBOUR: 'it returns false'. Refute it at one input. -/
def fnExactPartnerFrequencyWrong : ChangeSpec := { name := "fnExactPartnerFrequency", vars := ["loop.example/g00925/impl.quantitySpans"], fn := fun _ => fun
  | [d1, d2, g1] => { results := [.lit (.bool false)], args := [d1, d2], vars := [g1] }
  | _ => none }
def FnExactPartnerFrequencyWrongFalsely : Prop := fnExactPartnerFrequencyRow.holds Tryd.pinned (OpenSpec.ofChange fnExactPartnerFrequencyWrong)

/-- 'laws.FnExactChannelAt': WHATEVER THE INPUT: true; the input reads as it did. -/
def fnExactChannelAtSpec : ChangeSpec := { name := "fnExactChannelAt", vars := ["loop.example/g00925/impl.quantitySpans"], fn := fun _ => fun
  | [d1, d2, g1] => { results := [.lit (.bool true)], args := [d1, d2], vars := [g1] }
  | _ => none }
def fnExactChannelAtRow : OpenClaim := { program := "ytdkemoojlgdelaadoor", sum := "19ebb8b2b6d7a040767428e36d79af5f89b82b72803c6a0e68842a5c8dd65fe8", func := "loop.example/g00925/laws.FnExactChannelAt", spec := "fnExactChannelAt", named := ["loop.example/g00925/impl.quantitySpans"], apart := false, laid := [("loop.example/g00925/impl.quantitySpans", laid_loop_example_g00925_impl_quantitySpans)] }
def FnExactChannelAtSaid : Prop := fnExactChannelAtRow.holds Tryd.pinned (OpenSpec.ofChange fnExactChannelAtSpec)

/-- ITS FALSE NEIGHBOUR: 'it returns false'. Refute it at one input. -/
def fnExactChannelAtWrong : ChangeSpec := { name := "fnExactChannelAt", vars := ["loop.example/g00925/impl.quantitySpans"], fn := fun _ => fun
  | [d1, d2, g1] => { results := [.lit (.bool false)], args := [d1, d2], vars := [g1] }
  | _ => none }
def FnExactChannelAtWrongFalsely : Prop := fnExactChannelAtRow.holds Tryd.pinned (OpenSpec.ofChange fnExactChannelAtWrong)

/- THE SECOND FORM. 'bulk': how many values and letters a reading holds, each counted each time it is reached (what is shared counts as often as it is met; a slice's spare places count too). A statement '..UptoSaid' is the law's where the arguments, and the package variables that the reading takes, are together of bulk at most 1048576: NARROWER than '..Said'. Prove '..Said' where nothing that the law and all that it calls make is longer than what came in: it says more and counts as full. Else prove '..UptoSaid'. A law counts once. -/
mutual
def uptoBulk {H : Type} : DataW H → Nat
  | .lit (.string bytes) => bytes.length + 1
  | .lit _ => 1
  | .nil => 1
  | .ptr d => uptoBulk d + 1
  | .slice elems spare => uptoBulkAll elems + uptoBulkAll spare + 1
  | .agg parts => uptoBulkAll parts + 1
  | .iface _ d => uptoBulk d + 1
  | .map entries => uptoBulkEntries entries + 1
  | .held _ => 1
def uptoBulkAll {H : Type} : List (DataW H) → Nat
  | [] => 0
  | d :: r => uptoBulk d + uptoBulkAll r
def uptoBulkEntries {H : Type} : List (Lit × DataW H) → Nat
  | [] => 0
  | x :: r => uptoBulkEntry x + uptoBulkEntries r
def uptoBulkEntry {H : Type} : Lit × DataW H → Nat
  | (.string bytes, d) => bytes.length + uptoBulk d + 1
  | (_, d) => uptoBulk d + 1
 end
def uptoSmall : (H : Type) → List (DataW H) → Bool := fun _ ds => decide (uptoBulkAll ds ≤ 1048576)
def OpenSpec.upto (s : _root_.Go.ChangeSpec) : _root_.Go.OpenSpec := { _root_.Go.OpenSpec.ofChange s with cond := some uptoSmall }

/-- 'laws.FnExactValidBand', WHERE WHAT IT READS IS OF BULK AT MOST 1048576: true; the input reads as it did. -/
def fnExactValidBandUptoRow : OpenClaim := { program := "ytdkemoojlgdelaadoor", sum := "19ebb8b2b6d7a040767428e36d79af5f89b82b72803c6a0e68842a5c8dd65fe8", func := "loop.example/g00925/laws.FnExactValidBand", spec := "fnExactValidBand", named := ["loop.example/g00925/impl.quantitySpans"], apart := false, laid := [("loop.example/g00925/impl.quantitySpans", laid_loop_example_g00925_impl_quantitySpans)], narrowed := true }
def FnExactValidBandUptoSaid : Prop := fnExactValidBandUptoRow.holds Tryd.pinned (OpenSpec.upto fnExactValidBandSpec)

/-- 'laws.FnExactChannelCount', WHERE WHAT IT READS IS OF BULK AT MOST 1048576: true; the input reads as it did. -/
def fnExactChannelCountUptoRow : OpenClaim := { program := "ytdkemoojlgdelaadoor", sum := "19ebb8b2b6d7a040767428e36d79af5f89b82b72803c6a0e68842a5c8dd65fe8", func := "loop.example/g00925/laws.FnExactChannelCount", spec := "fnExactChannelCount", named := ["loop.example/g00925/impl.quantitySpans"], apart := false, laid := [("loop.example/g00925/impl.quantitySpans", laid_loop_example_g00925_impl_quantitySpans)], narrowed := true }
def FnExactChannelCountUptoSaid : Prop := fnExactChannelCountUptoRow.holds Tryd.pinned (OpenSpec.upto fnExactChannelCountSpec)

/-- 'laws.FnExactChannelFrequency', WHERE WHAT IT READS IS OF BULK AT MOST 1048576: true; the input reads as it did. -/
def fnExactChannelFrequencyUptoRow : OpenClaim := { program := "ytdkemoojlgdelaadoor", sum := "19ebb8b2b6d7a040767428e36d79af5f89b82b72803c6a0e68842a5c8dd65fe8", func := "loop.example/g00925/laws.FnExactChannelFrequency", spec := "fnExactChannelFrequency", named := ["loop.example/g00925/impl.quantitySpans"], apart := false, laid := [("loop.example/g00925/impl.quantitySpans", laid_loop_example_g00925_impl_quantitySpans)], narrowed := true }
def FnExactChannelFrequencyUptoSaid : Prop := fnExactChannelFrequencyUptoRow.holds Tryd.pinned (OpenSpec.upto fnExactChannelFrequencySpec)

/-- 'laws.FnExactPartnerFrequency', WHERE WHAT IT READS IS OF BULK AT MOST 1048576: true; the input reads as it did. -/
def fnExactPartnerFrequencyUptoRow : OpenClaim := { program := "ytdkemoojlgdelaadoor", sum := "19ebb8b2b6d7a040767428e36d79af5f89b82b72803c6a0e68842a5c8dd65fe8", func := "loop.example/g00925/laws.FnExactPartnerFrequency", spec := "fnExactPartnerFrequency", named := ["loop.example/g00925/impl.quantitySpans"], apart := false, laid := [("loop.example/g00925/impl.quantitySpans", laid_loop_example_g00925_impl_quantitySpans)], narrowed := true }
def FnExactPartnerFrequencyUptoSaid : Prop := fnExactPartnerFrequencyUptoRow.holds Tryd.pinned (OpenSpec.upto fnExactPartnerFrequencySpec)

/-- 'laws.FnExactChannelAt', WHERE WHAT IT READS IS OF BULK AT MOST 1048576: true; the input reads as it did. -/
def fnExactChannelAtUptoRow : OpenClaim := { program := "ytdkemoojlgdelaadoor", sum := "19ebb8b2b6d7a040767428e36d79af5f89b82b72803c6a0e68842a5c8dd65fe8", func := "loop.example/g00925/laws.FnExactChannelAt", spec := "fnExactChannelAt", named := ["loop.example/g00925/impl.quantitySpans"], apart := false, laid := [("loop.example/g00925/impl.quantitySpans", laid_loop_example_g00925_impl_quantitySpans)], narrowed := true }
def FnExactChannelAtUptoSaid : Prop := fnExactChannelAtUptoRow.holds Tryd.pinned (OpenSpec.upto fnExactChannelAtSpec)

end Rows
end Go.Proofs.YtdkemoojlgdelaaDoor
