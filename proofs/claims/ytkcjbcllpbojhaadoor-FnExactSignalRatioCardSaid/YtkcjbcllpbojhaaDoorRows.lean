/-
  NARROWER THAN 'FOR EVERY INPUT', by the rows' own cells (each row's printed sentence says how): FnExactValidRows: laid · FnExactSignalRatio: laid · FnExactSinrOf: laid.
  DERIVED. THE GIVEN ROWS OF THIS SEAT. 3 by the template 'for every input the law returns true; each argument reads behind the call as it read before'; 0 by the template 'total and deterministic' (their statements: YtkcjbcllpbojhaaDoorTotals.lean).
  GIVEN WITH THE SEED: the statements are not yours to turn. If you find one false, say at which input.
  Laid BY PROGRAM, IN A SANDBOX (cutbox-rows.mjs): the forced cells as the released guide's own fill.sh prints them over the translation a7e0f0e7f1b38338… (all of the seat's roots in one cut). By AI agents, Wed Nov 11 2026. No macro, syntax, notation, axiom, sorry.
-/
import Derived.Test.YtkcjbcllpbojhaaDoorChecked
import GoSem.Claim
import GoSem.ClaimJoined
import GoSem.ClaimMapViews
import Derived.JoinedTies
import Derived.KernelRfl
namespace Go.Proofs.YtkcjbcllpbojhaaDoor
/- THE CELL 'sum', in the pinned program and in every row, IS THE sha256 OF THE DUMP (.gsa) THAT YtkcjbcllpbojhaaDoorProg.lean LOADS. Nothing in Lean hashes anything: it is a label: what it is worth is what the hold of that sum in a sandbox is worth. -/
noncomputable def Tryd.pinned : Pinned := { name := "ytkcjbcllpbojhaadoor", sum := "a7e0f0e7f1b38338bec5c514152d16afb51d5745d726474efee4c8d7701554e8", checked := Tryd.checked }
namespace Rows
def none {H : Type} : Left H := { results := [], args := [] }

/- WHAT THE LISTED PACKAGE-LEVEL VARIABLES READ AS WHEN THE CALL BEGINS. Each datum BY PROGRAM (the guide's laid-datum.mjs) off the statement by which the dump's own 'gosem.cut.vars' lays the variable. In a bare row this is a premise. The card (YtkcjbcllpbojhaaDoorCards.lean) ties it to the program's text. -/
def laid_loop_example_g00925_impl_quantitySpans {H : Type} : DataW H := .agg [.agg [.lit (.int .i64 1), .lit (.int .i64 100000000)], .agg [.lit (.int .i64 1), .lit (.int .i64 283000)], .agg [.lit (.int .i64 (-300000)), .lit (.int .i64 300000)], .agg [.lit (.int .i64 (-300000)), .lit (.int .i64 300000)], .agg [.lit (.int .i64 0), .lit (.int .i64 300000)], .agg [.lit (.int .i64 1), .lit (.int .i64 100000)], .agg [.lit (.int .i64 0), .lit (.int .i64 7)], .agg [.lit (.int .i64 0), .lit (.int .i64 90000)], .agg [.lit (.int .i64 0), .lit (.int .i64 200)], .agg [.lit (.int .i64 0), .lit (.int .i64 1000)], .agg [.lit (.int .i64 1), .lit (.int .i64 10000)], .agg [.lit (.int .i64 1), .lit (.int .i64 20)], .agg [.lit (.int .i64 0), .lit (.int .i64 1000000)], .agg [.lit (.int .i64 25), .lit (.int .i64 400)], .agg [.lit (.int .i64 0), .lit (.int .i64 100000)]]
def laid_errors_errorType {H : Type} : DataW H := .iface "internal/reflectlite.rtype" (.agg [.ptr (.lit (.string [101, 114, 114, 111, 114]))])

/-- 'laws.FnExactValidRows': WHATEVER THE INPUT: true; the input reads as it did. -/
def fnExactValidRowsSpec : ChangeSpec := { name := "fnExactValidRows", vars := ["loop.example/g00925/impl.quantitySpans"], fn := fun _ => fun
  | [d, g1] => { results := [.lit (.bool true)], args := [d], vars := [g1] }
  | _ => none }
def fnExactValidRowsRow : OpenClaim := { program := "ytkcjbcllpbojhaadoor", sum := "a7e0f0e7f1b38338bec5c514152d16afb51d5745d726474efee4c8d7701554e8", func := "loop.example/g00925/laws.FnExactValidRows", spec := "fnExactValidRows", unfollowed := true, recurses := true, named := ["loop.example/g00925/impl.quantitySpans"], apart := false, laid := [("loop.example/g00925/impl.quantitySpans", laid_loop_example_g00925_impl_quantitySpans)] }
def FnExactValidRowsSaid : Prop := fnExactValidRowsRow.holds Tryd.pinned (OpenSpec.ofChange fnExactValidRowsSpec)

/-- ITS FALSE NEIGHBOUR: 'it returns false'. Refute it at one input. -/
def fnExactValidRowsWrong : ChangeSpec := { name := "fnExactValidRows", vars := ["loop.example/g00925/impl.quantitySpans"], fn := fun _ => fun
  | [d, g1] => { results := [.lit (.bool false)], args := [d], vars := [g1] }
  | _ => none }
def FnExactValidRowsWrongFalsely : Prop := fnExactValidRowsRow.holds Tryd.pinned (OpenSpec.ofChange fnExactValidRowsWrong)

/-- 'laws.FnExactSignalRatio': WHATEVER THE INPUT: true; the input reads as it did. -/
def fnExactSignalRatioSpec : ChangeSpec := { name := "fnExactSignalRatio", vars := ["loop.example/g00925/impl.quantitySpans"], fn := fun _ => fun
  | [d1, d2, d3, d4, g1] => { results := [.lit (.bool true)], args := [d1, d2, d3, d4], vars := [g1] }
  | _ => none }
def fnExactSignalRatioRow : OpenClaim := { program := "ytkcjbcllpbojhaadoor", sum := "a7e0f0e7f1b38338bec5c514152d16afb51d5745d726474efee4c8d7701554e8", func := "loop.example/g00925/laws.FnExactSignalRatio", spec := "fnExactSignalRatio", unfollowed := true, recurses := true, named := ["loop.example/g00925/impl.quantitySpans", "math/bits.divideError", "math/bits.overflowError"], apart := false, laid := [("loop.example/g00925/impl.quantitySpans", laid_loop_example_g00925_impl_quantitySpans)] }
def FnExactSignalRatioSaid : Prop := fnExactSignalRatioRow.holds Tryd.pinned (OpenSpec.ofChange fnExactSignalRatioSpec)

/-- ITS FALSE NEIGHBOUR: 'it returns false'. Refute it at one input. -/
def fnExactSignalRatioWrong : ChangeSpec := { name := "fnExactSignalRatio", vars := ["loop.example/g00925/impl.quantitySpans"], fn := fun _ => fun
  | [d1, d2, d3, d4, g1] => { results := [.lit (.bool false)], args := [d1, d2, d3, d4], vars := [g1] }
  | _ => none }
def FnExactSignalRatioWrongFalsely : Prop := fnExactSignalRatioRow.holds Tryd.pinned (OpenSpec.ofChange fnExactSignalRatioWrong)

/-- 'laws.FnExactSinrOf': WHATEVER THE INPUT: true; the input reads as it did. -/
def fnExactSinrOfSpec : ChangeSpec := { name := "fnExactSinrOf", fn := fun _ => fun
  | [d1, d2, d3] => { results := [.lit (.bool true)], args := [d1, d2, d3] }
  | _ => none }
def fnExactSinrOfRow : OpenClaim := { program := "ytkcjbcllpbojhaadoor", sum := "a7e0f0e7f1b38338bec5c514152d16afb51d5745d726474efee4c8d7701554e8", func := "loop.example/g00925/laws.FnExactSinrOf", spec := "fnExactSinrOf", inPlace := ["internal/reflectlite.ValueOf", "(internal/reflectlite.Value).Type", "(internal/reflectlite.Value).IsNil", "internal/reflectlite.TypeOf", "(internal/reflectlite.Value).Elem", "(internal/reflectlite.Value).Set"], unfollowed := true, recurses := true, named := ["errors.errorType", "math/bits.divideError", "math/bits.overflowError"], apart := false, laid := [("errors.errorType", laid_errors_errorType)] }
def FnExactSinrOfSaid : Prop := fnExactSinrOfRow.holds Tryd.pinned (OpenSpec.ofChange fnExactSinrOfSpec)

/-- ITS FALSE NEIGHBOUR: 'it returns false'. Refute it at one input. -/
def fnExactSinrOfWrong : ChangeSpec := { name := "fnExactSinrOf", fn := fun _ => fun
  | [d1, d2, d3] => { results := [.lit (.bool false)], args := [d1, d2, d3] }
  | _ => none }
def FnExactSinrOfWrongFalsely : Prop := fnExactSinrOfRow.holds Tryd.pinned (OpenSpec.ofChange fnExactSinrOfWrong)

/- THE SECOND FORM. 'bulk': how many values and letters a reading holds, each counted each time it is reached (what is shared counts as often as it is met; a slice's spare places count too). A statement '..UptoSaid' is the law's where the arguments, and the package variables that the reading takes, are together of bulk at most 1048576: NARROWER than '..Said'. Prove '..Said' where nothing that the law and all that it calls make is longer than what came in: it says more and counts as full. Else prove '..UptoSaid'. A law counts once. -/
mutual
def uptoBulk {H : Type} : DataW H → Nat
  | .lit (.string bytes) => bytes.length + 1
  | .lit _ => 1
  | .nil => 1
  | .ptr d => uptoBulk d + 1
  | .slice elems spare => uptoBulkAll elems + uptoBulkAll spare + 1
  | .agg parts => uptoBulkAll parts + 1
  | .iface _ d => uptoBulk d + 1
  | .map entries => uptoBulkEntries entries + 1
  | .held _ => 1
def uptoBulkAll {H : Type} : List (DataW H) → Nat
  | [] => 0
  | d :: r => uptoBulk d + uptoBulkAll r
def uptoBulkEntries {H : Type} : List (Lit × DataW H) → Nat
  | [] => 0
  | x :: r => uptoBulkEntry x + uptoBulkEntries r
def uptoBulkEntry {H : Type} : Lit × DataW H → Nat
  | (.string bytes, d) => bytes.length + uptoBulk d + 1
  | (_, d) => uptoBulk d + 1
 end
def uptoSmall : (H : Type) → List (DataW H) → Bool := fun _ ds => decide (uptoBulkAll ds ≤ 1048576)
def OpenSpec.upto (s : _root_.Go.ChangeSpec) : _root_.Go.OpenSpec := { _root_.Go.OpenSpec.ofChange s with cond := some uptoSmall }

/-- 'laws.FnExactValidRows', WHERE WHAT IT READS IS OF BULK AT MOST 1048576: true; the input reads as it did. -/
def fnExactValidRowsUptoRow : OpenClaim := { program := "ytkcjbcllpbojhaadoor", sum := "a7e0f0e7f1b38338bec5c514152d16afb51d5745d726474efee4c8d7701554e8", func := "loop.example/g00925/laws.FnExactValidRows", spec := "fnExactValidRows", unfollowed := true, recurses := true, named := ["loop.example/g00925/impl.quantitySpans"], apart := false, laid := [("loop.example/g00925/impl.quantitySpans", laid_loop_example_g00925_impl_quantitySpans)], narrowed := true }
def FnExactValidRowsUptoSaid : Prop := fnExactValidRowsUptoRow.holds Tryd.pinned (OpenSpec.upto fnExactValidRowsSpec)

/-- 'laws.FnExactSignalRatio', WHERE WHAT IT READS IS OF BULK AT MOST 1048576: true; the input reads as it did. -/
def fnExactSignalRatioUptoRow : OpenClaim := { program := "ytkcjbcllpbojhaadoor", sum := "a7e0f0e7f1b38338bec5c514152d16afb51d5745d726474efee4c8d7701554e8", func := "loop.example/g00925/laws.FnExactSignalRatio", spec := "fnExactSignalRatio", unfollowed := true, recurses := true, named := ["loop.example/g00925/impl.quantitySpans", "math/bits.divideError", "math/bits.overflowError"], apart := false, laid := [("loop.example/g00925/impl.quantitySpans", laid_loop_example_g00925_impl_quantitySpans)], narrowed := true }
def FnExactSignalRatioUptoSaid : Prop := fnExactSignalRatioUptoRow.holds Tryd.pinned (OpenSpec.upto fnExactSignalRatioSpec)

/-- 'laws.FnExactSinrOf', WHERE WHAT IT READS IS OF BULK AT MOST 1048576: true; the input reads as it did. -/
def fnExactSinrOfUptoRow : OpenClaim := { program := "ytkcjbcllpbojhaadoor", sum := "a7e0f0e7f1b38338bec5c514152d16afb51d5745d726474efee4c8d7701554e8", func := "loop.example/g00925/laws.FnExactSinrOf", spec := "fnExactSinrOf", inPlace := ["internal/reflectlite.ValueOf", "(internal/reflectlite.Value).Type", "(internal/reflectlite.Value).IsNil", "internal/reflectlite.TypeOf", "(internal/reflectlite.Value).Elem", "(internal/reflectlite.Value).Set"], unfollowed := true, recurses := true, named := ["errors.errorType", "math/bits.divideError", "math/bits.overflowError"], apart := false, laid := [("errors.errorType", laid_errors_errorType)], narrowed := true }
def FnExactSinrOfUptoSaid : Prop := fnExactSinrOfUptoRow.holds Tryd.pinned (OpenSpec.upto fnExactSinrOfSpec)

end Rows
end Go.Proofs.YtkcjbcllpbojhaaDoor
