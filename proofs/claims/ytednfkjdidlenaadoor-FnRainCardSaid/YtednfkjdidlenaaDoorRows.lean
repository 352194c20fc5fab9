/-
  NARROWER THAN 'FOR EVERY INPUT', by the rows' own cells (each row's printed sentence says how): FnRain: laid.
  DERIVED. THE GIVEN ROWS OF THIS SEAT. 1 by the template 'for every input the law returns true; each argument reads behind the call as it read before'; 0 by the template 'total and deterministic' (their statements: YtednfkjdidlenaaDoorTotals.lean).
  GIVEN WITH THE SEED: the statements are not yours to turn. If you find one false, say at which input.
  Laid BY PROGRAM, IN A SANDBOX (cutbox-rows.mjs): the forced cells as the released guide's own fill.sh prints them over the translation c21314b995b5b874… (all of the seat's roots in one cut). By AI agents, Wed Nov 11 2026. No macro, syntax, notation, axiom, sorry.
-/
import Derived.Test.YtednfkjdidlenaaDoorChecked
import GoSem.Claim
import GoSem.ClaimJoined
import GoSem.ClaimMapViews
import Derived.JoinedTies
import Derived.KernelRfl
namespace Go.Proofs.YtednfkjdidlenaaDoor
/- THE CELL 'sum', in the pinned program and in every row, IS THE sha256 OF THE DUMP (.gsa) THAT YtednfkjdidlenaaDoorProg.lean LOADS. Nothing in Lean hashes anything: it is a label: what it is worth is what the hold of that sum in a sandbox is worth. -/
noncomputable def Tryd.pinned : Pinned := { name := "ytednfkjdidlenaadoor", sum := "c21314b995b5b87492bb5ab8089add4bde1bb4b9ac9e8692487e1007eb1b50ab", checked := Tryd.checked }
namespace Rows
def none {H : Type} : Left H := { results := [], args := [] }

/- WHAT THE LISTED PACKAGE-LEVEL VARIABLES READ AS WHEN THE CALL BEGINS. Each datum BY PROGRAM (the guide's laid-datum.mjs) off the statement by which the dump's own 'gosem.cut.vars' lays the variable. In a bare row this is a premise. The card (YtednfkjdidlenaaDoorCards.lean) ties it to the program's text. -/
def laid_loop_example_g00925_impl_quantitySpans {H : Type} : DataW H := .agg [.agg [.lit (.int .i64 1), .lit (.int .i64 100000000)], .agg [.lit (.int .i64 1), .lit (.int .i64 283000)], .agg [.lit (.int .i64 (-300000)), .lit (.int .i64 300000)], .agg [.lit (.int .i64 (-300000)), .lit (.int .i64 300000)], .agg [.lit (.int .i64 0), .lit (.int .i64 300000)], .agg [.lit (.int .i64 1), .lit (.int .i64 100000)], .agg [.lit (.int .i64 0), .lit (.int .i64 7)], .agg [.lit (.int .i64 0), .lit (.int .i64 90000)], .agg [.lit (.int .i64 0), .lit (.int .i64 200)], .agg [.lit (.int .i64 0), .lit (.int .i64 1000)], .agg [.lit (.int .i64 1), .lit (.int .i64 10000)], .agg [.lit (.int .i64 1), .lit (.int .i64 20)], .agg [.lit (.int .i64 0), .lit (.int .i64 1000000)], .agg [.lit (.int .i64 25), .lit (.int .i64 400)], .agg [.lit (.int .i64 0), .lit (.int .i64 100000)]]
def laid_loop_example_g00925_impl_surroundings {H : Type} : DataW H := .agg [.agg [.lit (.string [111, 112, 101, 110]), .lit (.int .i64 0), .lit (.int .i64 0)], .agg [.lit (.string [102, 105, 101, 108, 100]), .lit (.int .i64 20), .lit (.int .i64 1000)], .agg [.lit (.string [119, 97, 116, 101, 114]), .lit (.int .i64 10), .lit (.int .i64 500)], .agg [.lit (.string [116, 114, 101, 101, 115]), .lit (.int .i64 120), .lit (.int .i64 12000)], .agg [.lit (.string [118, 105, 108, 108, 97, 103, 101]), .lit (.int .i64 70), .lit (.int .i64 8000)], .agg [.lit (.string [115, 117, 98, 117, 114, 98]), .lit (.int .i64 90), .lit (.int .i64 10000)], .agg [.lit (.string [116, 111, 119, 110]), .lit (.int .i64 160), .lit (.int .i64 16000)], .agg [.lit (.string [99, 105, 116, 121]), .lit (.int .i64 240), .lit (.int .i64 20000)]]

/-- 'laws.FnRain': WHATEVER THE INPUT: true; the input reads as it did. -/
def fnRainSpec : ChangeSpec := { name := "fnRain", vars := ["loop.example/g00925/impl.quantitySpans", "loop.example/g00925/impl.surroundings"], fn := fun _ => fun
  | [d1, d2, g1, g2] => { results := [.lit (.bool true)], args := [d1, d2], vars := [g1, g2] }
  | _ => none }
def fnRainRow : OpenClaim := { program := "ytednfkjdidlenaadoor", sum := "c21314b995b5b87492bb5ab8089add4bde1bb4b9ac9e8692487e1007eb1b50ab", func := "loop.example/g00925/laws.FnRain", spec := "fnRain", unfollowed := true, recurses := true, named := ["loop.example/g00925/impl.quantitySpans", "math/bits.divideError", "math/bits.overflowError", "loop.example/g00925/impl.surroundings"], apart := false, laid := [("loop.example/g00925/impl.quantitySpans", laid_loop_example_g00925_impl_quantitySpans), ("loop.example/g00925/impl.surroundings", laid_loop_example_g00925_impl_surroundings)] }
def FnRainSaid : Prop := fnRainRow.holds Tryd.pinned (OpenSpec.ofChange fnRainSpec)

/-- ITS FALSE NEIGHBOUR: 'it returns false'. Refute it at one input. -/
def fnRainWrong : ChangeSpec := { name := "fnRain", vars := ["loop.example/g00925/impl.quantitySpans", "loop.example/g00925/impl.surroundings"], fn := fun _ => fun
  | [d1, d2, g1, g2] => { results := [.lit (.bool false)], args := [d1, d2], vars := [g1, g2] }
  | _ => none }
def FnRainWrongFalsely : Prop := fnRainRow.holds Tryd.pinned (OpenSpec.ofChange fnRainWrong)

/- THE SECOND FORM. 'bulk': how many values and letters a reading holds, each counted each time it is reached (what is shared counts as often as it is met; a slice's spare places count too). A statement '..UptoSaid' is the law's where the arguments, and the package variables that the reading takes, are together of bulk at most 1048576: NARROWER than '..Said'. Prove '..Said' where nothing that the law and all that it calls make is longer than what came in: it says more and counts as full. Else prove '..UptoSaid'. A law counts once. -/
mutual
def uptoBulk {H : Type} : DataW H → Nat
  | .lit (.string bytes) => bytes.length + 1
  | .lit _ => 1
  | .nil => 1
  | .ptr d => uptoBulk d + 1
  | .slice elems spare => uptoBulkAll elems + uptoBulkAll spare + 1
  | .agg parts => uptoBulkAll parts + 1
  | .iface _ d => uptoBulk d + 1
  | .map entries => uptoBulkEntries entries + 1
  | .held _ => 1
def uptoBulkAll {H : Type} : List (DataW H) → Nat
  | [] => 0
  | d :: r => uptoBulk d + uptoBulkAll r
def uptoBulkEntries {H : Type} : List (Lit × DataW H) → Nat
  | [] => 0
  | x :: r => uptoBulkEntry x + uptoBulkEntries r
def uptoBulkEntry {H : Type} : Lit × DataW H → Nat
  | (.string bytes, d) => bytes.length + uptoBulk d + 1
  | (_, d) => uptoBulk d + 1
 end
def uptoSmall : (H : Type) → List (DataW H) → Bool := fun _ ds => decide (uptoBulkAll ds ≤ 1048576)
def OpenSpec.upto (s : _root_.Go.ChangeSpec) : _root_.Go.OpenSpec := { _root_.Go.OpenSpec.ofChange s with cond := some uptoSmall }

/-- 'laws.FnRain', WHERE WHAT IT READS IS OF BULK AT MOST 1048576: true; the input reads as it did. -/
def fnRainUptoRow : OpenClaim := { program := "ytednfkjdidlenaadoor", sum := "c21314b995b5b87492bb5ab8089add4bde1bb4b9ac9e8692487e1007eb1b50ab", func := "loop.example/g00925/laws.FnRain", spec := "fnRain", unfollowed := true, recurses := true, named := ["loop.example/g00925/impl.quantitySpans", "math/bits.divideError", "math/bits.overflowError", "loop.example/g00925/impl.surroundings"], apart := false, laid := [("loop.example/g00925/impl.quantitySpans", laid_loop_example_g00925_impl_quantitySpans), ("loop.example/g00925/impl.surroundings", laid_loop_example_g00925_impl_surroundings)], narrowed := true }
def FnRainUptoSaid : Prop := fnRainUptoRow.holds Tryd.pinned (OpenSpec.upto fnRainSpec)

end Rows
end Go.Proofs.YtednfkjdidlenaaDoor
