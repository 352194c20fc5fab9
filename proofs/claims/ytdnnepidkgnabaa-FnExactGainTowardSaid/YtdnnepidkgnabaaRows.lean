/-
  No cell of these rows narrows 'for every input' (looked for: loops, veiled, ifaces, maps, wideKeys, modest, calm, conditions, laid).
  DERIVED. THE GIVEN ROWS OF THIS SEAT. 3 by the template 'for every input the law returns true; each argument reads behind the call as it read before'; 0 by the template 'total and deterministic' (their statements: YtdnnepidkgnabaaTotals.lean).
  GIVEN WITH THE SEED: the statements are not yours to turn. If you find one false, say at which input.
  Laid BY PROGRAM, IN A SANDBOX (cutbox-rows.mjs): the forced cells as the released guide's own fill.sh prints them over the translation bff0d645a9fbe3ee… (all of the seat's roots in one cut). By AI agents, Wed Nov 11 2026. No macro, syntax, notation, axiom, sorry.
-/
import Derived.Test.YtdnnepidkgnabaaChecked
import GoSem.Claim
import GoSem.ClaimJoined
import GoSem.ClaimMapViews
import Derived.JoinedTies
import Derived.KernelRfl
namespace Go.Proofs.Ytdnnepidkgnabaa
/- THE CELL 'sum', in the pinned program and in every row, IS THE sha256 OF THE DUMP (.gsa) THAT YtdnnepidkgnabaaProg.lean LOADS. Nothing in Lean hashes anything: it is a label: what it is worth is what the hold of that sum in a sandbox is worth. -/
noncomputable def Try.pinned : Pinned := { name := "ytdnnepidkgnabaa", sum := "bff0d645a9fbe3eeb1c666b31816d33777d191817a25004adbb640f00a7ea423", checked := Try.checked }
namespace Rows
def none {H : Type} : Left H := { results := [], args := [] }

/-- 'laws.FnExactEdgeLoss': WHATEVER THE INPUT: true; the input reads as it did. -/
def fnExactEdgeLossSpec : ChangeSpec := { name := "fnExactEdgeLoss", fn := fun _ => fun
  | [d] => { results := [.lit (.bool true)], args := [d] }
  | _ => none }
def fnExactEdgeLossRow : OpenClaim := { program := "ytdnnepidkgnabaa", sum := "bff0d645a9fbe3eeb1c666b31816d33777d191817a25004adbb640f00a7ea423", func := "loop.example/g00925/laws.FnExactEdgeLoss", spec := "fnExactEdgeLoss", named := ["math/bits.divideError", "math/bits.overflowError"], apart := false }
def FnExactEdgeLossSaid : Prop := fnExactEdgeLossRow.holds Try.pinned (OpenSpec.ofChange fnExactEdgeLossSpec)

/-- ITS FALSE NEIGHBOUR: 'it returns false'. Refute it at one input. -/
def fnExactEdgeLossWrong : ChangeSpec := { name := "fnExactEdgeLoss", fn := fun _ => fun
  | [d] => { results := [.lit (.bool false)], args := [d] }
  | _ => none }
def FnExactEdgeLossWrongFalsely : Prop := fnExactEdgeLossRow.holds Try.pinned (OpenSpec.ofChange fnExactEdgeLossWrong)

/-- 'laws.FnExactNuAt': WHATEVER THE INPUT: true; the input reads as it did. -/
def fnExactNuAtSpec : ChangeSpec := { name := "fnExactNuAt", fn := fun _ => fun
  | [d1, d2, d3] => { results := [.lit (.bool true)], args := [d1, d2, d3] }
  | _ => none }
def fnExactNuAtRow : OpenClaim := { program := "ytdnnepidkgnabaa", sum := "bff0d645a9fbe3eeb1c666b31816d33777d191817a25004adbb640f00a7ea423", func := "loop.example/g00925/laws.FnExactNuAt", spec := "fnExactNuAt", apart := false }
def FnExactNuAtSaid : Prop := fnExactNuAtRow.holds Try.pinned (OpenSpec.ofChange fnExactNuAtSpec)

/-- ITS FALSE NEIGHBOUR: 'it returns false'. Refute it at one input. -/
def fnExactNuAtWrong : ChangeSpec := { name := "fnExactNuAt", fn := fun _ => fun
  | [d1, d2, d3] => { results := [.lit (.bool false)], args := [d1, d2, d3] }
  | _ => none }
def FnExactNuAtWrongFalsely : Prop := fnExactNuAtRow.holds Try.pinned (OpenSpec.ofChange fnExactNuAtWrong)

/-- 'laws.FnExactGainToward': WHATEVER THE INPUT: true; the input reads as it did. -/
def fnExactGainTowardSpec : ChangeSpec := { name := "fnExactGainToward", fn := fun _ => fun
  | [d1, d2, d3, d4, d5] => { results := [.lit (.bool true)], args := [d1, d2, d3, d4, d5] }
  | _ => none }
def fnExactGainTowardRow : OpenClaim := { program := "ytdnnepidkgnabaa", sum := "bff0d645a9fbe3eeb1c666b31816d33777d191817a25004adbb640f00a7ea423", func := "loop.example/g00925/laws.FnExactGainToward", spec := "fnExactGainToward", apart := false }
def FnExactGainTowardSaid : Prop := fnExactGainTowardRow.holds Try.pinned (OpenSpec.ofChange fnExactGainTowardSpec)

/-- ITS FALSE NEIGHBOUR: 'it returns false'. Refute it at one input. -/
def fnExactGainTowardWrong : ChangeSpec := { name := "fnExactGainToward", fn := fun _ => fun
  | [d1, d2, d3, d4, d5] => { results := [.lit (.bool false)], args := [d1, d2, d3, d4, d5] }
  | _ => none }
def FnExactGainTowardWrongFalsely : Prop := fnExactGainTowardRow.holds Try.pinned (OpenSpec.ofChange fnExactGainTowardWrong)

/- THE SECOND FORM. 'bulk': how many values and letters a reading holds, each counted each time it is reached (what is shared counts as often as it is met; a slice's spare places count too). A statement '..UptoSaid' is the law's where the arguments, and the package variables that the reading takes, are together of bulk at most 1048576: NARROWER than '..Said'. Prove '..Said' where nothing that the law and all that it calls make is longer than what came in: it says more and counts as full. Else prove '..UptoSaid'. A law counts once. -/
mutual
def uptoBulk {H : Type} : DataW H → Nat
  | .lit (.string bytes) => bytes.length + 1
  | .lit _ => 1
  | .nil => 1
  | .ptr d => uptoBulk d + 1
  | .slice elems spare => uptoBulkAll elems + uptoBulkAll spare + 1
  | .agg parts => uptoBulkAll parts + 1
  | .iface _ d => uptoBulk d + 1
  | .map entries => uptoBulkEntries entries + 1
  | .held _ => 1
def uptoBulkAll {H : Type} : List (DataW H) → Nat
  | [] => 0
  | d :: r => uptoBulk d + uptoBulkAll r
def uptoBulkEntries {H : Type} : List (Lit × DataW H) → Nat
  | [] => 0
  | x :: r => uptoBulkEntry x + uptoBulkEntries r
def uptoBulkEntry {H : Type} : Lit × DataW H → Nat
  | (.string bytes, d) => bytes.length + uptoBulk d + 1
  | (_, d) => uptoBulk d + 1
 end
def uptoSmall : (H : Type) → List (DataW H) → Bool := fun _ ds => decide (uptoBulkAll ds ≤ 1048576)
def OpenSpec.upto (s : _root_.Go.ChangeSpec) : _root_.Go.OpenSpec := { _root_.Go.OpenSpec.ofChange s with cond := some uptoSmall }

/-- 'laws.FnExactEdgeLoss', WHERE WHAT IT READS IS OF BULK AT MOST 1048576: true; the input reads as it did. -/
def fnExactEdgeLossUptoRow : OpenClaim := { program := "ytdnnepidkgnabaa", sum := "bff0d645a9fbe3eeb1c666b31816d33777d191817a25004adbb640f00a7ea423", func := "loop.example/g00925/laws.FnExactEdgeLoss", spec := "fnExactEdgeLoss", named := ["math/bits.divideError", "math/bits.overflowError"], apart := false, narrowed := true }
def FnExactEdgeLossUptoSaid : Prop := fnExactEdgeLossUptoRow.holds Try.pinned (OpenSpec.upto fnExactEdgeLossSpec)

/-- 'laws.FnExactNuAt', WHERE WHAT IT READS IS OF BULK AT MOST 1048576: true; the input reads as it did. -/
def fnExactNuAtUptoRow : OpenClaim := { program := "ytdnnepidkgnabaa", sum := "bff0d645a9fbe3eeb1c666b31816d33777d191817a25004adbb640f00a7ea423", func := "loop.example/g00925/laws.FnExactNuAt", spec := "fnExactNuAt", apart := false, narrowed := true }
def FnExactNuAtUptoSaid : Prop := fnExactNuAtUptoRow.holds Try.pinned (OpenSpec.upto fnExactNuAtSpec)

/-- 'laws.FnExactGainToward', WHERE WHAT IT READS IS OF BULK AT MOST 1048576: true; the input reads as it did. -/
def fnExactGainTowardUptoRow : OpenClaim := { program := "ytdnnepidkgnabaa", sum := "bff0d645a9fbe3eeb1c666b31816d33777d191817a25004adbb640f00a7ea423", func := "loop.example/g00925/laws.FnExactGainToward", spec := "fnExactGainToward", apart := false, narrowed := true }
def FnExactGainTowardUptoSaid : Prop := fnExactGainTowardUptoRow.holds Try.pinned (OpenSpec.upto fnExactGainTowardSpec)

end Rows
end Go.Proofs.Ytdnnepidkgnabaa
