/-
  No cell of these rows narrows 'for every input' (looked for: loops, veiled, ifaces, maps, wideKeys, modest, calm, conditions, laid).
  DERIVED. THE GIVEN ROWS OF THIS SEAT. 3 by the template 'for every input the law returns true; each argument reads behind the call as it read before'; 0 by the template 'total and deterministic' (their statements: YtadoaenmmemjdaaTotals.lean).
  GIVEN WITH THE SEED: the statements are not yours to turn. If you find one false, say at which input.
  Laid BY PROGRAM, IN A SANDBOX (cutbox-rows.mjs): the forced cells as the released guide's own fill.sh prints them over the translation b370ca852064a6b2… (all of the seat's roots in one cut). By AI agents, Wed Nov 11 2026. No macro, syntax, notation, axiom, sorry.
-/
import Derived.Test.YtadoaenmmemjdaaChecked
import GoSem.Claim
import GoSem.ClaimJoined
import GoSem.ClaimMapViews
import Derived.JoinedTies
import Derived.KernelRfl
namespace Go.Proofs.Ytadoaenmmemjdaa
/- THE CELL 'sum', in the pinned program and in every row, IS THE sha256 OF THE DUMP (.gsa) THAT YtadoaenmmemjdaaProg.lean LOADS. Nothing in Lean hashes anything: it is a label: what it is worth is what the hold of that sum in a sandbox is worth. -/
noncomputable def Try.pinned : Pinned := { name := "ytadoaenmmemjdaa", sum := "b370ca852064a6b2a09e092847bbafbcf1a5779fb7150e41e57d7f89de2b3dfc", checked := Try.checked }
namespace Rows
def none {H : Type} : Left H := { results := [], args := [] }

/-- 'laws.FnExactProfilePlaces': WHATEVER THE INPUT: true; the input reads as it did. -/
def fnExactProfilePlacesSpec : ChangeSpec := { name := "fnExactProfilePlaces", fn := fun _ => fun
  | [d1, d2, d3] => { results := [.lit (.bool true)], args := [d1, d2, d3] }
  | _ => none }
def fnExactProfilePlacesRow : OpenClaim := { program := "ytadoaenmmemjdaa", sum := "b370ca852064a6b2a09e092847bbafbcf1a5779fb7150e41e57d7f89de2b3dfc", func := "loop.example/g00925/laws.FnExactProfilePlaces", spec := "fnExactProfilePlaces", apart := false }
def FnExactProfilePlacesSaid : Prop := fnExactProfilePlacesRow.holds Try.pinned (OpenSpec.ofChange fnExactProfilePlacesSpec)

/-- ITS FALSE NEIGHBOUR: 'it returns false'. Refute it at one input. -/
def fnExactProfilePlacesWrong : ChangeSpec := { name := "fnExactProfilePlaces", fn := fun _ => fun
  | [d1, d2, d3] => { results := [.lit (.bool false)], args := [d1, d2, d3] }
  | _ => none }
def FnExactProfilePlacesWrongFalsely : Prop := fnExactProfilePlacesRow.holds Try.pinned (OpenSpec.ofChange fnExactProfilePlacesWrong)

/-- 'laws.FnExactProfileOf': WHATEVER THE INPUT: true; the input reads as it did. -/
def fnExactProfileOfSpec : ChangeSpec := { name := "fnExactProfileOf", fn := fun _ => fun
  | [d1, d2, d3, d4] => { results := [.lit (.bool true)], args := [d1, d2, d3, d4] }
  | _ => none }
def fnExactProfileOfRow : OpenClaim := { program := "ytadoaenmmemjdaa", sum := "b370ca852064a6b2a09e092847bbafbcf1a5779fb7150e41e57d7f89de2b3dfc", func := "loop.example/g00925/laws.FnExactProfileOf", spec := "fnExactProfileOf", unfollowed := true, recurses := true, apart := false }
def FnExactProfileOfSaid : Prop := fnExactProfileOfRow.holds Try.pinned (OpenSpec.ofChange fnExactProfileOfSpec)

/-- ITS FALSE NEIGHBOUR: 'it returns false'. Refute it at one input. -/
def fnExactProfileOfWrong : ChangeSpec := { name := "fnExactProfileOf", fn := fun _ => fun
  | [d1, d2, d3, d4] => { results := [.lit (.bool false)], args := [d1, d2, d3, d4] }
  | _ => none }
def FnExactProfileOfWrongFalsely : Prop := fnExactProfileOfRow.holds Try.pinned (OpenSpec.ofChange fnExactProfileOfWrong)

/-- 'laws.FnExactProfileClutter': WHATEVER THE INPUT: true; the input reads as it did. -/
def fnExactProfileClutterSpec : ChangeSpec := { name := "fnExactProfileClutter", fn := fun _ => fun
  | [d1, d2, d3, d4] => { results := [.lit (.bool true)], args := [d1, d2, d3, d4] }
  | _ => none }
def fnExactProfileClutterRow : OpenClaim := { program := "ytadoaenmmemjdaa", sum := "b370ca852064a6b2a09e092847bbafbcf1a5779fb7150e41e57d7f89de2b3dfc", func := "loop.example/g00925/laws.FnExactProfileClutter", spec := "fnExactProfileClutter", unfollowed := true, recurses := true, apart := false }
def FnExactProfileClutterSaid : Prop := fnExactProfileClutterRow.holds Try.pinned (OpenSpec.ofChange fnExactProfileClutterSpec)

/-- ITS FALSE NEIGHBOUR: 'it returns false'. Refute it at one input. -/
def fnExactProfileClutterWrong : ChangeSpec := { name := "fnExactProfileClutter", fn := fun _ => fun
  | [d1, d2, d3, d4] => { results := [.lit (.bool false)], args := [d1, d2, d3, d4] }
  | _ => none }
def FnExactProfileClutterWrongFalsely : Prop := fnExactProfileClutterRow.holds Try.pinned (OpenSpec.ofChange fnExactProfileClutterWrong)

/- THE SECOND FORM. 'bulk': how many values and letters a reading holds, each counted each time it is reached (what is shared counts as often as it is met; a slice's spare places count too). A statement '..UptoSaid' is the law's where the arguments, and the package variables that the reading takes, are together of bulk at most 1048576: NARROWER than '..Said'. Prove '..Said' where nothing that the law and all that it calls make is longer than what came in: it says more and counts as full. Else prove '..UptoSaid'. A law counts once. -/
mutual
def uptoBulk {H : Type} : DataW H → Nat
  | .lit (.string bytes) => bytes.length + 1
  | .lit _ => 1
  | .nil => 1
  | .ptr d => uptoBulk d + 1
  | .slice elems spare => uptoBulkAll elems + uptoBulkAll spare + 1
  | .agg parts => uptoBulkAll parts + 1
  | .iface _ d => uptoBulk d + 1
  | .map entries => uptoBulkEntries entries + 1
  | .held _ => 1
def uptoBulkAll {H : Type} : List (DataW H) → Nat
  | [] => 0
  | d :: r => uptoBulk d + uptoBulkAll r
def uptoBulkEntries {H : Type} : List (Lit × DataW H) → Nat
  | [] => 0
  | x :: r => uptoBulkEntry x + uptoBulkEntries r
def uptoBulkEntry {H : Type} : Lit × DataW H → Nat
  | (.string bytes, d) => bytes.length + uptoBulk d + 1
  | (_, d) => uptoBulk d + 1
 end
def uptoSmall : (H : Type) → List (DataW H) → Bool := fun _ ds => decide (uptoBulkAll ds ≤ 1048576)
def OpenSpec.upto (s : _root_.Go.ChangeSpec) : _root_.Go.OpenSpec := { _root_.Go.OpenSpec.ofChange s with cond := some uptoSmall }

/-- 'laws.FnExactProfilePlaces', WHERE WHAT IT READS IS OF BULK AT MOST 1048576: true; the input reads as it did. -/
def fnExactProfilePlacesUptoRow : OpenClaim := { program := "ytadoaenmmemjdaa", sum := "b370ca852064a6b2a09e092847bbafbcf1a5779fb7150e41e57d7f89de2b3dfc", func := "loop.example/g00925/laws.FnExactProfilePlaces", spec := "fnExactProfilePlaces", apart := false, narrowed := true }
def FnExactProfilePlacesUptoSaid : Prop := fnExactProfilePlacesUptoRow.holds Try.pinned (OpenSpec.upto fnExactProfilePlacesSpec)

/-- 'laws.FnExactProfileOf', WHERE WHAT IT READS IS OF BULK AT MOST 1048576: true; the input reads as it did. -/
def fnExactProfileOfUptoRow : OpenClaim := { program := "ytadoaenmmemjdaa", sum := "b370ca852064a6b2a09e092847bbafbcf1a5779fb7150e41e57d7f89de2b3dfc", func := "loop.example/g00925/laws.FnExactProfileOf", spec := "fnExactProfileOf", unfollowed := true, recurses := true, apart := false, narrowed := true }
def FnExactProfileOfUptoSaid : Prop := fnExactProfileOfUptoRow.holds Try.pinned (OpenSpec.upto fnExactProfileOfSpec)

/-- 'laws.FnExactProfileClutter', WHERE WHAT IT READS IS OF BULK AT MOST 1048576: true; the input reads as it did. -/
def fnExactProfileClutterUptoRow : OpenClaim := { program := "ytadoaenmmemjdaa", sum := "b370ca852064a6b2a09e092847bbafbcf1a5779fb7150e41e57d7f89de2b3dfc", func := "loop.example/g00925/laws.FnExactProfileClutter", spec := "fnExactProfileClutter", unfollowed := true, recurses := true, apart := false, narrowed := true }
def FnExactProfileClutterUptoSaid : Prop := fnExactProfileClutterUptoRow.holds Try.pinned (OpenSpec.upto fnExactProfileClutterSpec)

end Rows
end Go.Proofs.Ytadoaenmmemjdaa
