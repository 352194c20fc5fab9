/-
  No cell of these rows narrows 'for every input' (looked for: loops, veiled, ifaces, maps, wideKeys, modest, calm, conditions, laid).
  DERIVED. THE GIVEN ROWS OF THIS SEAT. 5 by the template 'for every input the law returns true; each argument reads behind the call as it read before'; 0 by the template 'total and deterministic' (their statements: YtpnmodmaabhldaaTotals.lean).
  GIVEN WITH THE SEED: the statements are not yours to turn. If you find one false, say at which input.
  Laid BY PROGRAM, IN A SANDBOX (cutbox-rows.mjs): the forced cells as the released guide's own fill.sh prints them over the translation 81d0818a7b484566… (all of the seat's roots in one cut). By AI agents, Wed Nov 11 2026. No macro, syntax, notation, axiom, sorry.
-/
import Derived.Test.YtpnmodmaabhldaaChecked
import GoSem.Claim
import GoSem.ClaimJoined
import GoSem.ClaimMapViews
import Derived.JoinedTies
import Derived.KernelRfl
namespace Go.Proofs.Ytpnmodmaabhldaa
/- THE CELL 'sum', in the pinned program and in every row, IS THE sha256 OF THE DUMP (.gsa) THAT YtpnmodmaabhldaaProg.lean LOADS. Nothing in Lean hashes anything: it is a label: what it is worth is what the hold of that sum in a sandbox is worth. -/
noncomputable def Try.pinned : Pinned := { name := "ytpnmodmaabhldaa", sum := "81d0818a7b484566c3e011e53f36f3a0322a7a81c5153e454e8c610697a4b0d7", checked := Try.checked }
namespace Rows
def none {H : Type} : Left H := { results := [], args := [] }

/-- 'laws.FnExactValidNetwork': WHATEVER THE INPUT: true; the input reads as it did. -/
def fnExactValidNetworkSpec : ChangeSpec := { name := "fnExactValidNetwork", fn := fun _ => fun
  | [d] => { results := [.lit (.bool true)], args := [d] }
  | _ => none }
def fnExactValidNetworkRow : OpenClaim := { program := "ytpnmodmaabhldaa", sum := "81d0818a7b484566c3e011e53f36f3a0322a7a81c5153e454e8c610697a4b0d7", func := "loop.example/g00925/laws.FnExactValidNetwork", spec := "fnExactValidNetwork", unfollowed := true, recurses := true, apart := false }
def FnExactValidNetworkSaid : Prop := fnExactValidNetworkRow.holds Try.pinned (OpenSpec.ofChange fnExactValidNetworkSpec)

/-- ITS FALSE NEIGHBOUR: 'it returns false'. Refute it at one input. -/
def fnExactValidNetworkWrong : ChangeSpec := { name := "fnExactValidNetwork", fn := fun _ => fun
  | [d] => { results := [.lit (.bool false)], args := [d] }
  | _ => none }
def FnExactValidNetworkWrongFalsely : Prop := fnExactValidNetworkRow.holds Try.pinned (OpenSpec.ofChange fnExactValidNetworkWrong)

/-- 'laws.FnExactSameNetwork': WHATEVER THE INPUT: true; the input reads as it did. -/
def fnExactSameNetworkSpec : ChangeSpec := { name := "fnExactSameNetwork", fn := fun _ => fun
  | [d1, d2] => { results := [.lit (.bool true)], args := [d1, d2] }
  | _ => none }
def fnExactSameNetworkRow : OpenClaim := { program := "ytpnmodmaabhldaa", sum := "81d0818a7b484566c3e011e53f36f3a0322a7a81c5153e454e8c610697a4b0d7", func := "loop.example/g00925/laws.FnExactSameNetwork", spec := "fnExactSameNetwork", unfollowed := true, recurses := true, apart := false }
def FnExactSameNetworkSaid : Prop := fnExactSameNetworkRow.holds Try.pinned (OpenSpec.ofChange fnExactSameNetworkSpec)

/-- ITS FALSE NEIGHBOUR: 'it returns false'. Refute it at one input. -/
def fnExactSameNetworkWrong : ChangeSpec := { name := "fnExactSameNetwork", fn := fun _ => fun
  | [d1, d2] => { results := [.lit (.bool false)], args := [d1, d2] }
  | _ => none }
def FnExactSameNetworkWrongFalsely : Prop := fnExactSameNetworkRow.holds Try.pinned (OpenSpec.ofChange fnExactSameNetworkWrong)

/-- 'laws.FnExactSiteNamed': WHATEVER THE INPUT: true; the input reads as it did. -/
def fnExactSiteNamedSpec : ChangeSpec := { name := "fnExactSiteNamed", fn := fun _ => fun
  | [d1, d2] => { results := [.lit (.bool true)], args := [d1, d2] }
  | _ => none }
def fnExactSiteNamedRow : OpenClaim := { program := "ytpnmodmaabhldaa", sum := "81d0818a7b484566c3e011e53f36f3a0322a7a81c5153e454e8c610697a4b0d7", func := "loop.example/g00925/laws.FnExactSiteNamed", spec := "fnExactSiteNamed", inPlace := ["internal/bytealg.abigen_runtime_cmpstring"], unfollowed := true, recurses := true, apart := false }
def FnExactSiteNamedSaid : Prop := fnExactSiteNamedRow.holds Try.pinned (OpenSpec.ofChange fnExactSiteNamedSpec)

/-- ITS FALSE NEIGHBOUR: 'it returns false'. Refute it at one input. -/
def fnExactSiteNamedWrong : ChangeSpec := { name := "fnExactSiteNamed", fn := fun _ => fun
  | [d1, d2] => { results := [.lit (.bool false)], args := [d1, d2] }
  | _ => none }
def FnExactSiteNamedWrongFalsely : Prop := fnExactSiteNamedRow.holds Try.pinned (OpenSpec.ofChange fnExactSiteNamedWrong)

/-- 'laws.FnExactSectorNamed': WHATEVER THE INPUT: true; the input reads as it did. -/
def fnExactSectorNamedSpec : ChangeSpec := { name := "fnExactSectorNamed", fn := fun _ => fun
  | [d1, d2] => { results := [.lit (.bool true)], args := [d1, d2] }
  | _ => none }
def fnExactSectorNamedRow : OpenClaim := { program := "ytpnmodmaabhldaa", sum := "81d0818a7b484566c3e011e53f36f3a0322a7a81c5153e454e8c610697a4b0d7", func := "loop.example/g00925/laws.FnExactSectorNamed", spec := "fnExactSectorNamed", inPlace := ["internal/bytealg.abigen_runtime_cmpstring"], unfollowed := true, recurses := true, apart := false }
def FnExactSectorNamedSaid : Prop := fnExactSectorNamedRow.holds Try.pinned (OpenSpec.ofChange fnExactSectorNamedSpec)

/-- ITS FALSE NEIGHBOUR: 'it returns false'. Refute it at one input. -/
def fnExactSectorNamedWrong : ChangeSpec := { name := "fnExactSectorNamed", fn := fun _ => fun
  | [d1, d2] => { results := [.lit (.bool false)], args := [d1, d2] }
  | _ => none }
def FnExactSectorNamedWrongFalsely : Prop := fnExactSectorNamedRow.holds Try.pinned (OpenSpec.ofChange fnExactSectorNamedWrong)

/-- 'laws.FnExactChannelsOf': WHATEVER THE INPUT: true; the input reads as it did. -/
def fnExactChannelsOfSpec : ChangeSpec := { name := "fnExactChannelsOf", fn := fun _ => fun
  | [d] => { results := [.lit (.bool true)], args := [d] }
  | _ => none }
def fnExactChannelsOfRow : OpenClaim := { program := "ytpnmodmaabhldaa", sum := "81d0818a7b484566c3e011e53f36f3a0322a7a81c5153e454e8c610697a4b0d7", func := "loop.example/g00925/laws.FnExactChannelsOf", spec := "fnExactChannelsOf", unfollowed := true, recurses := true, apart := false }
def FnExactChannelsOfSaid : Prop := fnExactChannelsOfRow.holds Try.pinned (OpenSpec.ofChange fnExactChannelsOfSpec)

/-- ITS FALSE NEIGHBOUR: 'it returns false'. Refute it at one input. -/
def fnExactChannelsOfWrong : ChangeSpec := { name := "fnExactChannelsOf", fn := fun _ => fun
  | [d] => { results := [.lit (.bool false)], args := [d] }
  | _ => none }
def FnExactChannelsOfWrongFalsely : Prop := fnExactChannelsOfRow.holds Try.pinned (OpenSpec.ofChange fnExactChannelsOfWrong)

/- THE SECOND FORM. 'bulk': how many values and letters a reading holds, each counted each time it is reached (what is shared counts as often as it is met; a slice's spare places count too). A statement '..UptoSaid' is the law's where the arguments, and the package variables that the reading takes, are together of bulk at most 1048576: NARROWER than '..Said'. Prove '..Said' where nothing that the law and all that it calls make is longer than what came in: it says more and counts as full. Else prove '..UptoSaid'. A law counts once. -/
mutual
def uptoBulk {H : Type} : DataW H → Nat
  | .lit (.string bytes) => bytes.length + 1
  | .lit _ => 1
  | .nil => 1
  | .ptr d => uptoBulk d + 1
  | .slice elems spare => uptoBulkAll elems + uptoBulkAll spare + 1
  | .agg parts => uptoBulkAll parts + 1
  | .iface _ d => uptoBulk d + 1
  | .map entries => uptoBulkEntries entries + 1
  | .held _ => 1
def uptoBulkAll {H : Type} : List (DataW H) → Nat
  | [] => 0
  | d :: r => uptoBulk d + uptoBulkAll r
def uptoBulkEntries {H : Type} : List (Lit × DataW H) → Nat
  | [] => 0
  | x :: r => uptoBulkEntry x + uptoBulkEntries r
def uptoBulkEntry {H : Type} : Lit × DataW H → Nat
  | (.string bytes, d) => bytes.length + uptoBulk d + 1
  | (_, d) => uptoBulk d + 1
 end
def uptoSmall : (H : Type) → List (DataW H) → Bool := fun _ ds => decide (uptoBulkAll ds ≤ 1048576)
def OpenSpec.upto (s : _root_.Go.ChangeSpec) : _root_.Go.OpenSpec := { _root_.Go.OpenSpec.ofChange s with cond := some uptoSmall }

/-- 'laws.FnExactValidNetwork', WHERE WHAT IT READS IS OF BULK AT MOST 1048576: true; the input reads as it did. -/
def fnExactValidNetworkUptoRow : OpenClaim := { program := "ytpnmodmaabhldaa", sum := "81d0818a7b484566c3e011e53f36f3a0322a7a81c5153e454e8c610697a4b0d7", func := "loop.example/g00925/laws.FnExactValidNetwork", spec := "fnExactValidNetwork", unfollowed := true, recurses := true, apart := false, narrowed := true }
def FnExactValidNetworkUptoSaid : Prop := fnExactValidNetworkUptoRow.holds Try.pinned (OpenSpec.upto fnExactValidNetworkSpec)

/-- 'laws.FnExactSameNetwork', WHERE WHAT IT READS IS OF BULK AT MOST 1048576: true; the input reads as it did. -/
def fnExactSameNetworkUptoRow : OpenClaim := { program := "ytpnmodmaabhldaa", sum := "81d0818a7b484566c3e011e53f36f3a0322a7a81c5153e454e8c610697a4b0d7", func := "loop.example/g00925/laws.FnExactSameNetwork", spec := "fnExactSameNetwork", unfollowed := true, recurses := true, apart := false, narrowed := true }
def FnExactSameNetworkUptoSaid : Prop := fnExactSameNetworkUptoRow.holds Try.pinned (OpenSpec.upto fnExactSameNetworkSpec)

/-- 'laws.FnExactSiteNamed', WHERE WHAT IT READS IS OF BULK AT MOST 1048576: true; the input reads as it did. -/
def fnExactSiteNamedUptoRow : OpenClaim := { program := "ytpnmodmaabhldaa", sum := "81d0818a7b484566c3e011e53f36f3a0322a7a81c5153e454e8c610697a4b0d7", func := "loop.example/g00925/laws.FnExactSiteNamed", spec := "fnExactSiteNamed", inPlace := ["internal/bytealg.abigen_runtime_cmpstring"], unfollowed := true, recurses := true, apart := false, narrowed := true }
def FnExactSiteNamedUptoSaid : Prop := fnExactSiteNamedUptoRow.holds Try.pinned (OpenSpec.upto fnExactSiteNamedSpec)

/-- 'laws.FnExactSectorNamed', WHERE WHAT IT READS IS OF BULK AT MOST 1048576: true; the input reads as it did. -/
def fnExactSectorNamedUptoRow : OpenClaim := { program := "ytpnmodmaabhldaa", sum := "81d0818a7b484566c3e011e53f36f3a0322a7a81c5153e454e8c610697a4b0d7", func := "loop.example/g00925/laws.FnExactSectorNamed", spec := "fnExactSectorNamed", inPlace := ["internal/bytealg.abigen_runtime_cmpstring"], unfollowed := true, recurses := true, apart := false, narrowed := true }
def FnExactSectorNamedUptoSaid : Prop := fnExactSectorNamedUptoRow.holds Try.pinned (OpenSpec.upto fnExactSectorNamedSpec)

/-- 'laws.FnExactChannelsOf', WHERE WHAT IT READS IS OF BULK AT MOST 1048576: true; the input reads as it did. -/
def fnExactChannelsOfUptoRow : OpenClaim := { program := "ytpnmodmaabhldaa", sum := "81d0818a7b484566c3e011e53f36f3a0322a7a81c5153e454e8c610697a4b0d7", func := "loop.example/g00925/laws.FnExactChannelsOf", spec := "fnExactChannelsOf", unfollowed := true, recurses := true, apart := false, narrowed := true }
def FnExactChannelsOfUptoSaid : Prop := fnExactChannelsOfUptoRow.holds Try.pinned (OpenSpec.upto fnExactChannelsOfSpec)

end Rows
end Go.Proofs.Ytpnmodmaabhldaa
