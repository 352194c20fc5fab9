/-
  No cell of these rows narrows 'for every input' (looked for: loops, veiled, ifaces, maps, wideKeys, modest, calm, conditions, laid).
  DERIVED. THE GIVEN ROWS OF THIS SEAT. 8 by the template 'for every input the law returns true; each argument reads behind the call as it read before'; 0 by the template 'total and deterministic' (their statements: YtcdmijldkmmgmabTotals.lean).
  GIVEN WITH THE SEED: the statements are not yours to turn. If you find one false, say at which input.
  Laid BY PROGRAM, IN A SANDBOX (cutbox-rows.mjs): the forced cells as the released guide's own fill.sh prints them over the translation b79ff4c73592ac69… (all of the seat's roots in one cut). By AI agents, Wed Nov 11 2026. No macro, syntax, notation, axiom, sorry.
-/
import Derived.Test.YtcdmijldkmmgmabChecked
import GoSem.Claim
import GoSem.ClaimJoined
import GoSem.ClaimMapViews
import Derived.JoinedTies
import Derived.KernelRfl
namespace Go.Proofs.Ytcdmijldkmmgmab
/- THE CELL 'sum', in the pinned program and in every row, IS THE sha256 OF THE DUMP (.gsa) THAT YtcdmijldkmmgmabProg.lean LOADS. Nothing in Lean hashes anything: it is a label: what it is worth is what the hold of that sum in a sandbox is worth. -/
noncomputable def Try.pinned : Pinned := { name := "ytcdmijldkmmgmab", sum := "b79ff4c73592ac69956863353838187c45dad65ec5c5216d8547c8c1aeae337d", checked := Try.checked }
namespace Rows
def none {H : Type} : Left H := { results := [], args := [] }

/-- 'laws.FnExactValidTerrain': WHATEVER THE INPUT: true; the input reads as it did. -/
def fnExactValidTerrainSpec : ChangeSpec := { name := "fnExactValidTerrain", fn := fun _ => fun
  | [d] => { results := [.lit (.bool true)], args := [d] }
  | _ => none }
def fnExactValidTerrainRow : OpenClaim := { program := "ytcdmijldkmmgmab", sum := "b79ff4c73592ac69956863353838187c45dad65ec5c5216d8547c8c1aeae337d", func := "loop.example/g00925/laws.FnExactValidTerrain", spec := "fnExactValidTerrain", apart := false }
def FnExactValidTerrainSaid : Prop := fnExactValidTerrainRow.holds Try.pinned (OpenSpec.ofChange fnExactValidTerrainSpec)

/-- ITS FALSE NEIGHBOUR: 'it returns false'. Refute it at one input. -/
def fnExactValidTerrainWrong : ChangeSpec := { name := "fnExactValidTerrain", fn := fun _ => fun
  | [d] => { results := [.lit (.bool false)], args := [d] }
  | _ => none }
def FnExactValidTerrainWrongFalsely : Prop := fnExactValidTerrainRow.holds Try.pinned (OpenSpec.ofChange fnExactValidTerrainWrong)

/-- 'laws.FnExactInTerrain': WHATEVER THE INPUT: true; the input reads as it did. -/
def fnExactInTerrainSpec : ChangeSpec := { name := "fnExactInTerrain", fn := fun _ => fun
  | [d1, d2] => { results := [.lit (.bool true)], args := [d1, d2] }
  | _ => none }
def fnExactInTerrainRow : OpenClaim := { program := "ytcdmijldkmmgmab", sum := "b79ff4c73592ac69956863353838187c45dad65ec5c5216d8547c8c1aeae337d", func := "loop.example/g00925/laws.FnExactInTerrain", spec := "fnExactInTerrain", apart := false }
def FnExactInTerrainSaid : Prop := fnExactInTerrainRow.holds Try.pinned (OpenSpec.ofChange fnExactInTerrainSpec)

/-- ITS FALSE NEIGHBOUR: 'it returns false'. Refute it at one input. -/
def fnExactInTerrainWrong : ChangeSpec := { name := "fnExactInTerrain", fn := fun _ => fun
  | [d1, d2] => { results := [.lit (.bool false)], args := [d1, d2] }
  | _ => none }
def FnExactInTerrainWrongFalsely : Prop := fnExactInTerrainRow.holds Try.pinned (OpenSpec.ofChange fnExactInTerrainWrong)

/-- 'laws.FnExactHeightAt': WHATEVER THE INPUT: true; the input reads as it did. -/
def fnExactHeightAtSpec : ChangeSpec := { name := "fnExactHeightAt", fn := fun _ => fun
  | [d1, d2] => { results := [.lit (.bool true)], args := [d1, d2] }
  | _ => none }
def fnExactHeightAtRow : OpenClaim := { program := "ytcdmijldkmmgmab", sum := "b79ff4c73592ac69956863353838187c45dad65ec5c5216d8547c8c1aeae337d", func := "loop.example/g00925/laws.FnExactHeightAt", spec := "fnExactHeightAt", unfollowed := true, recurses := true, apart := false }
def FnExactHeightAtSaid : Prop := fnExactHeightAtRow.holds Try.pinned (OpenSpec.ofChange fnExactHeightAtSpec)

/-- ITS FALSE NEIGHBOUR: 'it returns false'. Refute it at one input. -/
def fnExactHeightAtWrong : ChangeSpec := { name := "fnExactHeightAt", fn := fun _ => fun
  | [d1, d2] => { results := [.lit (.bool false)], args := [d1, d2] }
  | _ => none }
def FnExactHeightAtWrongFalsely : Prop := fnExactHeightAtRow.holds Try.pinned (OpenSpec.ofChange fnExactHeightAtWrong)

/-- 'laws.FnExactClutterAt': WHATEVER THE INPUT: true; the input reads as it did. -/
def fnExactClutterAtSpec : ChangeSpec := { name := "fnExactClutterAt", fn := fun _ => fun
  | [d1, d2] => { results := [.lit (.bool true)], args := [d1, d2] }
  | _ => none }
def fnExactClutterAtRow : OpenClaim := { program := "ytcdmijldkmmgmab", sum := "b79ff4c73592ac69956863353838187c45dad65ec5c5216d8547c8c1aeae337d", func := "loop.example/g00925/laws.FnExactClutterAt", spec := "fnExactClutterAt", unfollowed := true, recurses := true, apart := false }
def FnExactClutterAtSaid : Prop := fnExactClutterAtRow.holds Try.pinned (OpenSpec.ofChange fnExactClutterAtSpec)

/-- ITS FALSE NEIGHBOUR: 'it returns false'. Refute it at one input. -/
def fnExactClutterAtWrong : ChangeSpec := { name := "fnExactClutterAt", fn := fun _ => fun
  | [d1, d2] => { results := [.lit (.bool false)], args := [d1, d2] }
  | _ => none }
def FnExactClutterAtWrongFalsely : Prop := fnExactClutterAtRow.holds Try.pinned (OpenSpec.ofChange fnExactClutterAtWrong)

/-- 'laws.FnExactSameTerrain': WHATEVER THE INPUT: true; the input reads as it did. -/
def fnExactSameTerrainSpec : ChangeSpec := { name := "fnExactSameTerrain", fn := fun _ => fun
  | [d1, d2] => { results := [.lit (.bool true)], args := [d1, d2] }
  | _ => none }
def fnExactSameTerrainRow : OpenClaim := { program := "ytcdmijldkmmgmab", sum := "b79ff4c73592ac69956863353838187c45dad65ec5c5216d8547c8c1aeae337d", func := "loop.example/g00925/laws.FnExactSameTerrain", spec := "fnExactSameTerrain", apart := false }
def FnExactSameTerrainSaid : Prop := fnExactSameTerrainRow.holds Try.pinned (OpenSpec.ofChange fnExactSameTerrainSpec)

/-- ITS FALSE NEIGHBOUR: 'it returns false'. Refute it at one input. -/
def fnExactSameTerrainWrong : ChangeSpec := { name := "fnExactSameTerrain", fn := fun _ => fun
  | [d1, d2] => { results := [.lit (.bool false)], args := [d1, d2] }
  | _ => none }
def FnExactSameTerrainWrongFalsely : Prop := fnExactSameTerrainRow.holds Try.pinned (OpenSpec.ofChange fnExactSameTerrainWrong)

/-- 'laws.FnExactNearestOf': WHATEVER THE INPUT: true; the input reads as it did. -/
def fnExactNearestOfSpec : ChangeSpec := { name := "fnExactNearestOf", fn := fun _ => fun
  | [d1, d2] => { results := [.lit (.bool true)], args := [d1, d2] }
  | _ => none }
def fnExactNearestOfRow : OpenClaim := { program := "ytcdmijldkmmgmab", sum := "b79ff4c73592ac69956863353838187c45dad65ec5c5216d8547c8c1aeae337d", func := "loop.example/g00925/laws.FnExactNearestOf", spec := "fnExactNearestOf", apart := false }
def FnExactNearestOfSaid : Prop := fnExactNearestOfRow.holds Try.pinned (OpenSpec.ofChange fnExactNearestOfSpec)

/-- ITS FALSE NEIGHBOUR: 'it returns false'. Refute it at one input. -/
def fnExactNearestOfWrong : ChangeSpec := { name := "fnExactNearestOf", fn := fun _ => fun
  | [d1, d2] => { results := [.lit (.bool false)], args := [d1, d2] }
  | _ => none }
def FnExactNearestOfWrongFalsely : Prop := fnExactNearestOfRow.holds Try.pinned (OpenSpec.ofChange fnExactNearestOfWrong)

/-- 'laws.FnExactFlatTerrain': WHATEVER THE INPUT: true; the input reads as it did. -/
def fnExactFlatTerrainSpec : ChangeSpec := { name := "fnExactFlatTerrain", fn := fun _ => fun
  | [d1, d2, d3, d4] => { results := [.lit (.bool true)], args := [d1, d2, d3, d4] }
  | _ => none }
def fnExactFlatTerrainRow : OpenClaim := { program := "ytcdmijldkmmgmab", sum := "b79ff4c73592ac69956863353838187c45dad65ec5c5216d8547c8c1aeae337d", func := "loop.example/g00925/laws.FnExactFlatTerrain", spec := "fnExactFlatTerrain", apart := false }
def FnExactFlatTerrainSaid : Prop := fnExactFlatTerrainRow.holds Try.pinned (OpenSpec.ofChange fnExactFlatTerrainSpec)

/-- ITS FALSE NEIGHBOUR: 'it returns false'. Refute it at one input. -/
def fnExactFlatTerrainWrong : ChangeSpec := { name := "fnExactFlatTerrain", fn := fun _ => fun
  | [d1, d2, d3, d4] => { results := [.lit (.bool false)], args := [d1, d2, d3, d4] }
  | _ => none }
def FnExactFlatTerrainWrongFalsely : Prop := fnExactFlatTerrainRow.holds Try.pinned (OpenSpec.ofChange fnExactFlatTerrainWrong)

/-- 'laws.FnExactProfilePlaces': WHATEVER THE INPUT: true; the input reads as it did. -/
def fnExactProfilePlacesSpec : ChangeSpec := { name := "fnExactProfilePlaces", fn := fun _ => fun
  | [d1, d2, d3] => { results := [.lit (.bool true)], args := [d1, d2, d3] }
  | _ => none }
def fnExactProfilePlacesRow : OpenClaim := { program := "ytcdmijldkmmgmab", sum := "b79ff4c73592ac69956863353838187c45dad65ec5c5216d8547c8c1aeae337d", func := "loop.example/g00925/laws.FnExactProfilePlaces", spec := "fnExactProfilePlaces", apart := false }
def FnExactProfilePlacesSaid : Prop := fnExactProfilePlacesRow.holds Try.pinned (OpenSpec.ofChange fnExactProfilePlacesSpec)

/-- ITS FALSE NEIGHBOUR: 'it returns false'. Refute it at one input. -/
def fnExactProfilePlacesWrong : ChangeSpec := { name := "fnExactProfilePlaces", fn := fun _ => fun
  | [d1, d2, d3] => { results := [.lit (.bool false)], args := [d1, d2, d3] }
  | _ => none }
def FnExactProfilePlacesWrongFalsely : Prop := fnExactProfilePlacesRow.holds Try.pinned (OpenSpec.ofChange fnExactProfilePlacesWrong)

/- THE SECOND FORM. 'bulk': how many values and letters a reading holds, each counted each time it is reached (what is shared counts as often as it is met; a slice's spare places count too). A statement '..UptoSaid' is the law's where the arguments, and the package variables that the reading takes, are together of bulk at most 1048576: NARROWER than '..Said'. Prove '..Said' where nothing that the law and all that it calls make is longer than what came in: it says more and counts as full. Else prove '..UptoSaid'. A law counts once. -/
mutual
def uptoBulk {H : Type} : DataW H → Nat
  | .lit (.string bytes) => bytes.length + 1
  | .lit _ => 1
  | .nil => 1
  | .ptr d => uptoBulk d + 1
  | .slice elems spare => uptoBulkAll elems + uptoBulkAll spare + 1
  | .agg parts => uptoBulkAll parts + 1
  | .iface _ d => uptoBulk d + 1
  | .map entries => uptoBulkEntries entries + 1
  | .held _ => 1
def uptoBulkAll {H : Type} : List (DataW H) → Nat
  | [] => 0
  | d :: r => uptoBulk d + uptoBulkAll r
def uptoBulkEntries {H : Type} : List (Lit × DataW H) → Nat
  | [] => 0
  | x :: r => uptoBulkEntry x + uptoBulkEntries r
def uptoBulkEntry {H : Type} : Lit × DataW H → Nat
  | (.string bytes, d) => bytes.length + uptoBulk d + 1
  | (_, d) => uptoBulk d + 1
 end
def uptoSmall : (H : Type) → List (DataW H) → Bool := fun _ ds => decide (uptoBulkAll ds ≤ 1048576)
def OpenSpec.upto (s : _root_.Go.ChangeSpec) : _root_.Go.OpenSpec := { _root_.Go.OpenSpec.ofChange s with cond := some uptoSmall }

/-- 'laws.FnExactValidTerrain', WHERE WHAT IT READS IS OF BULK AT MOST 1048576: true; the input reads as it did. -/
def fnExactValidTerrainUptoRow : OpenClaim := { program := "ytcdmijldkmmgmab", sum := "b79ff4c73592ac69956863353838187c45dad65ec5c5216d8547c8c1aeae337d", func := "loop.example/g00925/laws.FnExactValidTerrain", spec := "fnExactValidTerrain", apart := false, narrowed := true }
def FnExactValidTerrainUptoSaid : Prop := fnExactValidTerrainUptoRow.holds Try.pinned (OpenSpec.upto fnExactValidTerrainSpec)

/-- 'laws.FnExactInTerrain', WHERE WHAT IT READS IS OF BULK AT MOST 1048576: true; the input reads as it did. -/
def fnExactInTerrainUptoRow : OpenClaim := { program := "ytcdmijldkmmgmab", sum := "b79ff4c73592ac69956863353838187c45dad65ec5c5216d8547c8c1aeae337d", func := "loop.example/g00925/laws.FnExactInTerrain", spec := "fnExactInTerrain", apart := false, narrowed := true }
def FnExactInTerrainUptoSaid : Prop := fnExactInTerrainUptoRow.holds Try.pinned (OpenSpec.upto fnExactInTerrainSpec)

/-- 'laws.FnExactHeightAt', WHERE WHAT IT READS IS OF BULK AT MOST 1048576: true; the input reads as it did. -/
def fnExactHeightAtUptoRow : OpenClaim := { program := "ytcdmijldkmmgmab", sum := "b79ff4c73592ac69956863353838187c45dad65ec5c5216d8547c8c1aeae337d", func := "loop.example/g00925/laws.FnExactHeightAt", spec := "fnExactHeightAt", unfollowed := true, recurses := true, apart := false, narrowed := true }
def FnExactHeightAtUptoSaid : Prop := fnExactHeightAtUptoRow.holds Try.pinned (OpenSpec.upto fnExactHeightAtSpec)

/-- 'laws.FnExactClutterAt', WHERE WHAT IT READS IS OF BULK AT MOST 1048576: true; the input reads as it did. -/
def fnExactClutterAtUptoRow : OpenClaim := { program := "ytcdmijldkmmgmab", sum := "b79ff4c73592ac69956863353838187c45dad65ec5c5216d8547c8c1aeae337d", func := "loop.example/g00925/laws.FnExactClutterAt", spec := "fnExactClutterAt", unfollowed := true, recurses := true, apart := false, narrowed := true }
def FnExactClutterAtUptoSaid : Prop := fnExactClutterAtUptoRow.holds Try.pinned (OpenSpec.upto fnExactClutterAtSpec)

/-- 'laws.FnExactSameTerrain', WHERE WHAT IT READS IS OF BULK AT MOST 1048576: true; the input reads as it did. -/
def fnExactSameTerrainUptoRow : OpenClaim := { program := "ytcdmijldkmmgmab", sum := "b79ff4c73592ac69956863353838187c45dad65ec5c5216d8547c8c1aeae337d", func := "loop.example/g00925/laws.FnExactSameTerrain", spec := "fnExactSameTerrain", apart := false, narrowed := true }
def FnExactSameTerrainUptoSaid : Prop := fnExactSameTerrainUptoRow.holds Try.pinned (OpenSpec.upto fnExactSameTerrainSpec)

/-- 'laws.FnExactNearestOf', WHERE WHAT IT READS IS OF BULK AT MOST 1048576: true; the input reads as it did. -/
def fnExactNearestOfUptoRow : OpenClaim := { program := "ytcdmijldkmmgmab", sum := "b79ff4c73592ac69956863353838187c45dad65ec5c5216d8547c8c1aeae337d", func := "loop.example/g00925/laws.FnExactNearestOf", spec := "fnExactNearestOf", apart := false, narrowed := true }
def FnExactNearestOfUptoSaid : Prop := fnExactNearestOfUptoRow.holds Try.pinned (OpenSpec.upto fnExactNearestOfSpec)

/-- 'laws.FnExactFlatTerrain', WHERE WHAT IT READS IS OF BULK AT MOST 1048576: true; the input reads as it did. -/
def fnExactFlatTerrainUptoRow : OpenClaim := { program := "ytcdmijldkmmgmab", sum := "b79ff4c73592ac69956863353838187c45dad65ec5c5216d8547c8c1aeae337d", func := "loop.example/g00925/laws.FnExactFlatTerrain", spec := "fnExactFlatTerrain", apart := false, narrowed := true }
def FnExactFlatTerrainUptoSaid : Prop := fnExactFlatTerrainUptoRow.holds Try.pinned (OpenSpec.upto fnExactFlatTerrainSpec)

/-- 'laws.FnExactProfilePlaces', WHERE WHAT IT READS IS OF BULK AT MOST 1048576: true; the input reads as it did. -/
def fnExactProfilePlacesUptoRow : OpenClaim := { program := "ytcdmijldkmmgmab", sum := "b79ff4c73592ac69956863353838187c45dad65ec5c5216d8547c8c1aeae337d", func := "loop.example/g00925/laws.FnExactProfilePlaces", spec := "fnExactProfilePlaces", apart := false, narrowed := true }
def FnExactProfilePlacesUptoSaid : Prop := fnExactProfilePlacesUptoRow.holds Try.pinned (OpenSpec.upto fnExactProfilePlacesSpec)

end Rows
end Go.Proofs.Ytcdmijldkmmgmab
