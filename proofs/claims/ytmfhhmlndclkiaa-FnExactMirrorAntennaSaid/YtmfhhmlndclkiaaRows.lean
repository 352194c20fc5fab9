/-
  No cell of these rows narrows 'for every input' (looked for: loops, veiled, ifaces, maps, wideKeys, modest, calm, conditions, laid).
  DERIVED. THE GIVEN ROWS OF THIS SEAT. 4 by the template 'for every input the law returns true; each argument reads behind the call as it read before'; 0 by the template 'total and deterministic' (their statements: YtmfhhmlndclkiaaTotals.lean).
  GIVEN WITH THE SEED: the statements are not yours to turn. If you find one false, say at which input.
  Laid BY PROGRAM, IN A SANDBOX (cutbox-rows.mjs): the forced cells as the released guide's own fill.sh prints them over the translation f5edcb375b4a2378… (all of the seat's roots in one cut). By AI agents, Wed Nov 11 2026. No macro, syntax, notation, axiom, sorry.
-/
import Derived.Test.YtmfhhmlndclkiaaChecked
import GoSem.Claim
import GoSem.ClaimJoined
import GoSem.ClaimMapViews
import Derived.JoinedTies
import Derived.KernelRfl
namespace Go.Proofs.Ytmfhhmlndclkiaa
/- THE CELL 'sum', in the pinned program and in every row, IS THE sha256 OF THE DUMP (.gsa) THAT YtmfhhmlndclkiaaProg.lean LOADS. Nothing in Lean hashes anything: it is a label: what it is worth is what the hold of that sum in a sandbox is worth. -/
noncomputable def Try.pinned : Pinned := { name := "ytmfhhmlndclkiaa", sum := "f5edcb375b4a2378f706f206329d1cd887d4fe3da05aaecadc62af6ae979c7ef", checked := Try.checked }
namespace Rows
def none {H : Type} : Left H := { results := [], args := [] }

/-- 'laws.FnEarth': WHATEVER THE INPUT: true; the input reads as it did. -/
def fnEarthSpec : ChangeSpec := { name := "fnEarth", fn := fun _ => fun
  | [d1, d2] => { results := [.lit (.bool true)], args := [d1, d2] }
  | _ => none }
def fnEarthRow : OpenClaim := { program := "ytmfhhmlndclkiaa", sum := "f5edcb375b4a2378f706f206329d1cd887d4fe3da05aaecadc62af6ae979c7ef", func := "loop.example/g00925/laws.FnEarth", spec := "fnEarth", unfollowed := true, recurses := true, apart := false }
def FnEarthSaid : Prop := fnEarthRow.holds Try.pinned (OpenSpec.ofChange fnEarthSpec)

/-- ITS FALSE NEIGHBOUR: 'it returns false'. Refute it at one input. -/
def fnEarthWrong : ChangeSpec := { name := "fnEarth", fn := fun _ => fun
  | [d1, d2] => { results := [.lit (.bool false)], args := [d1, d2] }
  | _ => none }
def FnEarthWrongFalsely : Prop := fnEarthRow.holds Try.pinned (OpenSpec.ofChange fnEarthWrong)

/-- 'laws.FnExactFlatTerrain': WHATEVER THE INPUT: true; the input reads as it did. -/
def fnExactFlatTerrainSpec : ChangeSpec := { name := "fnExactFlatTerrain", fn := fun _ => fun
  | [d1, d2, d3, d4] => { results := [.lit (.bool true)], args := [d1, d2, d3, d4] }
  | _ => none }
def fnExactFlatTerrainRow : OpenClaim := { program := "ytmfhhmlndclkiaa", sum := "f5edcb375b4a2378f706f206329d1cd887d4fe3da05aaecadc62af6ae979c7ef", func := "loop.example/g00925/laws.FnExactFlatTerrain", spec := "fnExactFlatTerrain", apart := false }
def FnExactFlatTerrainSaid : Prop := fnExactFlatTerrainRow.holds Try.pinned (OpenSpec.ofChange fnExactFlatTerrainSpec)

/-- ITS FALSE NEIGHBOUR: 'it returns false'. Refute it at one input. -/
def fnExactFlatTerrainWrong : ChangeSpec := { name := "fnExactFlatTerrain", fn := fun _ => fun
  | [d1, d2, d3, d4] => { results := [.lit (.bool false)], args := [d1, d2, d3, d4] }
  | _ => none }
def FnExactFlatTerrainWrongFalsely : Prop := fnExactFlatTerrainRow.holds Try.pinned (OpenSpec.ofChange fnExactFlatTerrainWrong)

/-- 'laws.FnExactProfilePlaces': WHATEVER THE INPUT: true; the input reads as it did. -/
def fnExactProfilePlacesSpec : ChangeSpec := { name := "fnExactProfilePlaces", fn := fun _ => fun
  | [d1, d2, d3] => { results := [.lit (.bool true)], args := [d1, d2, d3] }
  | _ => none }
def fnExactProfilePlacesRow : OpenClaim := { program := "ytmfhhmlndclkiaa", sum := "f5edcb375b4a2378f706f206329d1cd887d4fe3da05aaecadc62af6ae979c7ef", func := "loop.example/g00925/laws.FnExactProfilePlaces", spec := "fnExactProfilePlaces", apart := false }
def FnExactProfilePlacesSaid : Prop := fnExactProfilePlacesRow.holds Try.pinned (OpenSpec.ofChange fnExactProfilePlacesSpec)

/-- ITS FALSE NEIGHBOUR: 'it returns false'. Refute it at one input. -/
def fnExactProfilePlacesWrong : ChangeSpec := { name := "fnExactProfilePlaces", fn := fun _ => fun
  | [d1, d2, d3] => { results := [.lit (.bool false)], args := [d1, d2, d3] }
  | _ => none }
def FnExactProfilePlacesWrongFalsely : Prop := fnExactProfilePlacesRow.holds Try.pinned (OpenSpec.ofChange fnExactProfilePlacesWrong)

/-- 'laws.FnExactMirrorAntenna': WHATEVER THE INPUT: true; the input reads as it did. -/
def fnExactMirrorAntennaSpec : ChangeSpec := { name := "fnExactMirrorAntenna", fn := fun _ => fun
  | [d] => { results := [.lit (.bool true)], args := [d] }
  | _ => none }
def fnExactMirrorAntennaRow : OpenClaim := { program := "ytmfhhmlndclkiaa", sum := "f5edcb375b4a2378f706f206329d1cd887d4fe3da05aaecadc62af6ae979c7ef", func := "loop.example/g00925/laws.FnExactMirrorAntenna", spec := "fnExactMirrorAntenna", apart := false }
def FnExactMirrorAntennaSaid : Prop := fnExactMirrorAntennaRow.holds Try.pinned (OpenSpec.ofChange fnExactMirrorAntennaSpec)

/-- ITS FALSE NEIGHBOUR: 'it returns false'. Refute it at one input. -/
def fnExactMirrorAntennaWrong : ChangeSpec := { name := "fnExactMirrorAntenna", fn := fun _ => fun
  | [d] => { results := [.lit (.bool false)], args := [d] }
  | _ => none }
def FnExactMirrorAntennaWrongFalsely : Prop := fnExactMirrorAntennaRow.holds Try.pinned (OpenSpec.ofChange fnExactMirrorAntennaWrong)

/- THE SECOND FORM. 'bulk': how many values and letters a reading holds, each counted each time it is reached (what is shared counts as often as it is met; a slice's spare places count too). A statement '..UptoSaid' is the law's where the arguments, and the package variables that the reading takes, are together of bulk at most 1048576: NARROWER than '..Said'. Prove '..Said' where nothing that the law and all that it calls make is longer than what came in: it says more and counts as full. Else prove '..UptoSaid'. A law counts once. -/
mutual
def uptoBulk {H : Type} : DataW H → Nat
  | .lit (.string bytes) => bytes.length + 1
  | .lit _ => 1
  | .nil => 1
  | .ptr d => uptoBulk d + 1
  | .slice elems spare => uptoBulkAll elems + uptoBulkAll spare + 1
  | .agg parts => uptoBulkAll parts + 1
  | .iface _ d => uptoBulk d + 1
  | .map entries => uptoBulkEntries entries + 1
  | .held _ => 1
def uptoBulkAll {H : Type} : List (DataW H) → Nat
  | [] => 0
  | d :: r => uptoBulk d + uptoBulkAll r
def uptoBulkEntries {H : Type} : List (Lit × DataW H) → Nat
  | [] => 0
  | x :: r => uptoBulkEntry x + uptoBulkEntries r
def uptoBulkEntry {H : Type} : Lit × DataW H → Nat
  | (.string bytes, d) => bytes.length + uptoBulk d + 1
  | (_, d) => uptoBulk d + 1
 end
def uptoSmall : (H : Type) → List (DataW H) → Bool := fun _ ds => decide (uptoBulkAll ds ≤ 1048576)
def OpenSpec.upto (s : _root_.Go.ChangeSpec) : _root_.Go.OpenSpec := { _root_.Go.OpenSpec.ofChange s with cond := some uptoSmall }

/-- 'laws.FnEarth', WHERE WHAT IT READS IS OF BULK AT MOST 1048576: true; the input reads as it did. -/
def fnEarthUptoRow : OpenClaim := { program := "ytmfhhmlndclkiaa", sum := "f5edcb375b4a2378f706f206329d1cd887d4fe3da05aaecadc62af6ae979c7ef", func := "loop.example/g00925/laws.FnEarth", spec := "fnEarth", unfollowed := true, recurses := true, apart := false, narrowed := true }
def FnEarthUptoSaid : Prop := fnEarthUptoRow.holds Try.pinned (OpenSpec.upto fnEarthSpec)

/-- 'laws.FnExactFlatTerrain', WHERE WHAT IT READS IS OF BULK AT MOST 1048576: true; the input reads as it did. -/
def fnExactFlatTerrainUptoRow : OpenClaim := { program := "ytmfhhmlndclkiaa", sum := "f5edcb375b4a2378f706f206329d1cd887d4fe3da05aaecadc62af6ae979c7ef", func := "loop.example/g00925/laws.FnExactFlatTerrain", spec := "fnExactFlatTerrain", apart := false, narrowed := true }
def FnExactFlatTerrainUptoSaid : Prop := fnExactFlatTerrainUptoRow.holds Try.pinned (OpenSpec.upto fnExactFlatTerrainSpec)

/-- 'laws.FnExactProfilePlaces', WHERE WHAT IT READS IS OF BULK AT MOST 1048576: true; the input reads as it did. -/
def fnExactProfilePlacesUptoRow : OpenClaim := { program := "ytmfhhmlndclkiaa", sum := "f5edcb375b4a2378f706f206329d1cd887d4fe3da05aaecadc62af6ae979c7ef", func := "loop.example/g00925/laws.FnExactProfilePlaces", spec := "fnExactProfilePlaces", apart := false, narrowed := true }
def FnExactProfilePlacesUptoSaid : Prop := fnExactProfilePlacesUptoRow.holds Try.pinned (OpenSpec.upto fnExactProfilePlacesSpec)

/-- 'laws.FnExactMirrorAntenna', WHERE WHAT IT READS IS OF BULK AT MOST 1048576: true; the input reads as it did. -/
def fnExactMirrorAntennaUptoRow : OpenClaim := { program := "ytmfhhmlndclkiaa", sum := "f5edcb375b4a2378f706f206329d1cd887d4fe3da05aaecadc62af6ae979c7ef", func := "loop.example/g00925/laws.FnExactMirrorAntenna", spec := "fnExactMirrorAntenna", apart := false, narrowed := true }
def FnExactMirrorAntennaUptoSaid : Prop := fnExactMirrorAntennaUptoRow.holds Try.pinned (OpenSpec.upto fnExactMirrorAntennaSpec)

end Rows
end Go.Proofs.Ytmfhhmlndclkiaa
