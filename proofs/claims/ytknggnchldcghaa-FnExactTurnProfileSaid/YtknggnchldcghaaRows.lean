/-
  No cell of these rows narrows 'for every input' (looked for: loops, veiled, ifaces, maps, wideKeys, modest, calm, conditions, laid).
  DERIVED. THE GIVEN ROWS OF THIS SEAT. 12 by the template 'for every input the law returns true; each argument reads behind the call as it read before'; 0 by the template 'total and deterministic' (their statements: YtknggnchldcghaaTotals.lean).
  GIVEN WITH THE SEED: the statements are not yours to turn. If you find one false, say at which input.
  Laid BY PROGRAM, IN A SANDBOX (cutbox-rows.mjs): the forced cells as the released guide's own fill.sh prints them over the translation 1596948b80a27dca… (all of the seat's roots in one cut). By AI agents, Wed Nov 11 2026. No macro, syntax, notation, axiom, sorry.
-/
import Derived.Test.YtknggnchldcghaaChecked
import GoSem.Claim
import GoSem.ClaimJoined
import GoSem.ClaimMapViews
import Derived.JoinedTies
import Derived.KernelRfl
namespace Go.Proofs.Ytknggnchldcghaa
/- THE CELL 'sum', in the pinned program and in every row, IS THE sha256 OF THE DUMP (.gsa) THAT YtknggnchldcghaaProg.lean LOADS. Nothing in Lean hashes anything: it is a label: what it is worth is what the hold of that sum in a sandbox is worth. -/
noncomputable def Try.pinned : Pinned := { name := "ytknggnchldcghaa", sum := "1596948b80a27dca73d4b3e62764cf69f70232fee4fd2301124e33d772c91193", checked := Try.checked }
namespace Rows
def none {H : Type} : Left H := { results := [], args := [] }

/-- 'laws.FnExactWorstOf': WHATEVER THE INPUT: true; the input reads as it did. -/
def fnExactWorstOfSpec : ChangeSpec := { name := "fnExactWorstOf", fn := fun _ => fun
  | [d1, d2] => { results := [.lit (.bool true)], args := [d1, d2] }
  | _ => none }
def fnExactWorstOfRow : OpenClaim := { program := "ytknggnchldcghaa", sum := "1596948b80a27dca73d4b3e62764cf69f70232fee4fd2301124e33d772c91193", func := "loop.example/g00925/laws.FnExactWorstOf", spec := "fnExactWorstOf", unfollowed := true, recurses := true, apart := false }
def FnExactWorstOfSaid : Prop := fnExactWorstOfRow.holds Try.pinned (OpenSpec.ofChange fnExactWorstOfSpec)

/-- ITS FALSE NEIGHBOUR: 'it returns false'. Refute it at one input. -/
def fnExactWorstOfWrong : ChangeSpec := { name := "fnExactWorstOf", fn := fun _ => fun
  | [d1, d2] => { results := [.lit (.bool false)], args := [d1, d2] }
  | _ => none }
def FnExactWorstOfWrongFalsely : Prop := fnExactWorstOfRow.holds Try.pinned (OpenSpec.ofChange fnExactWorstOfWrong)

/-- 'laws.FnExactIsClear': WHATEVER THE INPUT: true; the input reads as it did. -/
def fnExactIsClearSpec : ChangeSpec := { name := "fnExactIsClear", fn := fun _ => fun
  | [d1, d2, d3] => { results := [.lit (.bool true)], args := [d1, d2, d3] }
  | _ => none }
def fnExactIsClearRow : OpenClaim := { program := "ytknggnchldcghaa", sum := "1596948b80a27dca73d4b3e62764cf69f70232fee4fd2301124e33d772c91193", func := "loop.example/g00925/laws.FnExactIsClear", spec := "fnExactIsClear", unfollowed := true, recurses := true, apart := false }
def FnExactIsClearSaid : Prop := fnExactIsClearRow.holds Try.pinned (OpenSpec.ofChange fnExactIsClearSpec)

/-- ITS FALSE NEIGHBOUR: 'it returns false'. Refute it at one input. -/
def fnExactIsClearWrong : ChangeSpec := { name := "fnExactIsClear", fn := fun _ => fun
  | [d1, d2, d3] => { results := [.lit (.bool false)], args := [d1, d2, d3] }
  | _ => none }
def FnExactIsClearWrongFalsely : Prop := fnExactIsClearRow.holds Try.pinned (OpenSpec.ofChange fnExactIsClearWrong)

/-- 'laws.FnExactTurnProfile': WHATEVER THE INPUT: true; the input reads as it did. -/
def fnExactTurnProfileSpec : ChangeSpec := { name := "fnExactTurnProfile", fn := fun _ => fun
  | [d] => { results := [.lit (.bool true)], args := [d] }
  | _ => none }
def fnExactTurnProfileRow : OpenClaim := { program := "ytknggnchldcghaa", sum := "1596948b80a27dca73d4b3e62764cf69f70232fee4fd2301124e33d772c91193", func := "loop.example/g00925/laws.FnExactTurnProfile", spec := "fnExactTurnProfile", apart := false }
def FnExactTurnProfileSaid : Prop := fnExactTurnProfileRow.holds Try.pinned (OpenSpec.ofChange fnExactTurnProfileSpec)

/-- ITS FALSE NEIGHBOUR: 'it returns false'. Refute it at one input. -/
def fnExactTurnProfileWrong : ChangeSpec := { name := "fnExactTurnProfile", fn := fun _ => fun
  | [d] => { results := [.lit (.bool false)], args := [d] }
  | _ => none }
def FnExactTurnProfileWrongFalsely : Prop := fnExactTurnProfileRow.holds Try.pinned (OpenSpec.ofChange fnExactTurnProfileWrong)

/-- 'laws.FnExactRaiseEnds': WHATEVER THE INPUT: true; the input reads as it did. -/
def fnExactRaiseEndsSpec : ChangeSpec := { name := "fnExactRaiseEnds", fn := fun _ => fun
  | [d1, d2] => { results := [.lit (.bool true)], args := [d1, d2] }
  | _ => none }
def fnExactRaiseEndsRow : OpenClaim := { program := "ytknggnchldcghaa", sum := "1596948b80a27dca73d4b3e62764cf69f70232fee4fd2301124e33d772c91193", func := "loop.example/g00925/laws.FnExactRaiseEnds", spec := "fnExactRaiseEnds", apart := false }
def FnExactRaiseEndsSaid : Prop := fnExactRaiseEndsRow.holds Try.pinned (OpenSpec.ofChange fnExactRaiseEndsSpec)

/-- ITS FALSE NEIGHBOUR: 'it returns false'. Refute it at one input. -/
def fnExactRaiseEndsWrong : ChangeSpec := { name := "fnExactRaiseEnds", fn := fun _ => fun
  | [d1, d2] => { results := [.lit (.bool false)], args := [d1, d2] }
  | _ => none }
def FnExactRaiseEndsWrongFalsely : Prop := fnExactRaiseEndsRow.holds Try.pinned (OpenSpec.ofChange fnExactRaiseEndsWrong)

/-- 'laws.FnExactFlatTerrain': WHATEVER THE INPUT: true; the input reads as it did. -/
def fnExactFlatTerrainSpec : ChangeSpec := { name := "fnExactFlatTerrain", fn := fun _ => fun
  | [d1, d2, d3, d4] => { results := [.lit (.bool true)], args := [d1, d2, d3, d4] }
  | _ => none }
def fnExactFlatTerrainRow : OpenClaim := { program := "ytknggnchldcghaa", sum := "1596948b80a27dca73d4b3e62764cf69f70232fee4fd2301124e33d772c91193", func := "loop.example/g00925/laws.FnExactFlatTerrain", spec := "fnExactFlatTerrain", apart := false }
def FnExactFlatTerrainSaid : Prop := fnExactFlatTerrainRow.holds Try.pinned (OpenSpec.ofChange fnExactFlatTerrainSpec)

/-- ITS FALSE NEIGHBOUR: 'it returns false'. Refute it at one input. -/
def fnExactFlatTerrainWrong : ChangeSpec := { name := "fnExactFlatTerrain", fn := fun _ => fun
  | [d1, d2, d3, d4] => { results := [.lit (.bool false)], args := [d1, d2, d3, d4] }
  | _ => none }
def FnExactFlatTerrainWrongFalsely : Prop := fnExactFlatTerrainRow.holds Try.pinned (OpenSpec.ofChange fnExactFlatTerrainWrong)

/-- 'laws.FnExactHighestPoint': WHATEVER THE INPUT: true; the input reads as it did. -/
def fnExactHighestPointSpec : ChangeSpec := { name := "fnExactHighestPoint", fn := fun _ => fun
  | [d] => { results := [.lit (.bool true)], args := [d] }
  | _ => none }
def fnExactHighestPointRow : OpenClaim := { program := "ytknggnchldcghaa", sum := "1596948b80a27dca73d4b3e62764cf69f70232fee4fd2301124e33d772c91193", func := "loop.example/g00925/laws.FnExactHighestPoint", spec := "fnExactHighestPoint", unfollowed := true, recurses := true, apart := false }
def FnExactHighestPointSaid : Prop := fnExactHighestPointRow.holds Try.pinned (OpenSpec.ofChange fnExactHighestPointSpec)

/-- ITS FALSE NEIGHBOUR: 'it returns false'. Refute it at one input. -/
def fnExactHighestPointWrong : ChangeSpec := { name := "fnExactHighestPoint", fn := fun _ => fun
  | [d] => { results := [.lit (.bool false)], args := [d] }
  | _ => none }
def FnExactHighestPointWrongFalsely : Prop := fnExactHighestPointRow.holds Try.pinned (OpenSpec.ofChange fnExactHighestPointWrong)

/-- 'laws.FnExactProfilePlaces': WHATEVER THE INPUT: true; the input reads as it did. -/
def fnExactProfilePlacesSpec : ChangeSpec := { name := "fnExactProfilePlaces", fn := fun _ => fun
  | [d1, d2, d3] => { results := [.lit (.bool true)], args := [d1, d2, d3] }
  | _ => none }
def fnExactProfilePlacesRow : OpenClaim := { program := "ytknggnchldcghaa", sum := "1596948b80a27dca73d4b3e62764cf69f70232fee4fd2301124e33d772c91193", func := "loop.example/g00925/laws.FnExactProfilePlaces", spec := "fnExactProfilePlaces", apart := false }
def FnExactProfilePlacesSaid : Prop := fnExactProfilePlacesRow.holds Try.pinned (OpenSpec.ofChange fnExactProfilePlacesSpec)

/-- ITS FALSE NEIGHBOUR: 'it returns false'. Refute it at one input. -/
def fnExactProfilePlacesWrong : ChangeSpec := { name := "fnExactProfilePlaces", fn := fun _ => fun
  | [d1, d2, d3] => { results := [.lit (.bool false)], args := [d1, d2, d3] }
  | _ => none }
def FnExactProfilePlacesWrongFalsely : Prop := fnExactProfilePlacesRow.holds Try.pinned (OpenSpec.ofChange fnExactProfilePlacesWrong)

/-- 'laws.FnExactSetGround': WHATEVER THE INPUT: true; the input reads as it did. -/
def fnExactSetGroundSpec : ChangeSpec := { name := "fnExactSetGround", fn := fun _ => fun
  | [d1, d2, d3, d4, d5] => { results := [.lit (.bool true)], args := [d1, d2, d3, d4, d5] }
  | _ => none }
def fnExactSetGroundRow : OpenClaim := { program := "ytknggnchldcghaa", sum := "1596948b80a27dca73d4b3e62764cf69f70232fee4fd2301124e33d772c91193", func := "loop.example/g00925/laws.FnExactSetGround", spec := "fnExactSetGround", apart := false }
def FnExactSetGroundSaid : Prop := fnExactSetGroundRow.holds Try.pinned (OpenSpec.ofChange fnExactSetGroundSpec)

/-- ITS FALSE NEIGHBOUR: 'it returns false'. Refute it at one input. -/
def fnExactSetGroundWrong : ChangeSpec := { name := "fnExactSetGround", fn := fun _ => fun
  | [d1, d2, d3, d4, d5] => { results := [.lit (.bool false)], args := [d1, d2, d3, d4, d5] }
  | _ => none }
def FnExactSetGroundWrongFalsely : Prop := fnExactSetGroundRow.holds Try.pinned (OpenSpec.ofChange fnExactSetGroundWrong)

/-- 'laws.FnExactCropTerrain': WHATEVER THE INPUT: true; the input reads as it did. -/
def fnExactCropTerrainSpec : ChangeSpec := { name := "fnExactCropTerrain", fn := fun _ => fun
  | [d1, d2, d3, d4, d5] => { results := [.lit (.bool true)], args := [d1, d2, d3, d4, d5] }
  | _ => none }
def fnExactCropTerrainRow : OpenClaim := { program := "ytknggnchldcghaa", sum := "1596948b80a27dca73d4b3e62764cf69f70232fee4fd2301124e33d772c91193", func := "loop.example/g00925/laws.FnExactCropTerrain", spec := "fnExactCropTerrain", apart := false }
def FnExactCropTerrainSaid : Prop := fnExactCropTerrainRow.holds Try.pinned (OpenSpec.ofChange fnExactCropTerrainSpec)

/-- ITS FALSE NEIGHBOUR: 'it returns false'. Refute it at one input. -/
def fnExactCropTerrainWrong : ChangeSpec := { name := "fnExactCropTerrain", fn := fun _ => fun
  | [d1, d2, d3, d4, d5] => { results := [.lit (.bool false)], args := [d1, d2, d3, d4, d5] }
  | _ => none }
def FnExactCropTerrainWrongFalsely : Prop := fnExactCropTerrainRow.holds Try.pinned (OpenSpec.ofChange fnExactCropTerrainWrong)

/-- 'laws.FnExactProfileOf': WHATEVER THE INPUT: true; the input reads as it did. -/
def fnExactProfileOfSpec : ChangeSpec := { name := "fnExactProfileOf", fn := fun _ => fun
  | [d1, d2, d3, d4] => { results := [.lit (.bool true)], args := [d1, d2, d3, d4] }
  | _ => none }
def fnExactProfileOfRow : OpenClaim := { program := "ytknggnchldcghaa", sum := "1596948b80a27dca73d4b3e62764cf69f70232fee4fd2301124e33d772c91193", func := "loop.example/g00925/laws.FnExactProfileOf", spec := "fnExactProfileOf", unfollowed := true, recurses := true, apart := false }
def FnExactProfileOfSaid : Prop := fnExactProfileOfRow.holds Try.pinned (OpenSpec.ofChange fnExactProfileOfSpec)

/-- ITS FALSE NEIGHBOUR: 'it returns false'. Refute it at one input. -/
def fnExactProfileOfWrong : ChangeSpec := { name := "fnExactProfileOf", fn := fun _ => fun
  | [d1, d2, d3, d4] => { results := [.lit (.bool false)], args := [d1, d2, d3, d4] }
  | _ => none }
def FnExactProfileOfWrongFalsely : Prop := fnExactProfileOfRow.holds Try.pinned (OpenSpec.ofChange fnExactProfileOfWrong)

/-- 'laws.FnExactProfileClutter': WHATEVER THE INPUT: true; the input reads as it did. -/
def fnExactProfileClutterSpec : ChangeSpec := { name := "fnExactProfileClutter", fn := fun _ => fun
  | [d1, d2, d3, d4] => { results := [.lit (.bool true)], args := [d1, d2, d3, d4] }
  | _ => none }
def fnExactProfileClutterRow : OpenClaim := { program := "ytknggnchldcghaa", sum := "1596948b80a27dca73d4b3e62764cf69f70232fee4fd2301124e33d772c91193", func := "loop.example/g00925/laws.FnExactProfileClutter", spec := "fnExactProfileClutter", unfollowed := true, recurses := true, apart := false }
def FnExactProfileClutterSaid : Prop := fnExactProfileClutterRow.holds Try.pinned (OpenSpec.ofChange fnExactProfileClutterSpec)

/-- ITS FALSE NEIGHBOUR: 'it returns false'. Refute it at one input. -/
def fnExactProfileClutterWrong : ChangeSpec := { name := "fnExactProfileClutter", fn := fun _ => fun
  | [d1, d2, d3, d4] => { results := [.lit (.bool false)], args := [d1, d2, d3, d4] }
  | _ => none }
def FnExactProfileClutterWrongFalsely : Prop := fnExactProfileClutterRow.holds Try.pinned (OpenSpec.ofChange fnExactProfileClutterWrong)

/-- 'laws.FnExactNearestOf': WHATEVER THE INPUT: true; the input reads as it did. -/
def fnExactNearestOfSpec : ChangeSpec := { name := "fnExactNearestOf", fn := fun _ => fun
  | [d1, d2] => { results := [.lit (.bool true)], args := [d1, d2] }
  | _ => none }
def fnExactNearestOfRow : OpenClaim := { program := "ytknggnchldcghaa", sum := "1596948b80a27dca73d4b3e62764cf69f70232fee4fd2301124e33d772c91193", func := "loop.example/g00925/laws.FnExactNearestOf", spec := "fnExactNearestOf", apart := false }
def FnExactNearestOfSaid : Prop := fnExactNearestOfRow.holds Try.pinned (OpenSpec.ofChange fnExactNearestOfSpec)

/-- ITS FALSE NEIGHBOUR: 'it returns false'. Refute it at one input. -/
def fnExactNearestOfWrong : ChangeSpec := { name := "fnExactNearestOf", fn := fun _ => fun
  | [d1, d2] => { results := [.lit (.bool false)], args := [d1, d2] }
  | _ => none }
def FnExactNearestOfWrongFalsely : Prop := fnExactNearestOfRow.holds Try.pinned (OpenSpec.ofChange fnExactNearestOfWrong)

/- THE SECOND FORM. 'bulk': how many values and letters a reading holds, each counted each time it is reached (what is shared counts as often as it is met; a slice's spare places count too). A statement '..UptoSaid' is the law's where the arguments, and the package variables that the reading takes, are together of bulk at most 1048576: NARROWER than '..Said'. Prove '..Said' where nothing that the law and all that it calls make is longer than what came in: it says more and counts as full. Else prove '..UptoSaid'. A law counts once. -/
mutual
def uptoBulk {H : Type} : DataW H → Nat
  | .lit (.string bytes) => bytes.length + 1
  | .lit _ => 1
  | .nil => 1
  | .ptr d => uptoBulk d + 1
  | .slice elems spare => uptoBulkAll elems + uptoBulkAll spare + 1
  | .agg parts => uptoBulkAll parts + 1
  | .iface _ d => uptoBulk d + 1
  | .map entries => uptoBulkEntries entries + 1
  | .held _ => 1
def uptoBulkAll {H : Type} : List (DataW H) → Nat
  | [] => 0
  | d :: r => uptoBulk d + uptoBulkAll r
def uptoBulkEntries {H : Type} : List (Lit × DataW H) → Nat
  | [] => 0
  | x :: r => uptoBulkEntry x + uptoBulkEntries r
def uptoBulkEntry {H : Type} : Lit × DataW H → Nat
  | (.string bytes, d) => bytes.length + uptoBulk d + 1
  | (_, d) => uptoBulk d + 1
 end
def uptoSmall : (H : Type) → List (DataW H) → Bool := fun _ ds => decide (uptoBulkAll ds ≤ 1048576)
def OpenSpec.upto (s : _root_.Go.ChangeSpec) : _root_.Go.OpenSpec := { _root_.Go.OpenSpec.ofChange s with cond := some uptoSmall }

/-- 'laws.FnExactWorstOf', WHERE WHAT IT READS IS OF BULK AT MOST 1048576: true; the input reads as it did. -/
def fnExactWorstOfUptoRow : OpenClaim := { program := "ytknggnchldcghaa", sum := "1596948b80a27dca73d4b3e62764cf69f70232fee4fd2301124e33d772c91193", func := "loop.example/g00925/laws.FnExactWorstOf", spec := "fnExactWorstOf", unfollowed := true, recurses := true, apart := false, narrowed := true }
def FnExactWorstOfUptoSaid : Prop := fnExactWorstOfUptoRow.holds Try.pinned (OpenSpec.upto fnExactWorstOfSpec)

/-- 'laws.FnExactIsClear', WHERE WHAT IT READS IS OF BULK AT MOST 1048576: true; the input reads as it did. -/
def fnExactIsClearUptoRow : OpenClaim := { program := "ytknggnchldcghaa", sum := "1596948b80a27dca73d4b3e62764cf69f70232fee4fd2301124e33d772c91193", func := "loop.example/g00925/laws.FnExactIsClear", spec := "fnExactIsClear", unfollowed := true, recurses := true, apart := false, narrowed := true }
def FnExactIsClearUptoSaid : Prop := fnExactIsClearUptoRow.holds Try.pinned (OpenSpec.upto fnExactIsClearSpec)

/-- 'laws.FnExactTurnProfile', WHERE WHAT IT READS IS OF BULK AT MOST 1048576: true; the input reads as it did. -/
def fnExactTurnProfileUptoRow : OpenClaim := { program := "ytknggnchldcghaa", sum := "1596948b80a27dca73d4b3e62764cf69f70232fee4fd2301124e33d772c91193", func := "loop.example/g00925/laws.FnExactTurnProfile", spec := "fnExactTurnProfile", apart := false, narrowed := true }
def FnExactTurnProfileUptoSaid : Prop := fnExactTurnProfileUptoRow.holds Try.pinned (OpenSpec.upto fnExactTurnProfileSpec)

/-- 'laws.FnExactRaiseEnds', WHERE WHAT IT READS IS OF BULK AT MOST 1048576: true; the input reads as it did. -/
def fnExactRaiseEndsUptoRow : OpenClaim := { program := "ytknggnchldcghaa", sum := "1596948b80a27dca73d4b3e62764cf69f70232fee4fd2301124e33d772c91193", func := "loop.example/g00925/laws.FnExactRaiseEnds", spec := "fnExactRaiseEnds", apart := false, narrowed := true }
def FnExactRaiseEndsUptoSaid : Prop := fnExactRaiseEndsUptoRow.holds Try.pinned (OpenSpec.upto fnExactRaiseEndsSpec)

/-- 'laws.FnExactFlatTerrain', WHERE WHAT IT READS IS OF BULK AT MOST 1048576: true; the input reads as it did. -/
def fnExactFlatTerrainUptoRow : OpenClaim := { program := "ytknggnchldcghaa", sum := "1596948b80a27dca73d4b3e62764cf69f70232fee4fd2301124e33d772c91193", func := "loop.example/g00925/laws.FnExactFlatTerrain", spec := "fnExactFlatTerrain", apart := false, narrowed := true }
def FnExactFlatTerrainUptoSaid : Prop := fnExactFlatTerrainUptoRow.holds Try.pinned (OpenSpec.upto fnExactFlatTerrainSpec)

/-- 'laws.FnExactHighestPoint', WHERE WHAT IT READS IS OF BULK AT MOST 1048576: true; the input reads as it did. -/
def fnExactHighestPointUptoRow : OpenClaim := { program := "ytknggnchldcghaa", sum := "1596948b80a27dca73d4b3e62764cf69f70232fee4fd2301124e33d772c91193", func := "loop.example/g00925/laws.FnExactHighestPoint", spec := "fnExactHighestPoint", unfollowed := true, recurses := true, apart := false, narrowed := true }
def FnExactHighestPointUptoSaid : Prop := fnExactHighestPointUptoRow.holds Try.pinned (OpenSpec.upto fnExactHighestPointSpec)

/-- 'laws.FnExactProfilePlaces', WHERE WHAT IT READS IS OF BULK AT MOST 1048576: true; the input reads as it did. -/
def fnExactProfilePlacesUptoRow : OpenClaim := { program := "ytknggnchldcghaa", sum := "1596948b80a27dca73d4b3e62764cf69f70232fee4fd2301124e33d772c91193", func := "loop.example/g00925/laws.FnExactProfilePlaces", spec := "fnExactProfilePlaces", apart := false, narrowed := true }
def FnExactProfilePlacesUptoSaid : Prop := fnExactProfilePlacesUptoRow.holds Try.pinned (OpenSpec.upto fnExactProfilePlacesSpec)

/-- 'laws.FnExactSetGround', WHERE WHAT IT READS IS OF BULK AT MOST 1048576: true; the input reads as it did. -/
def fnExactSetGroundUptoRow : OpenClaim := { program := "ytknggnchldcghaa", sum := "1596948b80a27dca73d4b3e62764cf69f70232fee4fd2301124e33d772c91193", func := "loop.example/g00925/laws.FnExactSetGround", spec := "fnExactSetGround", apart := false, narrowed := true }
def FnExactSetGroundUptoSaid : Prop := fnExactSetGroundUptoRow.holds Try.pinned (OpenSpec.upto fnExactSetGroundSpec)

/-- 'laws.FnExactCropTerrain', WHERE WHAT IT READS IS OF BULK AT MOST 1048576: true; the input reads as it did. -/
def fnExactCropTerrainUptoRow : OpenClaim := { program := "ytknggnchldcghaa", sum := "1596948b80a27dca73d4b3e62764cf69f70232fee4fd2301124e33d772c91193", func := "loop.example/g00925/laws.FnExactCropTerrain", spec := "fnExactCropTerrain", apart := false, narrowed := true }
def FnExactCropTerrainUptoSaid : Prop := fnExactCropTerrainUptoRow.holds Try.pinned (OpenSpec.upto fnExactCropTerrainSpec)

/-- 'laws.FnExactProfileOf', WHERE WHAT IT READS IS OF BULK AT MOST 1048576: true; the input reads as it did. -/
def fnExactProfileOfUptoRow : OpenClaim := { program := "ytknggnchldcghaa", sum := "1596948b80a27dca73d4b3e62764cf69f70232fee4fd2301124e33d772c91193", func := "loop.example/g00925/laws.FnExactProfileOf", spec := "fnExactProfileOf", unfollowed := true, recurses := true, apart := false, narrowed := true }
def FnExactProfileOfUptoSaid : Prop := fnExactProfileOfUptoRow.holds Try.pinned (OpenSpec.upto fnExactProfileOfSpec)

/-- 'laws.FnExactProfileClutter', WHERE WHAT IT READS IS OF BULK AT MOST 1048576: true; the input reads as it did. -/
def fnExactProfileClutterUptoRow : OpenClaim := { program := "ytknggnchldcghaa", sum := "1596948b80a27dca73d4b3e62764cf69f70232fee4fd2301124e33d772c91193", func := "loop.example/g00925/laws.FnExactProfileClutter", spec := "fnExactProfileClutter", unfollowed := true, recurses := true, apart := false, narrowed := true }
def FnExactProfileClutterUptoSaid : Prop := fnExactProfileClutterUptoRow.holds Try.pinned (OpenSpec.upto fnExactProfileClutterSpec)

/-- 'laws.FnExactNearestOf', WHERE WHAT IT READS IS OF BULK AT MOST 1048576: true; the input reads as it did. -/
def fnExactNearestOfUptoRow : OpenClaim := { program := "ytknggnchldcghaa", sum := "1596948b80a27dca73d4b3e62764cf69f70232fee4fd2301124e33d772c91193", func := "loop.example/g00925/laws.FnExactNearestOf", spec := "fnExactNearestOf", apart := false, narrowed := true }
def FnExactNearestOfUptoSaid : Prop := fnExactNearestOfUptoRow.holds Try.pinned (OpenSpec.upto fnExactNearestOfSpec)

end Rows
end Go.Proofs.Ytknggnchldcghaa
