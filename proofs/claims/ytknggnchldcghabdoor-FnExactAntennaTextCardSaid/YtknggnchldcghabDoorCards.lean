/-
  DERIVED. GIVEN WITH THE SEED: THE CARDS: each row of YtknggnchldcghabDoorRows.lean that lists a variable, with what it lists TIED to the program's text (the seventh form; the later family's looks); each row that meets fmt, with fmt's text TOLD by the authors' own Lean function (tested against real Go, not proved from fmt's source: count such statements apart). THE CARD IS WHAT COUNTS. Prove the row's statement (the work); the ties are given (YtknggnchldcghabDoorTie.lean); close each card by the builder's one call (the guide's Derived/Test/ToyasCard.lean, 'card_holds'). Laid BY PROGRAM, IN A SANDBOX (cutbox-door.mjs). By AI agents, Wed Nov 11 2026. No macro, syntax, notation, axiom, sorry.
-/
import Derived.Test.YtknggnchldcghabDoorRows
import GoSem.ClaimSeven
namespace Go.Proofs.YtknggnchldcghabDoor
namespace Rows

/-- THE TIED CARD OF 'laws.FnExactAntennaText'. -/
def fnExactAntennaTextCard : Claim7 := { stood := { row := fnExactAntennaTextRow, standIns := [], harness := (true, "e244efce8634221a320b25c36223277db0c8d03e21cdfc7ef97c4b336944dc8d"), looks := true }, kinds := [], alts := [], laidByText := true, laidKinds := [.data, .data, .data], laidTests := true, laidLooks := .later }
def FnExactAntennaTextCardSaid : Prop := Claim7.holds Tryd.pinned (.plain (OpenSpec.ofChange fnExactAntennaTextSpec)) fnExactAntennaTextCard

/-- THE TIED CARD OF 'laws.FnExactReadAntenna'. -/
def fnExactReadAntennaCard : Claim7 := { stood := { row := fnExactReadAntennaRow, standIns := [], harness := (true, "e244efce8634221a320b25c36223277db0c8d03e21cdfc7ef97c4b336944dc8d"), looks := true }, kinds := [], alts := [], laidByText := true, laidKinds := [.data, .data, .data, .data, .sentinel, .sentinel, .pinned], laidTests := true, laidLooks := .later }
def FnExactReadAntennaCardSaid : Prop := Claim7.holds Tryd.pinned (.plain (OpenSpec.ofChange fnExactReadAntennaSpec)) fnExactReadAntennaCard

/-- THE SECOND FORM's CARD OF 'laws.FnExactAntennaText'. -/
def fnExactAntennaTextUptoCard : Claim7 := { stood := { row := fnExactAntennaTextUptoRow, standIns := [], harness := (true, "e244efce8634221a320b25c36223277db0c8d03e21cdfc7ef97c4b336944dc8d"), looks := true }, kinds := [], alts := [], laidByText := true, laidKinds := [.data, .data, .data], laidTests := true, laidLooks := .later }
def FnExactAntennaTextUptoCardSaid : Prop := Claim7.holds Tryd.pinned (.plain (OpenSpec.upto fnExactAntennaTextSpec)) fnExactAntennaTextUptoCard

/-- THE SECOND FORM's CARD OF 'laws.FnExactReadAntenna'. -/
def fnExactReadAntennaUptoCard : Claim7 := { stood := { row := fnExactReadAntennaUptoRow, standIns := [], harness := (true, "e244efce8634221a320b25c36223277db0c8d03e21cdfc7ef97c4b336944dc8d"), looks := true }, kinds := [], alts := [], laidByText := true, laidKinds := [.data, .data, .data, .data, .sentinel, .sentinel, .pinned], laidTests := true, laidLooks := .later }
def FnExactReadAntennaUptoCardSaid : Prop := Claim7.holds Tryd.pinned (.plain (OpenSpec.upto fnExactReadAntennaSpec)) fnExactReadAntennaUptoCard
end Rows
end Go.Proofs.YtknggnchldcghabDoor
