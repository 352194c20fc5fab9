/-
  DERIVED. GIVEN WITH THE SEED: THE CARDS: each row of YtnambnddoebeiaaDoorRows.lean that lists a variable, with what it lists TIED to the program's text (the seventh form; the later family's looks); each row that meets fmt, with fmt's text TOLD by the authors' own Lean function (tested against real Go, not proved from fmt's source: count such statements apart). THE CARD IS WHAT COUNTS. Prove the row's statement (the work); the ties are given (YtnambnddoebeiaaDoorTie.lean); close each card by the builder's one call (the guide's Derived/Test/ToyasCard.lean, 'card_holds'). Laid BY PROGRAM, IN A SANDBOX (cutbox-door.mjs). By AI agents, Wed Nov 11 2026. No macro, syntax, notation, axiom, sorry.
-/
import Derived.Test.YtnambnddoebeiaaDoorRows
import GoSem.ClaimSeven
namespace Go.Proofs.YtnambnddoebeiaaDoor
namespace Rows

/-- THE TIED CARD OF 'laws.FnExactReadAntenna'. -/
def fnExactReadAntennaCard : Claim7 := { stood := { row := fnExactReadAntennaRow, standIns := [], harness := (true, "1165f8ca6736d072b3330286f5f9a16e9b743446a3b37f040574fea241e163b7"), looks := true }, kinds := [], alts := [], laidByText := true, laidKinds := [.data, .data, .data, .data, .sentinel, .sentinel, .pinned], laidTests := true, laidLooks := .later }
def FnExactReadAntennaCardSaid : Prop := Claim7.holds Tryd.pinned (.plain (OpenSpec.ofChange fnExactReadAntennaSpec)) fnExactReadAntennaCard

/-- THE TIED CARD OF 'laws.FnExactReadRadio'. -/
def fnExactReadRadioCard : Claim7 := { stood := { row := fnExactReadRadioRow, standIns := [], harness := (true, "1165f8ca6736d072b3330286f5f9a16e9b743446a3b37f040574fea241e163b7"), looks := true }, kinds := [], alts := [], laidByText := true, laidKinds := [.data, .data, .data, .data, .sentinel, .sentinel, .pinned], laidTests := true, laidLooks := .later }
def FnExactReadRadioCardSaid : Prop := Claim7.holds Tryd.pinned (.plain (OpenSpec.ofChange fnExactReadRadioSpec)) fnExactReadRadioCard

/-- THE SECOND FORM's CARD OF 'laws.FnExactReadAntenna'. -/
def fnExactReadAntennaUptoCard : Claim7 := { stood := { row := fnExactReadAntennaUptoRow, standIns := [], harness := (true, "1165f8ca6736d072b3330286f5f9a16e9b743446a3b37f040574fea241e163b7"), looks := true }, kinds := [], alts := [], laidByText := true, laidKinds := [.data, .data, .data, .data, .sentinel, .sentinel, .pinned], laidTests := true, laidLooks := .later }
def FnExactReadAntennaUptoCardSaid : Prop := Claim7.holds Tryd.pinned (.plain (OpenSpec.upto fnExactReadAntennaSpec)) fnExactReadAntennaUptoCard

/-- THE SECOND FORM's CARD OF 'laws.FnExactReadRadio'. -/
def fnExactReadRadioUptoCard : Claim7 := { stood := { row := fnExactReadRadioUptoRow, standIns := [], harness := (true, "1165f8ca6736d072b3330286f5f9a16e9b743446a3b37f040574fea241e163b7"), looks := true }, kinds := [], alts := [], laidByText := true, laidKinds := [.data, .data, .data, .data, .sentinel, .sentinel, .pinned], laidTests := true, laidLooks := .later }
def FnExactReadRadioUptoCardSaid : Prop := Claim7.holds Tryd.pinned (.plain (OpenSpec.upto fnExactReadRadioSpec)) fnExactReadRadioUptoCard
end Rows
end Go.Proofs.YtnambnddoebeiaaDoor
