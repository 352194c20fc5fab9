/-
  DERIVED. GIVEN WITH THE SEED: THE CARDS: each row of YtggiilbdlbhpgaaDoorRows.lean that lists a variable, with what it lists TIED to the program's text (the seventh form; the later family's looks); each row that meets fmt, with fmt's text TOLD by the authors' own Lean function (tested against real Go, not proved from fmt's source: count such statements apart). THE CARD IS WHAT COUNTS. Prove the row's statement (the work); the ties are given (YtggiilbdlbhpgaaDoorTie.lean); close each card by the builder's one call (the guide's Derived/Test/ToyasCard.lean, 'card_holds'). Laid BY PROGRAM, IN A SANDBOX (cutbox-door.mjs). By AI agents, Wed Nov 11 2026. No macro, syntax, notation, axiom, sorry.
-/
import Derived.Test.YtggiilbdlbhpgaaDoorRows
import GoSem.ClaimSeven
namespace Go.Proofs.YtggiilbdlbhpgaaDoor
namespace Rows

/-- THE TIED CARD OF 'laws.FnExactRadioText'. -/
def fnExactRadioTextCard : Claim7 := { stood := { row := fnExactRadioTextRow, standIns := [], harness := (true, "90f704f771e2068f6626db92ffe6089ccb053491fa54f4dc8225ef680d1fd369"), looks := false }, kinds := [], alts := [], laidByText := true, laidKinds := [.data, .data, .data], laidTests := true, laidLooks := .later }
def FnExactRadioTextCardSaid : Prop := Claim7.holds Tryd.pinned (.plain (OpenSpec.ofChange fnExactRadioTextSpec)) fnExactRadioTextCard

/-- THE TIED CARD OF 'laws.FnExactPathText'. -/
def fnExactPathTextCard : Claim7 := { stood := { row := fnExactPathTextRow, standIns := [], harness := (true, "90f704f771e2068f6626db92ffe6089ccb053491fa54f4dc8225ef680d1fd369"), looks := false }, kinds := [], alts := [], laidByText := true, laidKinds := [.data, .data, .data], laidTests := true, laidLooks := .later }
def FnExactPathTextCardSaid : Prop := Claim7.holds Tryd.pinned (.plain (OpenSpec.ofChange fnExactPathTextSpec)) fnExactPathTextCard

/-- THE TIED CARD OF 'laws.FnExactTerrainText'. -/
def fnExactTerrainTextCard : Claim7 := { stood := { row := fnExactTerrainTextRow, standIns := [], harness := (true, "90f704f771e2068f6626db92ffe6089ccb053491fa54f4dc8225ef680d1fd369"), looks := false }, kinds := [], alts := [], laidByText := true, laidKinds := [.data, .data, .data], laidTests := true, laidLooks := .later }
def FnExactTerrainTextCardSaid : Prop := Claim7.holds Tryd.pinned (.plain (OpenSpec.ofChange fnExactTerrainTextSpec)) fnExactTerrainTextCard

/-- THE SECOND FORM's CARD OF 'laws.FnExactRadioText'. -/
def fnExactRadioTextUptoCard : Claim7 := { stood := { row := fnExactRadioTextUptoRow, standIns := [], harness := (true, "90f704f771e2068f6626db92ffe6089ccb053491fa54f4dc8225ef680d1fd369"), looks := false }, kinds := [], alts := [], laidByText := true, laidKinds := [.data, .data, .data], laidTests := true, laidLooks := .later }
def FnExactRadioTextUptoCardSaid : Prop := Claim7.holds Tryd.pinned (.plain (OpenSpec.upto fnExactRadioTextSpec)) fnExactRadioTextUptoCard

/-- THE SECOND FORM's CARD OF 'laws.FnExactPathText'. -/
def fnExactPathTextUptoCard : Claim7 := { stood := { row := fnExactPathTextUptoRow, standIns := [], harness := (true, "90f704f771e2068f6626db92ffe6089ccb053491fa54f4dc8225ef680d1fd369"), looks := false }, kinds := [], alts := [], laidByText := true, laidKinds := [.data, .data, .data], laidTests := true, laidLooks := .later }
def FnExactPathTextUptoCardSaid : Prop := Claim7.holds Tryd.pinned (.plain (OpenSpec.upto fnExactPathTextSpec)) fnExactPathTextUptoCard

/-- THE SECOND FORM's CARD OF 'laws.FnExactTerrainText'. -/
def fnExactTerrainTextUptoCard : Claim7 := { stood := { row := fnExactTerrainTextUptoRow, standIns := [], harness := (true, "90f704f771e2068f6626db92ffe6089ccb053491fa54f4dc8225ef680d1fd369"), looks := false }, kinds := [], alts := [], laidByText := true, laidKinds := [.data, .data, .data], laidTests := true, laidLooks := .later }
def FnExactTerrainTextUptoCardSaid : Prop := Claim7.holds Tryd.pinned (.plain (OpenSpec.upto fnExactTerrainTextSpec)) fnExactTerrainTextUptoCard
end Rows
end Go.Proofs.YtggiilbdlbhpgaaDoor
