/-
  DERIVED. GIVEN WITH THE SEED: THE CARDS: each row of YthfgejgcmbejjabDoorRows.lean that lists a variable, with what it lists TIED to the program's text (the seventh form; the later family's looks); each row that meets fmt, with fmt's text TOLD by the authors' own Lean function (tested against real Go, not proved from fmt's source: count such statements apart). THE CARD IS WHAT COUNTS. Prove the row's statement (the work); the ties are given (YthfgejgcmbejjabDoorTie.lean); close each card by the builder's one call (the guide's Derived/Test/ToyasCard.lean, 'card_holds'). Laid BY PROGRAM, IN A SANDBOX (cutbox-door.mjs). By AI agents, Wed Nov 11 2026. No macro, syntax, notation, axiom, sorry.
-/
import Derived.Test.YthfgejgcmbejjabDoorRows
import GoSem.ClaimSeven
namespace Go.Proofs.YthfgejgcmbejjabDoor
namespace Rows

/-- THE TIED CARD OF 'laws.FnExactDbText'. -/
def fnExactDbTextCard : Claim7 := { stood := { row := fnExactDbTextRow, standIns := [], harness := (true, "ae35ae19112dc6ad191f359cbc9d52a4ee69b3028bab17523ebec97eb773ca2d"), looks := true }, kinds := [], alts := [], laidByText := true, laidKinds := [.data, .data, .data], laidTests := true, laidLooks := .later }
def FnExactDbTextCardSaid : Prop := Claim7.holds Tryd.pinned (.plain (OpenSpec.ofChange fnExactDbTextSpec)) fnExactDbTextCard

/-- THE TIED CARD OF 'laws.FnExactReadDb'. -/
def fnExactReadDbCard : Claim7 := { stood := { row := fnExactReadDbRow, standIns := [], harness := (true, "ae35ae19112dc6ad191f359cbc9d52a4ee69b3028bab17523ebec97eb773ca2d"), looks := true }, kinds := [], alts := [], laidByText := true, laidKinds := [.data, .data, .data, .sentinel, .sentinel], laidTests := true, laidLooks := .later }
def FnExactReadDbCardSaid : Prop := Claim7.holds Tryd.pinned (.plain (OpenSpec.ofChange fnExactReadDbSpec)) fnExactReadDbCard

/-- THE SECOND FORM's CARD OF 'laws.FnExactDbText'. -/
def fnExactDbTextUptoCard : Claim7 := { stood := { row := fnExactDbTextUptoRow, standIns := [], harness := (true, "ae35ae19112dc6ad191f359cbc9d52a4ee69b3028bab17523ebec97eb773ca2d"), looks := true }, kinds := [], alts := [], laidByText := true, laidKinds := [.data, .data, .data], laidTests := true, laidLooks := .later }
def FnExactDbTextUptoCardSaid : Prop := Claim7.holds Tryd.pinned (.plain (OpenSpec.upto fnExactDbTextSpec)) fnExactDbTextUptoCard

/-- THE SECOND FORM's CARD OF 'laws.FnExactReadDb'. -/
def fnExactReadDbUptoCard : Claim7 := { stood := { row := fnExactReadDbUptoRow, standIns := [], harness := (true, "ae35ae19112dc6ad191f359cbc9d52a4ee69b3028bab17523ebec97eb773ca2d"), looks := true }, kinds := [], alts := [], laidByText := true, laidKinds := [.data, .data, .data, .sentinel, .sentinel], laidTests := true, laidLooks := .later }
def FnExactReadDbUptoCardSaid : Prop := Claim7.holds Tryd.pinned (.plain (OpenSpec.upto fnExactReadDbSpec)) fnExactReadDbUptoCard
end Rows
end Go.Proofs.YthfgejgcmbejjabDoor
