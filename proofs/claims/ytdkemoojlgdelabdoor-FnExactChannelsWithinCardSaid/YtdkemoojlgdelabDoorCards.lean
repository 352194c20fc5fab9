/-
  DERIVED. GIVEN WITH THE SEED: THE CARDS: each row of YtdkemoojlgdelabDoorRows.lean that lists a variable, with what it lists TIED to the program's text (the seventh form; the later family's looks); each row that meets fmt, with fmt's text TOLD by the authors' own Lean function (tested against real Go, not proved from fmt's source: count such statements apart). THE CARD IS WHAT COUNTS. Prove the row's statement (the work); the ties are given (YtdkemoojlgdelabDoorTie.lean); close each card by the builder's one call (the guide's Derived/Test/ToyasCard.lean, 'card_holds'). Laid BY PROGRAM, IN A SANDBOX (cutbox-door.mjs). By AI agents, Wed Nov 11 2026. No macro, syntax, notation, axiom, sorry.
-/
import Derived.Test.YtdkemoojlgdelabDoorRows
import GoSem.ClaimSeven
namespace Go.Proofs.YtdkemoojlgdelabDoor
namespace Rows

/-- THE TIED CARD OF 'laws.FnExactChannelsWithin'. -/
def fnExactChannelsWithinCard : Claim7 := { stood := { row := fnExactChannelsWithinRow, standIns := [], harness := (true, "3437d9a33838a673bdbd72030534ac53f4325683d2438c93444e08ead9b3de9a"), looks := false }, kinds := [], alts := [], laidByText := true, laidKinds := [.data], laidTests := true, laidLooks := .later }
def FnExactChannelsWithinCardSaid : Prop := Claim7.holds Tryd.pinned (.plain (OpenSpec.ofChange fnExactChannelsWithinSpec)) fnExactChannelsWithinCard

/-- THE TIED CARD OF 'laws.FnExactChannelsClash'. -/
def fnExactChannelsClashCard : Claim7 := { stood := { row := fnExactChannelsClashRow, standIns := [], harness := (true, "3437d9a33838a673bdbd72030534ac53f4325683d2438c93444e08ead9b3de9a"), looks := false }, kinds := [], alts := [], laidByText := true, laidKinds := [.data], laidTests := true, laidLooks := .later }
def FnExactChannelsClashCardSaid : Prop := Claim7.holds Tryd.pinned (.plain (OpenSpec.ofChange fnExactChannelsClashSpec)) fnExactChannelsClashCard

/-- THE TIED CARD OF 'laws.FnExactOffsetOf'. -/
def fnExactOffsetOfCard : Claim7 := { stood := { row := fnExactOffsetOfRow, standIns := [], harness := (true, "3437d9a33838a673bdbd72030534ac53f4325683d2438c93444e08ead9b3de9a"), looks := false }, kinds := [], alts := [], laidByText := true, laidKinds := [.data], laidTests := true, laidLooks := .later }
def FnExactOffsetOfCardSaid : Prop := Claim7.holds Tryd.pinned (.plain (OpenSpec.ofChange fnExactOffsetOfSpec)) fnExactOffsetOfCard

/-- THE TIED CARD OF 'laws.FnExactCommonPart'. -/
def fnExactCommonPartCard : Claim7 := { stood := { row := fnExactCommonPartRow, standIns := [], harness := (true, "3437d9a33838a673bdbd72030534ac53f4325683d2438c93444e08ead9b3de9a"), looks := false }, kinds := [], alts := [], laidByText := true, laidKinds := [.data], laidTests := true, laidLooks := .later }
def FnExactCommonPartCardSaid : Prop := Claim7.holds Tryd.pinned (.plain (OpenSpec.ofChange fnExactCommonPartSpec)) fnExactCommonPartCard

/-- THE SECOND FORM's CARD OF 'laws.FnExactChannelsWithin'. -/
def fnExactChannelsWithinUptoCard : Claim7 := { stood := { row := fnExactChannelsWithinUptoRow, standIns := [], harness := (true, "3437d9a33838a673bdbd72030534ac53f4325683d2438c93444e08ead9b3de9a"), looks := false }, kinds := [], alts := [], laidByText := true, laidKinds := [.data], laidTests := true, laidLooks := .later }
def FnExactChannelsWithinUptoCardSaid : Prop := Claim7.holds Tryd.pinned (.plain (OpenSpec.upto fnExactChannelsWithinSpec)) fnExactChannelsWithinUptoCard

/-- THE SECOND FORM's CARD OF 'laws.FnExactChannelsClash'. -/
def fnExactChannelsClashUptoCard : Claim7 := { stood := { row := fnExactChannelsClashUptoRow, standIns := [], harness := (true, "3437d9a33838a673bdbd72030534ac53f4325683d2438c93444e08ead9b3de9a"), looks := false }, kinds := [], alts := [], laidByText := true, laidKinds := [.data], laidTests := true, laidLooks := .later }
def FnExactChannelsClashUptoCardSaid : Prop := Claim7.holds Tryd.pinned (.plain (OpenSpec.upto fnExactChannelsClashSpec)) fnExactChannelsClashUptoCard

/-- THE SECOND FORM's CARD OF 'laws.FnExactOffsetOf'. -/
def fnExactOffsetOfUptoCard : Claim7 := { stood := { row := fnExactOffsetOfUptoRow, standIns := [], harness := (true, "3437d9a33838a673bdbd72030534ac53f4325683d2438c93444e08ead9b3de9a"), looks := false }, kinds := [], alts := [], laidByText := true, laidKinds := [.data], laidTests := true, laidLooks := .later }
def FnExactOffsetOfUptoCardSaid : Prop := Claim7.holds Tryd.pinned (.plain (OpenSpec.upto fnExactOffsetOfSpec)) fnExactOffsetOfUptoCard

/-- THE SECOND FORM's CARD OF 'laws.FnExactCommonPart'. -/
def fnExactCommonPartUptoCard : Claim7 := { stood := { row := fnExactCommonPartUptoRow, standIns := [], harness := (true, "3437d9a33838a673bdbd72030534ac53f4325683d2438c93444e08ead9b3de9a"), looks := false }, kinds := [], alts := [], laidByText := true, laidKinds := [.data], laidTests := true, laidLooks := .later }
def FnExactCommonPartUptoCardSaid : Prop := Claim7.holds Tryd.pinned (.plain (OpenSpec.upto fnExactCommonPartSpec)) fnExactCommonPartUptoCard
end Rows
end Go.Proofs.YtdkemoojlgdelabDoor
