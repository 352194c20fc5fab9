/-
  DERIVED. GIVEN WITH THE SEED: THE CARDS: each row of YtkcjbcllpbojhaaDoorRows.lean that lists a variable, with what it lists TIED to the program's text (the seventh form; the later family's looks); each row that meets fmt, with fmt's text TOLD by the authors' own Lean function (tested against real Go, not proved from fmt's source: count such statements apart). THE CARD IS WHAT COUNTS. Prove the row's statement (the work); the ties are given (YtkcjbcllpbojhaaDoorTie.lean); close each card by the builder's one call (the guide's Derived/Test/ToyasCard.lean, 'card_holds'). Laid BY PROGRAM, IN A SANDBOX (cutbox-door.mjs). By AI agents, Wed Nov 11 2026. No macro, syntax, notation, axiom, sorry.
-/
import Derived.Test.YtkcjbcllpbojhaaDoorRows
import GoSem.ClaimSeven
namespace Go.Proofs.YtkcjbcllpbojhaaDoor
namespace Rows

/-- THE TIED CARD OF 'laws.FnExactValidRows'. -/
def fnExactValidRowsCard : Claim7 := { stood := { row := fnExactValidRowsRow, standIns := [], harness := (true, "8fb57dffaa09a184025f25616315a06d468f8d4688fc4c43853089c14b5aad73"), looks := true }, kinds := [], alts := [], laidByText := true, laidKinds := [.data], laidTests := true, laidLooks := .later }
def FnExactValidRowsCardSaid : Prop := Claim7.holds Tryd.pinned (.plain (OpenSpec.ofChange fnExactValidRowsSpec)) fnExactValidRowsCard

/-- THE TIED CARD OF 'laws.FnExactSignalRatio'. -/
def fnExactSignalRatioCard : Claim7 := { stood := { row := fnExactSignalRatioRow, standIns := [], harness := (true, "8fb57dffaa09a184025f25616315a06d468f8d4688fc4c43853089c14b5aad73"), looks := true }, kinds := [], alts := [], laidByText := true, laidKinds := [.data], laidTests := true, laidLooks := .later }
def FnExactSignalRatioCardSaid : Prop := Claim7.holds Tryd.pinned (.plain (OpenSpec.ofChange fnExactSignalRatioSpec)) fnExactSignalRatioCard

/-- THE TIED CARD OF 'laws.FnExactSinrOf'. -/
def fnExactSinrOfCard : Claim7 := { stood := { row := fnExactSinrOfRow, standIns := [], harness := (true, "8fb57dffaa09a184025f25616315a06d468f8d4688fc4c43853089c14b5aad73"), looks := true }, kinds := [], alts := [], laidByText := true, laidKinds := [.handle], laidTests := true, laidLooks := .later }
def FnExactSinrOfCardSaid : Prop := Claim7.holds Tryd.pinned (.plain (OpenSpec.ofChange fnExactSinrOfSpec)) fnExactSinrOfCard

/-- THE SECOND FORM's CARD OF 'laws.FnExactValidRows'. -/
def fnExactValidRowsUptoCard : Claim7 := { stood := { row := fnExactValidRowsUptoRow, standIns := [], harness := (true, "8fb57dffaa09a184025f25616315a06d468f8d4688fc4c43853089c14b5aad73"), looks := true }, kinds := [], alts := [], laidByText := true, laidKinds := [.data], laidTests := true, laidLooks := .later }
def FnExactValidRowsUptoCardSaid : Prop := Claim7.holds Tryd.pinned (.plain (OpenSpec.upto fnExactValidRowsSpec)) fnExactValidRowsUptoCard

/-- THE SECOND FORM's CARD OF 'laws.FnExactSignalRatio'. -/
def fnExactSignalRatioUptoCard : Claim7 := { stood := { row := fnExactSignalRatioUptoRow, standIns := [], harness := (true, "8fb57dffaa09a184025f25616315a06d468f8d4688fc4c43853089c14b5aad73"), looks := true }, kinds := [], alts := [], laidByText := true, laidKinds := [.data], laidTests := true, laidLooks := .later }
def FnExactSignalRatioUptoCardSaid : Prop := Claim7.holds Tryd.pinned (.plain (OpenSpec.upto fnExactSignalRatioSpec)) fnExactSignalRatioUptoCard

/-- THE SECOND FORM's CARD OF 'laws.FnExactSinrOf'. -/
def fnExactSinrOfUptoCard : Claim7 := { stood := { row := fnExactSinrOfUptoRow, standIns := [], harness := (true, "8fb57dffaa09a184025f25616315a06d468f8d4688fc4c43853089c14b5aad73"), looks := true }, kinds := [], alts := [], laidByText := true, laidKinds := [.handle], laidTests := true, laidLooks := .later }
def FnExactSinrOfUptoCardSaid : Prop := Claim7.holds Tryd.pinned (.plain (OpenSpec.upto fnExactSinrOfSpec)) fnExactSinrOfUptoCard
end Rows
end Go.Proofs.YtkcjbcllpbojhaaDoor
