/-
  DERIVED. GIVEN WITH THE SEED: THE CARDS: each row of YtnbkdekndflefaaDoorRows.lean that lists a variable, with what it lists TIED to the program's text (the seventh form; the later family's looks); each row that meets fmt, with fmt's text TOLD by the authors' own Lean function (tested against real Go, not proved from fmt's source: count such statements apart). THE CARD IS WHAT COUNTS. Prove the row's statement (the work); the ties are given (YtnbkdekndflefaaDoorTie.lean); close each card by the builder's one call (the guide's Derived/Test/ToyasCard.lean, 'card_holds'). Laid BY PROGRAM, IN A SANDBOX (cutbox-door.mjs). By AI agents, Wed Nov 11 2026. No macro, syntax, notation, axiom, sorry.
-/
import Derived.Test.YtnbkdekndflefaaDoorRows
import GoSem.ClaimSeven
namespace Go.Proofs.YtnbkdekndflefaaDoor
namespace Rows

/-- THE TIED CARD OF 'laws.FnExactFreeLoss'. -/
def fnExactFreeLossCard : Claim7 := { stood := { row := fnExactFreeLossRow, standIns := [], harness := (true, "a4eca557f1a77781d7db76095f06e3c27dd8a52baaacd2c7de3b245391d30de1"), looks := false }, kinds := [], alts := [], laidByText := true, laidKinds := [.data], laidTests := true, laidLooks := .later }
def FnExactFreeLossCardSaid : Prop := Claim7.holds Tryd.pinned (.plain (OpenSpec.ofChange fnExactFreeLossSpec)) fnExactFreeLossCard

/-- THE TIED CARD OF 'laws.FnExactFieldStrength'. -/
def fnExactFieldStrengthCard : Claim7 := { stood := { row := fnExactFieldStrengthRow, standIns := [], harness := (true, "a4eca557f1a77781d7db76095f06e3c27dd8a52baaacd2c7de3b245391d30de1"), looks := false }, kinds := [], alts := [], laidByText := true, laidKinds := [.data], laidTests := true, laidLooks := .later }
def FnExactFieldStrengthCardSaid : Prop := Claim7.holds Tryd.pinned (.plain (OpenSpec.ofChange fnExactFieldStrengthSpec)) fnExactFieldStrengthCard

/-- THE TIED CARD OF 'laws.FnExactLevelOfField'. -/
def fnExactLevelOfFieldCard : Claim7 := { stood := { row := fnExactLevelOfFieldRow, standIns := [], harness := (true, "a4eca557f1a77781d7db76095f06e3c27dd8a52baaacd2c7de3b245391d30de1"), looks := false }, kinds := [], alts := [], laidByText := true, laidKinds := [.data], laidTests := true, laidLooks := .later }
def FnExactLevelOfFieldCardSaid : Prop := Claim7.holds Tryd.pinned (.plain (OpenSpec.ofChange fnExactLevelOfFieldSpec)) fnExactLevelOfFieldCard

/-- THE TIED CARD OF 'laws.FnExactFieldOfLevel'. -/
def fnExactFieldOfLevelCard : Claim7 := { stood := { row := fnExactFieldOfLevelRow, standIns := [], harness := (true, "a4eca557f1a77781d7db76095f06e3c27dd8a52baaacd2c7de3b245391d30de1"), looks := false }, kinds := [], alts := [], laidByText := true, laidKinds := [.data], laidTests := true, laidLooks := .later }
def FnExactFieldOfLevelCardSaid : Prop := Claim7.holds Tryd.pinned (.plain (OpenSpec.ofChange fnExactFieldOfLevelSpec)) fnExactFieldOfLevelCard

/-- THE TIED CARD OF 'laws.FnExactRangeOfLoss'. -/
def fnExactRangeOfLossCard : Claim7 := { stood := { row := fnExactRangeOfLossRow, standIns := [], harness := (true, "a4eca557f1a77781d7db76095f06e3c27dd8a52baaacd2c7de3b245391d30de1"), looks := false }, kinds := [], alts := [], laidByText := true, laidKinds := [.data], laidTests := true, laidLooks := .later }
def FnExactRangeOfLossCardSaid : Prop := Claim7.holds Tryd.pinned (.plain (OpenSpec.ofChange fnExactRangeOfLossSpec)) fnExactRangeOfLossCard

/-- THE TIED CARD OF 'laws.FnExactRangeOfField'. -/
def fnExactRangeOfFieldCard : Claim7 := { stood := { row := fnExactRangeOfFieldRow, standIns := [], harness := (true, "a4eca557f1a77781d7db76095f06e3c27dd8a52baaacd2c7de3b245391d30de1"), looks := false }, kinds := [], alts := [], laidByText := true, laidKinds := [.data], laidTests := true, laidLooks := .later }
def FnExactRangeOfFieldCardSaid : Prop := Claim7.holds Tryd.pinned (.plain (OpenSpec.ofChange fnExactRangeOfFieldSpec)) fnExactRangeOfFieldCard

/-- THE TIED CARD OF 'laws.FnExactWavelengthOf'. -/
def fnExactWavelengthOfCard : Claim7 := { stood := { row := fnExactWavelengthOfRow, standIns := [], harness := (true, "a4eca557f1a77781d7db76095f06e3c27dd8a52baaacd2c7de3b245391d30de1"), looks := false }, kinds := [], alts := [], laidByText := true, laidKinds := [.data], laidTests := true, laidLooks := .later }
def FnExactWavelengthOfCardSaid : Prop := Claim7.holds Tryd.pinned (.plain (OpenSpec.ofChange fnExactWavelengthOfSpec)) fnExactWavelengthOfCard

/-- THE TIED CARD OF 'laws.FnExactFarDistance'. -/
def fnExactFarDistanceCard : Claim7 := { stood := { row := fnExactFarDistanceRow, standIns := [], harness := (true, "a4eca557f1a77781d7db76095f06e3c27dd8a52baaacd2c7de3b245391d30de1"), looks := false }, kinds := [], alts := [], laidByText := true, laidKinds := [.data], laidTests := true, laidLooks := .later }
def FnExactFarDistanceCardSaid : Prop := Claim7.holds Tryd.pinned (.plain (OpenSpec.ofChange fnExactFarDistanceSpec)) fnExactFarDistanceCard

/-- THE TIED CARD OF 'laws.FnExactFreeTable'. -/
def fnExactFreeTableCard : Claim7 := { stood := { row := fnExactFreeTableRow, standIns := [], harness := (true, "a4eca557f1a77781d7db76095f06e3c27dd8a52baaacd2c7de3b245391d30de1"), looks := false }, kinds := [], alts := [], laidByText := true, laidKinds := [.data], laidTests := true, laidLooks := .later }
def FnExactFreeTableCardSaid : Prop := Claim7.holds Tryd.pinned (.plain (OpenSpec.ofChange fnExactFreeTableSpec)) fnExactFreeTableCard

/-- THE TIED CARD OF 'laws.FnFreeSpace'. -/
def fnFreeSpaceCard : Claim7 := { stood := { row := fnFreeSpaceRow, standIns := [], harness := (true, "a4eca557f1a77781d7db76095f06e3c27dd8a52baaacd2c7de3b245391d30de1"), looks := false }, kinds := [], alts := [], laidByText := true, laidKinds := [.data], laidTests := true, laidLooks := .later }
def FnFreeSpaceCardSaid : Prop := Claim7.holds Tryd.pinned (.plain (OpenSpec.ofChange fnFreeSpaceSpec)) fnFreeSpaceCard

/-- THE SECOND FORM's CARD OF 'laws.FnExactFreeLoss'. -/
def fnExactFreeLossUptoCard : Claim7 := { stood := { row := fnExactFreeLossUptoRow, standIns := [], harness := (true, "a4eca557f1a77781d7db76095f06e3c27dd8a52baaacd2c7de3b245391d30de1"), looks := false }, kinds := [], alts := [], laidByText := true, laidKinds := [.data], laidTests := true, laidLooks := .later }
def FnExactFreeLossUptoCardSaid : Prop := Claim7.holds Tryd.pinned (.plain (OpenSpec.upto fnExactFreeLossSpec)) fnExactFreeLossUptoCard

/-- THE SECOND FORM's CARD OF 'laws.FnExactFieldStrength'. -/
def fnExactFieldStrengthUptoCard : Claim7 := { stood := { row := fnExactFieldStrengthUptoRow, standIns := [], harness := (true, "a4eca557f1a77781d7db76095f06e3c27dd8a52baaacd2c7de3b245391d30de1"), looks := false }, kinds := [], alts := [], laidByText := true, laidKinds := [.data], laidTests := true, laidLooks := .later }
def FnExactFieldStrengthUptoCardSaid : Prop := Claim7.holds Tryd.pinned (.plain (OpenSpec.upto fnExactFieldStrengthSpec)) fnExactFieldStrengthUptoCard

/-- THE SECOND FORM's CARD OF 'laws.FnExactLevelOfField'. -/
def fnExactLevelOfFieldUptoCard : Claim7 := { stood := { row := fnExactLevelOfFieldUptoRow, standIns := [], harness := (true, "a4eca557f1a77781d7db76095f06e3c27dd8a52baaacd2c7de3b245391d30de1"), looks := false }, kinds := [], alts := [], laidByText := true, laidKinds := [.data], laidTests := true, laidLooks := .later }
def FnExactLevelOfFieldUptoCardSaid : Prop := Claim7.holds Tryd.pinned (.plain (OpenSpec.upto fnExactLevelOfFieldSpec)) fnExactLevelOfFieldUptoCard

/-- THE SECOND FORM's CARD OF 'laws.FnExactFieldOfLevel'. -/
def fnExactFieldOfLevelUptoCard : Claim7 := { stood := { row := fnExactFieldOfLevelUptoRow, standIns := [], harness := (true, "a4eca557f1a77781d7db76095f06e3c27dd8a52baaacd2c7de3b245391d30de1"), looks := false }, kinds := [], alts := [], laidByText := true, laidKinds := [.data], laidTests := true, laidLooks := .later }
def FnExactFieldOfLevelUptoCardSaid : Prop := Claim7.holds Tryd.pinned (.plain (OpenSpec.upto fnExactFieldOfLevelSpec)) fnExactFieldOfLevelUptoCard

/-- THE SECOND FORM's CARD OF 'laws.FnExactRangeOfLoss'. -/
def fnExactRangeOfLossUptoCard : Claim7 := { stood := { row := fnExactRangeOfLossUptoRow, standIns := [], harness := (true, "a4eca557f1a77781d7db76095f06e3c27dd8a52baaacd2c7de3b245391d30de1"), looks := false }, kinds := [], alts := [], laidByText := true, laidKinds := [.data], laidTests := true, laidLooks := .later }
def FnExactRangeOfLossUptoCardSaid : Prop := Claim7.holds Tryd.pinned (.plain (OpenSpec.upto fnExactRangeOfLossSpec)) fnExactRangeOfLossUptoCard

/-- THE SECOND FORM's CARD OF 'laws.FnExactRangeOfField'. -/
def fnExactRangeOfFieldUptoCard : Claim7 := { stood := { row := fnExactRangeOfFieldUptoRow, standIns := [], harness := (true, "a4eca557f1a77781d7db76095f06e3c27dd8a52baaacd2c7de3b245391d30de1"), looks := false }, kinds := [], alts := [], laidByText := true, laidKinds := [.data], laidTests := true, laidLooks := .later }
def FnExactRangeOfFieldUptoCardSaid : Prop := Claim7.holds Tryd.pinned (.plain (OpenSpec.upto fnExactRangeOfFieldSpec)) fnExactRangeOfFieldUptoCard

/-- THE SECOND FORM's CARD OF 'laws.FnExactWavelengthOf'. -/
def fnExactWavelengthOfUptoCard : Claim7 := { stood := { row := fnExactWavelengthOfUptoRow, standIns := [], harness := (true, "a4eca557f1a77781d7db76095f06e3c27dd8a52baaacd2c7de3b245391d30de1"), looks := false }, kinds := [], alts := [], laidByText := true, laidKinds := [.data], laidTests := true, laidLooks := .later }
def FnExactWavelengthOfUptoCardSaid : Prop := Claim7.holds Tryd.pinned (.plain (OpenSpec.upto fnExactWavelengthOfSpec)) fnExactWavelengthOfUptoCard

/-- THE SECOND FORM's CARD OF 'laws.FnExactFarDistance'. -/
def fnExactFarDistanceUptoCard : Claim7 := { stood := { row := fnExactFarDistanceUptoRow, standIns := [], harness := (true, "a4eca557f1a77781d7db76095f06e3c27dd8a52baaacd2c7de3b245391d30de1"), looks := false }, kinds := [], alts := [], laidByText := true, laidKinds := [.data], laidTests := true, laidLooks := .later }
def FnExactFarDistanceUptoCardSaid : Prop := Claim7.holds Tryd.pinned (.plain (OpenSpec.upto fnExactFarDistanceSpec)) fnExactFarDistanceUptoCard

/-- THE SECOND FORM's CARD OF 'laws.FnExactFreeTable'. -/
def fnExactFreeTableUptoCard : Claim7 := { stood := { row := fnExactFreeTableUptoRow, standIns := [], harness := (true, "a4eca557f1a77781d7db76095f06e3c27dd8a52baaacd2c7de3b245391d30de1"), looks := false }, kinds := [], alts := [], laidByText := true, laidKinds := [.data], laidTests := true, laidLooks := .later }
def FnExactFreeTableUptoCardSaid : Prop := Claim7.holds Tryd.pinned (.plain (OpenSpec.upto fnExactFreeTableSpec)) fnExactFreeTableUptoCard

/-- THE SECOND FORM's CARD OF 'laws.FnFreeSpace'. -/
def fnFreeSpaceUptoCard : Claim7 := { stood := { row := fnFreeSpaceUptoRow, standIns := [], harness := (true, "a4eca557f1a77781d7db76095f06e3c27dd8a52baaacd2c7de3b245391d30de1"), looks := false }, kinds := [], alts := [], laidByText := true, laidKinds := [.data], laidTests := true, laidLooks := .later }
def FnFreeSpaceUptoCardSaid : Prop := Claim7.holds Tryd.pinned (.plain (OpenSpec.upto fnFreeSpaceSpec)) fnFreeSpaceUptoCard
end Rows
end Go.Proofs.YtnbkdekndflefaaDoor
