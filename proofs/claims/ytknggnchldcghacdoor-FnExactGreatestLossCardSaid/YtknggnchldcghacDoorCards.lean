/-
  DERIVED. GIVEN WITH THE SEED: THE CARDS: each row of YtknggnchldcghacDoorRows.lean that lists a variable, with what it lists TIED to the program's text (the seventh form; the later family's looks); each row that meets fmt, with fmt's text TOLD by the authors' own Lean function (tested against real Go, not proved from fmt's source: count such statements apart). THE CARD IS WHAT COUNTS. Prove the row's statement (the work); the ties are given (YtknggnchldcghacDoorTie.lean); close each card by the builder's one call (the guide's Derived/Test/ToyasCard.lean, 'card_holds'). Laid BY PROGRAM, IN A SANDBOX (cutbox-door.mjs). By AI agents, Wed Nov 11 2026. No macro, syntax, notation, axiom, sorry.
-/
import Derived.Test.YtknggnchldcghacDoorRows
import GoSem.ClaimSeven
namespace Go.Proofs.YtknggnchldcghacDoor
namespace Rows

/-- THE TIED CARD OF 'laws.FnExactNoiseFloor'. -/
def fnExactNoiseFloorCard : Claim7 := { stood := { row := fnExactNoiseFloorRow, standIns := [], harness := (true, "67b3ee6a48d439e001030cd43299961235d9683fff8be370dee24ad5bbadce3c"), looks := true }, kinds := [], alts := [], laidByText := true, laidKinds := [.handle], laidTests := true, laidLooks := .later }
def FnExactNoiseFloorCardSaid : Prop := Claim7.holds Tryd.pinned (.plain (OpenSpec.ofChange fnExactNoiseFloorSpec)) fnExactNoiseFloorCard

/-- THE TIED CARD OF 'laws.FnExactEirpOf'. -/
def fnExactEirpOfCard : Claim7 := { stood := { row := fnExactEirpOfRow, standIns := [], harness := (true, "67b3ee6a48d439e001030cd43299961235d9683fff8be370dee24ad5bbadce3c"), looks := true }, kinds := [], alts := [], laidByText := true, laidKinds := [.handle], laidTests := true, laidLooks := .later }
def FnExactEirpOfCardSaid : Prop := Claim7.holds Tryd.pinned (.plain (OpenSpec.ofChange fnExactEirpOfSpec)) fnExactEirpOfCard

/-- THE TIED CARD OF 'laws.FnExactSnrOf'. -/
def fnExactSnrOfCard : Claim7 := { stood := { row := fnExactSnrOfRow, standIns := [], harness := (true, "67b3ee6a48d439e001030cd43299961235d9683fff8be370dee24ad5bbadce3c"), looks := true }, kinds := [], alts := [], laidByText := true, laidKinds := [.handle], laidTests := true, laidLooks := .later }
def FnExactSnrOfCardSaid : Prop := Claim7.holds Tryd.pinned (.plain (OpenSpec.ofChange fnExactSnrOfSpec)) fnExactSnrOfCard

/-- THE TIED CARD OF 'laws.FnExactSinrOf'. -/
def fnExactSinrOfCard : Claim7 := { stood := { row := fnExactSinrOfRow, standIns := [], harness := (true, "67b3ee6a48d439e001030cd43299961235d9683fff8be370dee24ad5bbadce3c"), looks := true }, kinds := [], alts := [], laidByText := true, laidKinds := [.handle], laidTests := true, laidLooks := .later }
def FnExactSinrOfCardSaid : Prop := Claim7.holds Tryd.pinned (.plain (OpenSpec.ofChange fnExactSinrOfSpec)) fnExactSinrOfCard

/-- THE TIED CARD OF 'laws.FnExactBestMode'. -/
def fnExactBestModeCard : Claim7 := { stood := { row := fnExactBestModeRow, standIns := [], harness := (true, "67b3ee6a48d439e001030cd43299961235d9683fff8be370dee24ad5bbadce3c"), looks := true }, kinds := [], alts := [], laidByText := true, laidKinds := [.handle], laidTests := true, laidLooks := .later }
def FnExactBestModeCardSaid : Prop := Claim7.holds Tryd.pinned (.plain (OpenSpec.ofChange fnExactBestModeSpec)) fnExactBestModeCard

/-- THE TIED CARD OF 'laws.FnExactRateAt'. -/
def fnExactRateAtCard : Claim7 := { stood := { row := fnExactRateAtRow, standIns := [], harness := (true, "67b3ee6a48d439e001030cd43299961235d9683fff8be370dee24ad5bbadce3c"), looks := true }, kinds := [], alts := [], laidByText := true, laidKinds := [.handle], laidTests := true, laidLooks := .later }
def FnExactRateAtCardSaid : Prop := Claim7.holds Tryd.pinned (.plain (OpenSpec.ofChange fnExactRateAtSpec)) fnExactRateAtCard

/-- THE TIED CARD OF 'laws.FnExactLeastLevel'. -/
def fnExactLeastLevelCard : Claim7 := { stood := { row := fnExactLeastLevelRow, standIns := [], harness := (true, "67b3ee6a48d439e001030cd43299961235d9683fff8be370dee24ad5bbadce3c"), looks := true }, kinds := [], alts := [], laidByText := true, laidKinds := [.handle], laidTests := true, laidLooks := .later }
def FnExactLeastLevelCardSaid : Prop := Claim7.holds Tryd.pinned (.plain (OpenSpec.ofChange fnExactLeastLevelSpec)) fnExactLeastLevelCard

/-- THE TIED CARD OF 'laws.FnExactArrivingLevel'. -/
def fnExactArrivingLevelCard : Claim7 := { stood := { row := fnExactArrivingLevelRow, standIns := [], harness := (true, "67b3ee6a48d439e001030cd43299961235d9683fff8be370dee24ad5bbadce3c"), looks := true }, kinds := [], alts := [], laidByText := true, laidKinds := [.handle], laidTests := true, laidLooks := .later }
def FnExactArrivingLevelCardSaid : Prop := Claim7.holds Tryd.pinned (.plain (OpenSpec.ofChange fnExactArrivingLevelSpec)) fnExactArrivingLevelCard

/-- THE TIED CARD OF 'laws.FnExactGreatestLoss'. -/
def fnExactGreatestLossCard : Claim7 := { stood := { row := fnExactGreatestLossRow, standIns := [], harness := (true, "67b3ee6a48d439e001030cd43299961235d9683fff8be370dee24ad5bbadce3c"), looks := true }, kinds := [], alts := [], laidByText := true, laidKinds := [.handle], laidTests := true, laidLooks := .later }
def FnExactGreatestLossCardSaid : Prop := Claim7.holds Tryd.pinned (.plain (OpenSpec.ofChange fnExactGreatestLossSpec)) fnExactGreatestLossCard

/-- THE TIED CARD OF 'laws.FnExactRadioText'. -/
def fnExactRadioTextCard : Claim7 := { stood := { row := fnExactRadioTextRow, standIns := [], harness := (true, "67b3ee6a48d439e001030cd43299961235d9683fff8be370dee24ad5bbadce3c"), looks := true }, kinds := [], alts := [], laidByText := true, laidKinds := [.data, .data, .data], laidTests := true, laidLooks := .later }
def FnExactRadioTextCardSaid : Prop := Claim7.holds Tryd.pinned (.plain (OpenSpec.ofChange fnExactRadioTextSpec)) fnExactRadioTextCard

/-- THE TIED CARD OF 'laws.FnExactReadRadio'. -/
def fnExactReadRadioCard : Claim7 := { stood := { row := fnExactReadRadioRow, standIns := [], harness := (true, "67b3ee6a48d439e001030cd43299961235d9683fff8be370dee24ad5bbadce3c"), looks := true }, kinds := [], alts := [], laidByText := true, laidKinds := [.data, .data, .data, .data, .sentinel, .sentinel, .pinned], laidTests := true, laidLooks := .later }
def FnExactReadRadioCardSaid : Prop := Claim7.holds Tryd.pinned (.plain (OpenSpec.ofChange fnExactReadRadioSpec)) fnExactReadRadioCard

/-- THE SECOND FORM's CARD OF 'laws.FnExactNoiseFloor'. -/
def fnExactNoiseFloorUptoCard : Claim7 := { stood := { row := fnExactNoiseFloorUptoRow, standIns := [], harness := (true, "67b3ee6a48d439e001030cd43299961235d9683fff8be370dee24ad5bbadce3c"), looks := true }, kinds := [], alts := [], laidByText := true, laidKinds := [.handle], laidTests := true, laidLooks := .later }
def FnExactNoiseFloorUptoCardSaid : Prop := Claim7.holds Tryd.pinned (.plain (OpenSpec.upto fnExactNoiseFloorSpec)) fnExactNoiseFloorUptoCard

/-- THE SECOND FORM's CARD OF 'laws.FnExactEirpOf'. -/
def fnExactEirpOfUptoCard : Claim7 := { stood := { row := fnExactEirpOfUptoRow, standIns := [], harness := (true, "67b3ee6a48d439e001030cd43299961235d9683fff8be370dee24ad5bbadce3c"), looks := true }, kinds := [], alts := [], laidByText := true, laidKinds := [.handle], laidTests := true, laidLooks := .later }
def FnExactEirpOfUptoCardSaid : Prop := Claim7.holds Tryd.pinned (.plain (OpenSpec.upto fnExactEirpOfSpec)) fnExactEirpOfUptoCard

/-- THE SECOND FORM's CARD OF 'laws.FnExactSnrOf'. -/
def fnExactSnrOfUptoCard : Claim7 := { stood := { row := fnExactSnrOfUptoRow, standIns := [], harness := (true, "67b3ee6a48d439e001030cd43299961235d9683fff8be370dee24ad5bbadce3c"), looks := true }, kinds := [], alts := [], laidByText := true, laidKinds := [.handle], laidTests := true, laidLooks := .later }
def FnExactSnrOfUptoCardSaid : Prop := Claim7.holds Tryd.pinned (.plain (OpenSpec.upto fnExactSnrOfSpec)) fnExactSnrOfUptoCard

/-- THE SECOND FORM's CARD OF 'laws.FnExactSinrOf'. -/
def fnExactSinrOfUptoCard : Claim7 := { stood := { row := fnExactSinrOfUptoRow, standIns := [], harness := (true, "67b3ee6a48d439e001030cd43299961235d9683fff8be370dee24ad5bbadce3c"), looks := true }, kinds := [], alts := [], laidByText := true, laidKinds := [.handle], laidTests := true, laidLooks := .later }
def FnExactSinrOfUptoCardSaid : Prop := Claim7.holds Tryd.pinned (.plain (OpenSpec.upto fnExactSinrOfSpec)) fnExactSinrOfUptoCard

/-- THE SECOND FORM's CARD OF 'laws.FnExactBestMode'. -/
def fnExactBestModeUptoCard : Claim7 := { stood := { row := fnExactBestModeUptoRow, standIns := [], harness := (true, "67b3ee6a48d439e001030cd43299961235d9683fff8be370dee24ad5bbadce3c"), looks := true }, kinds := [], alts := [], laidByText := true, laidKinds := [.handle], laidTests := true, laidLooks := .later }
def FnExactBestModeUptoCardSaid : Prop := Claim7.holds Tryd.pinned (.plain (OpenSpec.upto fnExactBestModeSpec)) fnExactBestModeUptoCard

/-- THE SECOND FORM's CARD OF 'laws.FnExactRateAt'. -/
def fnExactRateAtUptoCard : Claim7 := { stood := { row := fnExactRateAtUptoRow, standIns := [], harness := (true, "67b3ee6a48d439e001030cd43299961235d9683fff8be370dee24ad5bbadce3c"), looks := true }, kinds := [], alts := [], laidByText := true, laidKinds := [.handle], laidTests := true, laidLooks := .later }
def FnExactRateAtUptoCardSaid : Prop := Claim7.holds Tryd.pinned (.plain (OpenSpec.upto fnExactRateAtSpec)) fnExactRateAtUptoCard

/-- THE SECOND FORM's CARD OF 'laws.FnExactLeastLevel'. -/
def fnExactLeastLevelUptoCard : Claim7 := { stood := { row := fnExactLeastLevelUptoRow, standIns := [], harness := (true, "67b3ee6a48d439e001030cd43299961235d9683fff8be370dee24ad5bbadce3c"), looks := true }, kinds := [], alts := [], laidByText := true, laidKinds := [.handle], laidTests := true, laidLooks := .later }
def FnExactLeastLevelUptoCardSaid : Prop := Claim7.holds Tryd.pinned (.plain (OpenSpec.upto fnExactLeastLevelSpec)) fnExactLeastLevelUptoCard

/-- THE SECOND FORM's CARD OF 'laws.FnExactArrivingLevel'. -/
def fnExactArrivingLevelUptoCard : Claim7 := { stood := { row := fnExactArrivingLevelUptoRow, standIns := [], harness := (true, "67b3ee6a48d439e001030cd43299961235d9683fff8be370dee24ad5bbadce3c"), looks := true }, kinds := [], alts := [], laidByText := true, laidKinds := [.handle], laidTests := true, laidLooks := .later }
def FnExactArrivingLevelUptoCardSaid : Prop := Claim7.holds Tryd.pinned (.plain (OpenSpec.upto fnExactArrivingLevelSpec)) fnExactArrivingLevelUptoCard

/-- THE SECOND FORM's CARD OF 'laws.FnExactGreatestLoss'. -/
def fnExactGreatestLossUptoCard : Claim7 := { stood := { row := fnExactGreatestLossUptoRow, standIns := [], harness := (true, "67b3ee6a48d439e001030cd43299961235d9683fff8be370dee24ad5bbadce3c"), looks := true }, kinds := [], alts := [], laidByText := true, laidKinds := [.handle], laidTests := true, laidLooks := .later }
def FnExactGreatestLossUptoCardSaid : Prop := Claim7.holds Tryd.pinned (.plain (OpenSpec.upto fnExactGreatestLossSpec)) fnExactGreatestLossUptoCard

/-- THE SECOND FORM's CARD OF 'laws.FnExactRadioText'. -/
def fnExactRadioTextUptoCard : Claim7 := { stood := { row := fnExactRadioTextUptoRow, standIns := [], harness := (true, "67b3ee6a48d439e001030cd43299961235d9683fff8be370dee24ad5bbadce3c"), looks := true }, kinds := [], alts := [], laidByText := true, laidKinds := [.data, .data, .data], laidTests := true, laidLooks := .later }
def FnExactRadioTextUptoCardSaid : Prop := Claim7.holds Tryd.pinned (.plain (OpenSpec.upto fnExactRadioTextSpec)) fnExactRadioTextUptoCard

/-- THE SECOND FORM's CARD OF 'laws.FnExactReadRadio'. -/
def fnExactReadRadioUptoCard : Claim7 := { stood := { row := fnExactReadRadioUptoRow, standIns := [], harness := (true, "67b3ee6a48d439e001030cd43299961235d9683fff8be370dee24ad5bbadce3c"), looks := true }, kinds := [], alts := [], laidByText := true, laidKinds := [.data, .data, .data, .data, .sentinel, .sentinel, .pinned], laidTests := true, laidLooks := .later }
def FnExactReadRadioUptoCardSaid : Prop := Claim7.holds Tryd.pinned (.plain (OpenSpec.upto fnExactReadRadioSpec)) fnExactReadRadioUptoCard
end Rows
end Go.Proofs.YtknggnchldcghacDoor
