/-
  DERIVED. GIVEN WITH THE SEED: THE CARDS: each row of YtigbbhohgeemdaaDoorRows.lean that lists a variable, with what it lists TIED to the program's text (the seventh form; the later family's looks); each row that meets fmt, with fmt's text TOLD by the authors' own Lean function (tested against real Go, not proved from fmt's source: count such statements apart). THE CARD IS WHAT COUNTS. Prove the row's statement (the work); the ties are given (YtigbbhohgeemdaaDoorTie.lean); close each card by the builder's one call (the guide's Derived/Test/ToyasCard.lean, 'card_holds'). Laid BY PROGRAM, IN A SANDBOX (cutbox-door.mjs). By AI agents, Wed Nov 11 2026. No macro, syntax, notation, axiom, sorry.
-/
import Derived.Test.YtigbbhohgeemdaaDoorRows
import GoSem.ClaimSeven
namespace Go.Proofs.YtigbbhohgeemdaaDoor
namespace Rows

/-- THE TIED CARD OF 'laws.FnExactClutterName'. -/
def fnExactClutterNameCard : Claim7 := { stood := { row := fnExactClutterNameRow, standIns := [], harness := (true, "02ab97934de9e7d7170748325822f8696a7391d8147d32d18c09d1fbc74b48f3"), looks := false }, kinds := [], alts := [], laidByText := true, laidKinds := [.data, .data], laidTests := true, laidLooks := .later }
def FnExactClutterNameCardSaid : Prop := Claim7.holds Tryd.pinned (.plain (OpenSpec.ofChange fnExactClutterNameSpec)) fnExactClutterNameCard

/-- THE TIED CARD OF 'laws.FnExactClutterHeight'. -/
def fnExactClutterHeightCard : Claim7 := { stood := { row := fnExactClutterHeightRow, standIns := [], harness := (true, "02ab97934de9e7d7170748325822f8696a7391d8147d32d18c09d1fbc74b48f3"), looks := false }, kinds := [], alts := [], laidByText := true, laidKinds := [.data, .data], laidTests := true, laidLooks := .later }
def FnExactClutterHeightCardSaid : Prop := Claim7.holds Tryd.pinned (.plain (OpenSpec.ofChange fnExactClutterHeightSpec)) fnExactClutterHeightCard

/-- THE TIED CARD OF 'laws.FnExactClutterLoss'. -/
def fnExactClutterLossCard : Claim7 := { stood := { row := fnExactClutterLossRow, standIns := [], harness := (true, "02ab97934de9e7d7170748325822f8696a7391d8147d32d18c09d1fbc74b48f3"), looks := false }, kinds := [], alts := [], laidByText := true, laidKinds := [.data, .data], laidTests := true, laidLooks := .later }
def FnExactClutterLossCardSaid : Prop := Claim7.holds Tryd.pinned (.plain (OpenSpec.ofChange fnExactClutterLossSpec)) fnExactClutterLossCard

/-- THE TIED CARD OF 'laws.FnExactRainSpecific'. -/
def fnExactRainSpecificCard : Claim7 := { stood := { row := fnExactRainSpecificRow, standIns := [], harness := (true, "02ab97934de9e7d7170748325822f8696a7391d8147d32d18c09d1fbc74b48f3"), looks := false }, kinds := [], alts := [], laidByText := true, laidKinds := [.data], laidTests := true, laidLooks := .later }
def FnExactRainSpecificCardSaid : Prop := Claim7.holds Tryd.pinned (.plain (OpenSpec.ofChange fnExactRainSpecificSpec)) fnExactRainSpecificCard

/-- THE TIED CARD OF 'laws.FnExactRainLoss'. -/
def fnExactRainLossCard : Claim7 := { stood := { row := fnExactRainLossRow, standIns := [], harness := (true, "02ab97934de9e7d7170748325822f8696a7391d8147d32d18c09d1fbc74b48f3"), looks := false }, kinds := [], alts := [], laidByText := true, laidKinds := [.data], laidTests := true, laidLooks := .later }
def FnExactRainLossCardSaid : Prop := Claim7.holds Tryd.pinned (.plain (OpenSpec.ofChange fnExactRainLossSpec)) fnExactRainLossCard

/-- THE TIED CARD OF 'laws.FnExactGasSpecific'. -/
def fnExactGasSpecificCard : Claim7 := { stood := { row := fnExactGasSpecificRow, standIns := [], harness := (true, "02ab97934de9e7d7170748325822f8696a7391d8147d32d18c09d1fbc74b48f3"), looks := false }, kinds := [], alts := [], laidByText := true, laidKinds := [.data], laidTests := true, laidLooks := .later }
def FnExactGasSpecificCardSaid : Prop := Claim7.holds Tryd.pinned (.plain (OpenSpec.ofChange fnExactGasSpecificSpec)) fnExactGasSpecificCard

/-- THE TIED CARD OF 'laws.FnExactGasLoss'. -/
def fnExactGasLossCard : Claim7 := { stood := { row := fnExactGasLossRow, standIns := [], harness := (true, "02ab97934de9e7d7170748325822f8696a7391d8147d32d18c09d1fbc74b48f3"), looks := false }, kinds := [], alts := [], laidByText := true, laidKinds := [.data], laidTests := true, laidLooks := .later }
def FnExactGasLossCardSaid : Prop := Claim7.holds Tryd.pinned (.plain (OpenSpec.ofChange fnExactGasLossSpec)) fnExactGasLossCard

/-- THE TIED CARD OF 'laws.FnExactVegetationLoss'. -/
def fnExactVegetationLossCard : Claim7 := { stood := { row := fnExactVegetationLossRow, standIns := [], harness := (true, "02ab97934de9e7d7170748325822f8696a7391d8147d32d18c09d1fbc74b48f3"), looks := false }, kinds := [], alts := [], laidByText := true, laidKinds := [.data], laidTests := true, laidLooks := .later }
def FnExactVegetationLossCardSaid : Prop := Claim7.holds Tryd.pinned (.plain (OpenSpec.ofChange fnExactVegetationLossSpec)) fnExactVegetationLossCard

/-- THE TIED CARD OF 'laws.FnExactLossesOf'. -/
def fnExactLossesOfCard : Claim7 := { stood := { row := fnExactLossesOfRow, standIns := [], harness := (true, "02ab97934de9e7d7170748325822f8696a7391d8147d32d18c09d1fbc74b48f3"), looks := false }, kinds := [], alts := [], laidByText := true, laidKinds := [.data, .data], laidTests := true, laidLooks := .later }
def FnExactLossesOfCardSaid : Prop := Claim7.holds Tryd.pinned (.plain (OpenSpec.ofChange fnExactLossesOfSpec)) fnExactLossesOfCard

/-- THE SECOND FORM's CARD OF 'laws.FnExactClutterName'. -/
def fnExactClutterNameUptoCard : Claim7 := { stood := { row := fnExactClutterNameUptoRow, standIns := [], harness := (true, "02ab97934de9e7d7170748325822f8696a7391d8147d32d18c09d1fbc74b48f3"), looks := false }, kinds := [], alts := [], laidByText := true, laidKinds := [.data, .data], laidTests := true, laidLooks := .later }
def FnExactClutterNameUptoCardSaid : Prop := Claim7.holds Tryd.pinned (.plain (OpenSpec.upto fnExactClutterNameSpec)) fnExactClutterNameUptoCard

/-- THE SECOND FORM's CARD OF 'laws.FnExactClutterHeight'. -/
def fnExactClutterHeightUptoCard : Claim7 := { stood := { row := fnExactClutterHeightUptoRow, standIns := [], harness := (true, "02ab97934de9e7d7170748325822f8696a7391d8147d32d18c09d1fbc74b48f3"), looks := false }, kinds := [], alts := [], laidByText := true, laidKinds := [.data, .data], laidTests := true, laidLooks := .later }
def FnExactClutterHeightUptoCardSaid : Prop := Claim7.holds Tryd.pinned (.plain (OpenSpec.upto fnExactClutterHeightSpec)) fnExactClutterHeightUptoCard

/-- THE SECOND FORM's CARD OF 'laws.FnExactClutterLoss'. -/
def fnExactClutterLossUptoCard : Claim7 := { stood := { row := fnExactClutterLossUptoRow, standIns := [], harness := (true, "02ab97934de9e7d7170748325822f8696a7391d8147d32d18c09d1fbc74b48f3"), looks := false }, kinds := [], alts := [], laidByText := true, laidKinds := [.data, .data], laidTests := true, laidLooks := .later }
def FnExactClutterLossUptoCardSaid : Prop := Claim7.holds Tryd.pinned (.plain (OpenSpec.upto fnExactClutterLossSpec)) fnExactClutterLossUptoCard

/-- THE SECOND FORM's CARD OF 'laws.FnExactRainSpecific'. -/
def fnExactRainSpecificUptoCard : Claim7 := { stood := { row := fnExactRainSpecificUptoRow, standIns := [], harness := (true, "02ab97934de9e7d7170748325822f8696a7391d8147d32d18c09d1fbc74b48f3"), looks := false }, kinds := [], alts := [], laidByText := true, laidKinds := [.data], laidTests := true, laidLooks := .later }
def FnExactRainSpecificUptoCardSaid : Prop := Claim7.holds Tryd.pinned (.plain (OpenSpec.upto fnExactRainSpecificSpec)) fnExactRainSpecificUptoCard

/-- THE SECOND FORM's CARD OF 'laws.FnExactRainLoss'. -/
def fnExactRainLossUptoCard : Claim7 := { stood := { row := fnExactRainLossUptoRow, standIns := [], harness := (true, "02ab97934de9e7d7170748325822f8696a7391d8147d32d18c09d1fbc74b48f3"), looks := false }, kinds := [], alts := [], laidByText := true, laidKinds := [.data], laidTests := true, laidLooks := .later }
def FnExactRainLossUptoCardSaid : Prop := Claim7.holds Tryd.pinned (.plain (OpenSpec.upto fnExactRainLossSpec)) fnExactRainLossUptoCard

/-- THE SECOND FORM's CARD OF 'laws.FnExactGasSpecific'. -/
def fnExactGasSpecificUptoCard : Claim7 := { stood := { row := fnExactGasSpecificUptoRow, standIns := [], harness := (true, "02ab97934de9e7d7170748325822f8696a7391d8147d32d18c09d1fbc74b48f3"), looks := false }, kinds := [], alts := [], laidByText := true, laidKinds := [.data], laidTests := true, laidLooks := .later }
def FnExactGasSpecificUptoCardSaid : Prop := Claim7.holds Tryd.pinned (.plain (OpenSpec.upto fnExactGasSpecificSpec)) fnExactGasSpecificUptoCard

/-- THE SECOND FORM's CARD OF 'laws.FnExactGasLoss'. -/
def fnExactGasLossUptoCard : Claim7 := { stood := { row := fnExactGasLossUptoRow, standIns := [], harness := (true, "02ab97934de9e7d7170748325822f8696a7391d8147d32d18c09d1fbc74b48f3"), looks := false }, kinds := [], alts := [], laidByText := true, laidKinds := [.data], laidTests := true, laidLooks := .later }
def FnExactGasLossUptoCardSaid : Prop := Claim7.holds Tryd.pinned (.plain (OpenSpec.upto fnExactGasLossSpec)) fnExactGasLossUptoCard

/-- THE SECOND FORM's CARD OF 'laws.FnExactVegetationLoss'. -/
def fnExactVegetationLossUptoCard : Claim7 := { stood := { row := fnExactVegetationLossUptoRow, standIns := [], harness := (true, "02ab97934de9e7d7170748325822f8696a7391d8147d32d18c09d1fbc74b48f3"), looks := false }, kinds := [], alts := [], laidByText := true, laidKinds := [.data], laidTests := true, laidLooks := .later }
def FnExactVegetationLossUptoCardSaid : Prop := Claim7.holds Tryd.pinned (.plain (OpenSpec.upto fnExactVegetationLossSpec)) fnExactVegetationLossUptoCard

/-- THE SECOND FORM's CARD OF 'laws.FnExactLossesOf'. -/
def fnExactLossesOfUptoCard : Claim7 := { stood := { row := fnExactLossesOfUptoRow, standIns := [], harness := (true, "02ab97934de9e7d7170748325822f8696a7391d8147d32d18c09d1fbc74b48f3"), looks := false }, kinds := [], alts := [], laidByText := true, laidKinds := [.data, .data], laidTests := true, laidLooks := .later }
def FnExactLossesOfUptoCardSaid : Prop := Claim7.holds Tryd.pinned (.plain (OpenSpec.upto fnExactLossesOfSpec)) fnExactLossesOfUptoCard
end Rows
end Go.Proofs.YtigbbhohgeemdaaDoor
