/-
  DERIVED. GIVEN WITH THE SEED: THE CARDS: each row of YtadoaenmmemjdaaDoorRows.lean that lists a variable, with what it lists TIED to the program's text (the seventh form; the later family's looks); each row that meets fmt, with fmt's text TOLD by the authors' own Lean function (tested against real Go, not proved from fmt's source: count such statements apart). THE CARD IS WHAT COUNTS. Prove the row's statement (the work); the ties are given (YtadoaenmmemjdaaDoorTie.lean); close each card by the builder's one call (the guide's Derived/Test/ToyasCard.lean, 'card_holds'). Laid BY PROGRAM, IN A SANDBOX (cutbox-door.mjs). By AI agents, Wed Nov 11 2026. No macro, syntax, notation, axiom, sorry.
-/
import Derived.Test.YtadoaenmmemjdaaDoorRows
import GoSem.ClaimSeven
namespace Go.Proofs.YtadoaenmmemjdaaDoor
namespace Rows

/-- THE TIED CARD OF 'laws.FnExactEndHeight'. -/
def fnExactEndHeightCard : Claim7 := { stood := { row := fnExactEndHeightRow, standIns := [], harness := (true, "c7f0effd1e47a4b0b3a8a3c8c221aa1e664cd4c9787484243704dde7c38d1478"), looks := true }, kinds := [], alts := [], laidByText := true, laidKinds := [.sentinel, .sentinel, .sentinel, .sentinel], laidTests := true, laidLooks := .later }
def FnExactEndHeightCardSaid : Prop := Claim7.holds Tryd.pinned (.plain (OpenSpec.ofChange fnExactEndHeightSpec)) fnExactEndHeightCard

/-- THE TIED CARD OF 'laws.FnExactProfileBetween'. -/
def fnExactProfileBetweenCard : Claim7 := { stood := { row := fnExactProfileBetweenRow, standIns := [], harness := (true, "c7f0effd1e47a4b0b3a8a3c8c221aa1e664cd4c9787484243704dde7c38d1478"), looks := true }, kinds := [], alts := [], laidByText := true, laidKinds := [.sentinel, .sentinel, .sentinel, .sentinel], laidTests := true, laidLooks := .later }
def FnExactProfileBetweenCardSaid : Prop := Claim7.holds Tryd.pinned (.plain (OpenSpec.ofChange fnExactProfileBetweenSpec)) fnExactProfileBetweenCard

/-- THE TIED CARD OF 'laws.FnExactElevationOf'. -/
def fnExactElevationOfCard : Claim7 := { stood := { row := fnExactElevationOfRow, standIns := [], harness := (true, "c7f0effd1e47a4b0b3a8a3c8c221aa1e664cd4c9787484243704dde7c38d1478"), looks := true }, kinds := [], alts := [], laidByText := true, laidKinds := [.data, .sentinel, .sentinel, .sentinel, .sentinel], laidTests := true, laidLooks := .later }
def FnExactElevationOfCardSaid : Prop := Claim7.holds Tryd.pinned (.plain (OpenSpec.ofChange fnExactElevationOfSpec)) fnExactElevationOfCard

/-- THE SECOND FORM's CARD OF 'laws.FnExactEndHeight'. -/
def fnExactEndHeightUptoCard : Claim7 := { stood := { row := fnExactEndHeightUptoRow, standIns := [], harness := (true, "c7f0effd1e47a4b0b3a8a3c8c221aa1e664cd4c9787484243704dde7c38d1478"), looks := true }, kinds := [], alts := [], laidByText := true, laidKinds := [.sentinel, .sentinel, .sentinel, .sentinel], laidTests := true, laidLooks := .later }
def FnExactEndHeightUptoCardSaid : Prop := Claim7.holds Tryd.pinned (.plain (OpenSpec.upto fnExactEndHeightSpec)) fnExactEndHeightUptoCard

/-- THE SECOND FORM's CARD OF 'laws.FnExactProfileBetween'. -/
def fnExactProfileBetweenUptoCard : Claim7 := { stood := { row := fnExactProfileBetweenUptoRow, standIns := [], harness := (true, "c7f0effd1e47a4b0b3a8a3c8c221aa1e664cd4c9787484243704dde7c38d1478"), looks := true }, kinds := [], alts := [], laidByText := true, laidKinds := [.sentinel, .sentinel, .sentinel, .sentinel], laidTests := true, laidLooks := .later }
def FnExactProfileBetweenUptoCardSaid : Prop := Claim7.holds Tryd.pinned (.plain (OpenSpec.upto fnExactProfileBetweenSpec)) fnExactProfileBetweenUptoCard

/-- THE SECOND FORM's CARD OF 'laws.FnExactElevationOf'. -/
def fnExactElevationOfUptoCard : Claim7 := { stood := { row := fnExactElevationOfUptoRow, standIns := [], harness := (true, "c7f0effd1e47a4b0b3a8a3c8c221aa1e664cd4c9787484243704dde7c38d1478"), looks := true }, kinds := [], alts := [], laidByText := true, laidKinds := [.data, .sentinel, .sentinel, .sentinel, .sentinel], laidTests := true, laidLooks := .later }
def FnExactElevationOfUptoCardSaid : Prop := Claim7.holds Tryd.pinned (.plain (OpenSpec.upto fnExactElevationOfSpec)) fnExactElevationOfUptoCard
end Rows
end Go.Proofs.YtadoaenmmemjdaaDoor
