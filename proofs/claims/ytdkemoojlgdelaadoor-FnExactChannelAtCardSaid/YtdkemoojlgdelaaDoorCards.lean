/-
  DERIVED. GIVEN WITH THE SEED: THE CARDS: each row of YtdkemoojlgdelaaDoorRows.lean that lists a variable, with what it lists TIED to the program's text (the seventh form; the later family's looks); each row that meets fmt, with fmt's text TOLD by the authors' own Lean function (tested against real Go, not proved from fmt's source: count such statements apart). THE CARD IS WHAT COUNTS. Prove the row's statement (the work); the ties are given (YtdkemoojlgdelaaDoorTie.lean); close each card by the builder's one call (the guide's Derived/Test/ToyasCard.lean, 'card_holds'). Laid BY PROGRAM, IN A SANDBOX (cutbox-door.mjs). By AI agents, Wed Nov 11 2026. No macro, syntax, notation, axiom, sorry.
-/
import Derived.Test.YtdkemoojlgdelaaDoorRows
import GoSem.ClaimSeven
namespace Go.Proofs.YtdkemoojlgdelaaDoor
namespace Rows

/-- THE TIED CARD OF 'laws.FnExactValidBand'. -/
def fnExactValidBandCard : Claim7 := { stood := { row := fnExactValidBandRow, standIns := [], harness := (true, "26bccb2f15a6624de9a56f04f919439fcb77ea4d40302cd77218edb9068067a8"), looks := false }, kinds := [], alts := [], laidByText := true, laidKinds := [.data], laidTests := true, laidLooks := .later }
def FnExactValidBandCardSaid : Prop := Claim7.holds Tryd.pinned (.plain (OpenSpec.ofChange fnExactValidBandSpec)) fnExactValidBandCard

/-- THE TIED CARD OF 'laws.FnExactChannelCount'. -/
def fnExactChannelCountCard : Claim7 := { stood := { row := fnExactChannelCountRow, standIns := [], harness := (true, "26bccb2f15a6624de9a56f04f919439fcb77ea4d40302cd77218edb9068067a8"), looks := false }, kinds := [], alts := [], laidByText := true, laidKinds := [.data], laidTests := true, laidLooks := .later }
def FnExactChannelCountCardSaid : Prop := Claim7.holds Tryd.pinned (.plain (OpenSpec.ofChange fnExactChannelCountSpec)) fnExactChannelCountCard

/-- THE TIED CARD OF 'laws.FnExactChannelFrequency'. -/
def fnExactChannelFrequencyCard : Claim7 := { stood := { row := fnExactChannelFrequencyRow, standIns := [], harness := (true, "26bccb2f15a6624de9a56f04f919439fcb77ea4d40302cd77218edb9068067a8"), looks := false }, kinds := [], alts := [], laidByText := true, laidKinds := [.data], laidTests := true, laidLooks := .later }
def FnExactChannelFrequencyCardSaid : Prop := Claim7.holds Tryd.pinned (.plain (OpenSpec.ofChange fnExactChannelFrequencySpec)) fnExactChannelFrequencyCard

/-- THE TIED CARD OF 'laws.FnExactPartnerFrequency'. -/
def fnExactPartnerFrequencyCard : Claim7 := { stood := { row := fnExactPartnerFrequencyRow, standIns := [], harness := (true, "26bccb2f15a6624de9a56f04f919439fcb77ea4d40302cd77218edb9068067a8"), looks := false }, kinds := [], alts := [], laidByText := true, laidKinds := [.data], laidTests := true, laidLooks := .later }
def FnExactPartnerFrequencyCardSaid : Prop := Claim7.holds Tryd.pinned (.plain (OpenSpec.ofChange fnExactPartnerFrequencySpec)) fnExactPartnerFrequencyCard

/-- THE TIED CARD OF 'laws.FnExactChannelAt'. -/
def fnExactChannelAtCard : Claim7 := { stood := { row := fnExactChannelAtRow, standIns := [], harness := (true, "26bccb2f15a6624de9a56f04f919439fcb77ea4d40302cd77218edb9068067a8"), looks := false }, kinds := [], alts := [], laidByText := true, laidKinds := [.data], laidTests := true, laidLooks := .later }
def FnExactChannelAtCardSaid : Prop := Claim7.holds Tryd.pinned (.plain (OpenSpec.ofChange fnExactChannelAtSpec)) fnExactChannelAtCard

/-- THE SECOND FORM's CARD OF 'laws.FnExactValidBand'. -/
def fnExactValidBandUptoCard : Claim7 := { stood := { row := fnExactValidBandUptoRow, standIns := [], harness := (true, "26bccb2f15a6624de9a56f04f919439fcb77ea4d40302cd77218edb9068067a8"), looks := false }, kinds := [], alts := [], laidByText := true, laidKinds := [.data], laidTests := true, laidLooks := .later }
def FnExactValidBandUptoCardSaid : Prop := Claim7.holds Tryd.pinned (.plain (OpenSpec.upto fnExactValidBandSpec)) fnExactValidBandUptoCard

/-- THE SECOND FORM's CARD OF 'laws.FnExactChannelCount'. -/
def fnExactChannelCountUptoCard : Claim7 := { stood := { row := fnExactChannelCountUptoRow, standIns := [], harness := (true, "26bccb2f15a6624de9a56f04f919439fcb77ea4d40302cd77218edb9068067a8"), looks := false }, kinds := [], alts := [], laidByText := true, laidKinds := [.data], laidTests := true, laidLooks := .later }
def FnExactChannelCountUptoCardSaid : Prop := Claim7.holds Tryd.pinned (.plain (OpenSpec.upto fnExactChannelCountSpec)) fnExactChannelCountUptoCard

/-- THE SECOND FORM's CARD OF 'laws.FnExactChannelFrequency'. -/
def fnExactChannelFrequencyUptoCard : Claim7 := { stood := { row := fnExactChannelFrequencyUptoRow, standIns := [], harness := (true, "26bccb2f15a6624de9a56f04f919439fcb77ea4d40302cd77218edb9068067a8"), looks := false }, kinds := [], alts := [], laidByText := true, laidKinds := [.data], laidTests := true, laidLooks := .later }
def FnExactChannelFrequencyUptoCardSaid : Prop := Claim7.holds Tryd.pinned (.plain (OpenSpec.upto fnExactChannelFrequencySpec)) fnExactChannelFrequencyUptoCard

/-- THE SECOND FORM's CARD OF 'laws.FnExactPartnerFrequency'. -/
def fnExactPartnerFrequencyUptoCard : Claim7 := { stood := { row := fnExactPartnerFrequencyUptoRow, standIns := [], harness := (true, "26bccb2f15a6624de9a56f04f919439fcb77ea4d40302cd77218edb9068067a8"), looks := false }, kinds := [], alts := [], laidByText := true, laidKinds := [.data], laidTests := true, laidLooks := .later }
def FnExactPartnerFrequencyUptoCardSaid : Prop := Claim7.holds Tryd.pinned (.plain (OpenSpec.upto fnExactPartnerFrequencySpec)) fnExactPartnerFrequencyUptoCard

/-- THE SECOND FORM's CARD OF 'laws.FnExactChannelAt'. -/
def fnExactChannelAtUptoCard : Claim7 := { stood := { row := fnExactChannelAtUptoRow, standIns := [], harness := (true, "26bccb2f15a6624de9a56f04f919439fcb77ea4d40302cd77218edb9068067a8"), looks := false }, kinds := [], alts := [], laidByText := true, laidKinds := [.data], laidTests := true, laidLooks := .later }
def FnExactChannelAtUptoCardSaid : Prop := Claim7.holds Tryd.pinned (.plain (OpenSpec.upto fnExactChannelAtSpec)) fnExactChannelAtUptoCard
end Rows
end Go.Proofs.YtdkemoojlgdelaaDoor
