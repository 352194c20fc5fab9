/-
  DERIVED. GIVEN WITH THE SEED: THE CARDS: each row of YtbmhhhhodlfcbaaDoorRows.lean that lists a variable, with what it lists TIED to the program's text (the seventh form; the later family's looks); each row that meets fmt, with fmt's text TOLD by the authors' own Lean function (tested against real Go, not proved from fmt's source: count such statements apart). THE CARD IS WHAT COUNTS. Prove the row's statement (the work); the ties are given (YtbmhhhhodlfcbaaDoorTie.lean); close each card by the builder's one call (the guide's Derived/Test/ToyasCard.lean, 'card_holds'). Laid BY PROGRAM, IN A SANDBOX (cutbox-door.mjs). By AI agents, Wed Nov 11 2026. No macro, syntax, notation, axiom, sorry.
-/
import Derived.Test.YtbmhhhhodlfcbaaDoorRows
import GoSem.ClaimSeven
namespace Go.Proofs.YtbmhhhhodlfcbaaDoor
namespace Rows

/-- THE TIED CARD OF 'laws.FnExactBandText'. -/
def fnExactBandTextCard : Claim7 := { stood := { row := fnExactBandTextRow, standIns := [], harness := (true, "03b2b2b2b7009102b7a44d72d00343ebe8d153d98eef85635980e577e5e9d499"), looks := true }, kinds := [], alts := [], laidByText := true, laidKinds := [.data, .data, .data, .data], laidTests := true, laidLooks := .later }
def FnExactBandTextCardSaid : Prop := Claim7.holds Tryd.pinned (.plain (OpenSpec.ofChange fnExactBandTextSpec)) fnExactBandTextCard

/-- THE TIED CARD OF 'laws.FnExactReadBand'. -/
def fnExactReadBandCard : Claim7 := { stood := { row := fnExactReadBandRow, standIns := [], harness := (true, "03b2b2b2b7009102b7a44d72d00343ebe8d153d98eef85635980e577e5e9d499"), looks := true }, kinds := [], alts := [], laidByText := true, laidKinds := [.data, .data, .data, .data, .sentinel, .sentinel, .data, .pinned], laidTests := true, laidLooks := .later }
def FnExactReadBandCardSaid : Prop := Claim7.holds Tryd.pinned (.plain (OpenSpec.ofChange fnExactReadBandSpec)) fnExactReadBandCard

/-- THE TIED CARD OF 'laws.FnExactSiteText'. -/
def fnExactSiteTextCard : Claim7 := { stood := { row := fnExactSiteTextRow, standIns := [], harness := (true, "03b2b2b2b7009102b7a44d72d00343ebe8d153d98eef85635980e577e5e9d499"), looks := true }, kinds := [], alts := [], laidByText := true, laidKinds := [.data, .data, .data], laidTests := true, laidLooks := .later }
def FnExactSiteTextCardSaid : Prop := Claim7.holds Tryd.pinned (.plain (OpenSpec.ofChange fnExactSiteTextSpec)) fnExactSiteTextCard

/-- THE TIED CARD OF 'laws.FnExactReadSite'. -/
def fnExactReadSiteCard : Claim7 := { stood := { row := fnExactReadSiteRow, standIns := [], harness := (true, "03b2b2b2b7009102b7a44d72d00343ebe8d153d98eef85635980e577e5e9d499"), looks := true }, kinds := [], alts := [], laidByText := true, laidKinds := [.data, .data, .data, .data, .sentinel, .sentinel, .pinned], laidTests := true, laidLooks := .later }
def FnExactReadSiteCardSaid : Prop := Claim7.holds Tryd.pinned (.plain (OpenSpec.ofChange fnExactReadSiteSpec)) fnExactReadSiteCard

/-- THE TIED CARD OF 'laws.FnExactSectorText'. -/
def fnExactSectorTextCard : Claim7 := { stood := { row := fnExactSectorTextRow, standIns := [], harness := (true, "03b2b2b2b7009102b7a44d72d00343ebe8d153d98eef85635980e577e5e9d499"), looks := true }, kinds := [], alts := [], laidByText := true, laidKinds := [.data, .data, .data], laidTests := true, laidLooks := .later }
def FnExactSectorTextCardSaid : Prop := Claim7.holds Tryd.pinned (.plain (OpenSpec.ofChange fnExactSectorTextSpec)) fnExactSectorTextCard

/-- THE TIED CARD OF 'laws.FnExactReadSector'. -/
def fnExactReadSectorCard : Claim7 := { stood := { row := fnExactReadSectorRow, standIns := [], harness := (true, "03b2b2b2b7009102b7a44d72d00343ebe8d153d98eef85635980e577e5e9d499"), looks := true }, kinds := [], alts := [], laidByText := true, laidKinds := [.data, .data, .data, .data, .sentinel, .sentinel, .pinned], laidTests := true, laidLooks := .later }
def FnExactReadSectorCardSaid : Prop := Claim7.holds Tryd.pinned (.plain (OpenSpec.ofChange fnExactReadSectorSpec)) fnExactReadSectorCard

/-- THE TIED CARD OF 'laws.FnExactValidBands'. -/
def fnExactValidBandsCard : Claim7 := { stood := { row := fnExactValidBandsRow, standIns := [], harness := (true, "03b2b2b2b7009102b7a44d72d00343ebe8d153d98eef85635980e577e5e9d499"), looks := true }, kinds := [], alts := [], laidByText := true, laidKinds := [.data], laidTests := true, laidLooks := .later }
def FnExactValidBandsCardSaid : Prop := Claim7.holds Tryd.pinned (.plain (OpenSpec.ofChange fnExactValidBandsSpec)) fnExactValidBandsCard

/-- THE TIED CARD OF 'laws.FnExactBandNamed'. -/
def fnExactBandNamedCard : Claim7 := { stood := { row := fnExactBandNamedRow, standIns := [], harness := (true, "03b2b2b2b7009102b7a44d72d00343ebe8d153d98eef85635980e577e5e9d499"), looks := true }, kinds := [], alts := [], laidByText := true, laidKinds := [.data], laidTests := true, laidLooks := .later }
def FnExactBandNamedCardSaid : Prop := Claim7.holds Tryd.pinned (.plain (OpenSpec.ofChange fnExactBandNamedSpec)) fnExactBandNamedCard

/-- THE TIED CARD OF 'laws.FnChannels'. -/
def fnChannelsCard : Claim7 := { stood := { row := fnChannelsRow, standIns := [], harness := (true, "03b2b2b2b7009102b7a44d72d00343ebe8d153d98eef85635980e577e5e9d499"), looks := true }, kinds := [], alts := [], laidByText := true, laidKinds := [.data], laidTests := true, laidLooks := .later }
def FnChannelsCardSaid : Prop := Claim7.holds Tryd.pinned (.plain (OpenSpec.ofChange fnChannelsSpec)) fnChannelsCard

/-- THE SECOND FORM's CARD OF 'laws.FnExactBandText'. -/
def fnExactBandTextUptoCard : Claim7 := { stood := { row := fnExactBandTextUptoRow, standIns := [], harness := (true, "03b2b2b2b7009102b7a44d72d00343ebe8d153d98eef85635980e577e5e9d499"), looks := true }, kinds := [], alts := [], laidByText := true, laidKinds := [.data, .data, .data, .data], laidTests := true, laidLooks := .later }
def FnExactBandTextUptoCardSaid : Prop := Claim7.holds Tryd.pinned (.plain (OpenSpec.upto fnExactBandTextSpec)) fnExactBandTextUptoCard

/-- THE SECOND FORM's CARD OF 'laws.FnExactReadBand'. -/
def fnExactReadBandUptoCard : Claim7 := { stood := { row := fnExactReadBandUptoRow, standIns := [], harness := (true, "03b2b2b2b7009102b7a44d72d00343ebe8d153d98eef85635980e577e5e9d499"), looks := true }, kinds := [], alts := [], laidByText := true, laidKinds := [.data, .data, .data, .data, .sentinel, .sentinel, .data, .pinned], laidTests := true, laidLooks := .later }
def FnExactReadBandUptoCardSaid : Prop := Claim7.holds Tryd.pinned (.plain (OpenSpec.upto fnExactReadBandSpec)) fnExactReadBandUptoCard

/-- THE SECOND FORM's CARD OF 'laws.FnExactSiteText'. -/
def fnExactSiteTextUptoCard : Claim7 := { stood := { row := fnExactSiteTextUptoRow, standIns := [], harness := (true, "03b2b2b2b7009102b7a44d72d00343ebe8d153d98eef85635980e577e5e9d499"), looks := true }, kinds := [], alts := [], laidByText := true, laidKinds := [.data, .data, .data], laidTests := true, laidLooks := .later }
def FnExactSiteTextUptoCardSaid : Prop := Claim7.holds Tryd.pinned (.plain (OpenSpec.upto fnExactSiteTextSpec)) fnExactSiteTextUptoCard

/-- THE SECOND FORM's CARD OF 'laws.FnExactReadSite'. -/
def fnExactReadSiteUptoCard : Claim7 := { stood := { row := fnExactReadSiteUptoRow, standIns := [], harness := (true, "03b2b2b2b7009102b7a44d72d00343ebe8d153d98eef85635980e577e5e9d499"), looks := true }, kinds := [], alts := [], laidByText := true, laidKinds := [.data, .data, .data, .data, .sentinel, .sentinel, .pinned], laidTests := true, laidLooks := .later }
def FnExactReadSiteUptoCardSaid : Prop := Claim7.holds Tryd.pinned (.plain (OpenSpec.upto fnExactReadSiteSpec)) fnExactReadSiteUptoCard

/-- THE SECOND FORM's CARD OF 'laws.FnExactSectorText'. -/
def fnExactSectorTextUptoCard : Claim7 := { stood := { row := fnExactSectorTextUptoRow, standIns := [], harness := (true, "03b2b2b2b7009102b7a44d72d00343ebe8d153d98eef85635980e577e5e9d499"), looks := true }, kinds := [], alts := [], laidByText := true, laidKinds := [.data, .data, .data], laidTests := true, laidLooks := .later }
def FnExactSectorTextUptoCardSaid : Prop := Claim7.holds Tryd.pinned (.plain (OpenSpec.upto fnExactSectorTextSpec)) fnExactSectorTextUptoCard

/-- THE SECOND FORM's CARD OF 'laws.FnExactReadSector'. -/
def fnExactReadSectorUptoCard : Claim7 := { stood := { row := fnExactReadSectorUptoRow, standIns := [], harness := (true, "03b2b2b2b7009102b7a44d72d00343ebe8d153d98eef85635980e577e5e9d499"), looks := true }, kinds := [], alts := [], laidByText := true, laidKinds := [.data, .data, .data, .data, .sentinel, .sentinel, .pinned], laidTests := true, laidLooks := .later }
def FnExactReadSectorUptoCardSaid : Prop := Claim7.holds Tryd.pinned (.plain (OpenSpec.upto fnExactReadSectorSpec)) fnExactReadSectorUptoCard

/-- THE SECOND FORM's CARD OF 'laws.FnExactValidBands'. -/
def fnExactValidBandsUptoCard : Claim7 := { stood := { row := fnExactValidBandsUptoRow, standIns := [], harness := (true, "03b2b2b2b7009102b7a44d72d00343ebe8d153d98eef85635980e577e5e9d499"), looks := true }, kinds := [], alts := [], laidByText := true, laidKinds := [.data], laidTests := true, laidLooks := .later }
def FnExactValidBandsUptoCardSaid : Prop := Claim7.holds Tryd.pinned (.plain (OpenSpec.upto fnExactValidBandsSpec)) fnExactValidBandsUptoCard

/-- THE SECOND FORM's CARD OF 'laws.FnExactBandNamed'. -/
def fnExactBandNamedUptoCard : Claim7 := { stood := { row := fnExactBandNamedUptoRow, standIns := [], harness := (true, "03b2b2b2b7009102b7a44d72d00343ebe8d153d98eef85635980e577e5e9d499"), looks := true }, kinds := [], alts := [], laidByText := true, laidKinds := [.data], laidTests := true, laidLooks := .later }
def FnExactBandNamedUptoCardSaid : Prop := Claim7.holds Tryd.pinned (.plain (OpenSpec.upto fnExactBandNamedSpec)) fnExactBandNamedUptoCard

/-- THE SECOND FORM's CARD OF 'laws.FnChannels'. -/
def fnChannelsUptoCard : Claim7 := { stood := { row := fnChannelsUptoRow, standIns := [], harness := (true, "03b2b2b2b7009102b7a44d72d00343ebe8d153d98eef85635980e577e5e9d499"), looks := true }, kinds := [], alts := [], laidByText := true, laidKinds := [.data], laidTests := true, laidLooks := .later }
def FnChannelsUptoCardSaid : Prop := Claim7.holds Tryd.pinned (.plain (OpenSpec.upto fnChannelsSpec)) fnChannelsUptoCard
end Rows
end Go.Proofs.YtbmhhhhodlfcbaaDoor
